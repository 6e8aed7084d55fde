/-
  Joined: EdrDev5, EdrDev6, EdrDev7, RplDev, LawEdr, RplEnd, RplRun, LawEdr2, LawEdr3, RplRef.
-/
import Derived.Test.YtbagenpobcgjnaaGreatJSq
import Derived.Test.YtbagenpobcgjnaaGreatJEdrMath
import Derived.Test.YtbagenpobcgjnaaGreatJStepRef2
import Derived.Laws.ByValue
import Derived.Test.YtbagenpobcgjnaaGreatJStaSize
import Derived.Test.YtbagenpobcgjnaaGreatJWeldOf
import Derived.Test.YtbagenpobcgjnaaGreatJStaRight
import Derived.Deep.RegionHeld3
import Derived.Test.YtbagenpobcgjnaaGreatJOpenOps
import Derived.StillTailTactics
variable {t:ByteArray} {L:List ByteArray} {S:List Nat} {b be l rb:Nat} {p:Option Go.Addr} {A B w:Go.World}
namespace Go.Proofs.YtbagenpobcgjnaaGreat
open Go.Proofs.Tryz
set_option maxRecDepth 100000
open Lib (hid)
variable {T : List Nat}
open Go.RowKit
set_option linter.unusedVariables false
set_option linter.unusedSimpArgs false
set_option maxHeartbeats 400000 in
theorem QH (a:Option Addr) (n c:Nat) (w:World):Calls prog 154 #[stpV a n c] w fun e w'=>e=.returned (stpV a n c)∧Below w.heap.size w w':=by
 obtain ⟨W,hW,k0,k1,hb,hz⟩:=box2 w #[.slice a n c] #[.slice a n c] 54 54
 clear hW k0 k1 hb hz W
 go_enter func154,ntmps154
 go_wp2
 refine bodyPost_ret (results_cell_row (P:=prog) (fn:=Tryz.f154) (p:=2) (ty:=54) rfl _ _ (w.heap.size+1) 54 _ (0,0) _ rfl (by have h:=Blk.new (w.alloc (.cells #[.slice a n c] 54)) #[.slice a n c] 54;rw [World.size_alloc] at h;exact h) underlying54 rfl (by kernel_rfl)) rfl ?_
 exact ⟨rfl,below2 _ _ _⟩
set_option maxHeartbeats 800000 in
theorem lZ {m:KPc} {u ro:SPc} {g:EPc} (h:IsEd T w b ⟨t,m,u,ro,true,g⟩ rb p L):Calls prog 153 #[.pointer (some ⟨b,0,none⟩),.pointer (some ⟨b,4,none⟩),.pointer (some ⟨b,5,none⟩),.func (.func 87) #[] #[]] w (RetEd T w b ((Sta.d ⟨t,m,u,ro,true,g⟩),11)):=by
 have hbl:b<w.heap.size:=h.lt
 have ac:=hid (show Blk w b #[.bool true,.pointer (some ⟨rb,0,none⟩),.string ⟨#[]⟩,.slice m.a m.l.length m.c,.slice u.a u.l.length u.c,.slice ro.a ro.l.length ro.c,.bool true,.slice g.a g.l.length g.c] 100 from h.blk)
 have ad:=hid (h.rows)
 have aa:=hid ((Apart.refl [b] w))
 have ax:=hid (Below.refl w.heap.size w)
 have ay:=hid (Nat.le_refl w.heap.size)
 have ab:∀ W:World,w.heap.size≤W.heap.size→∀ i∈b::T,i<W.heap.size:=fun W hWz i hi=>by simp only [List.mem_cons] at hi;rcases hi with rfl|hi;all_goals first|omega|(have:=h.tlt i hi;omega)
 have az:=hid ab;have H:=hid h
 clear ab
 obtain ⟨ae,af,ag,ah,ai,aj,ak,al,am,an,ao,aq,ar,au,av,aw⟩:=ac.out.all8
 clear h
 go_enter func153,ntmps153
 go_wp2
 go_ret
 exact ⟨⟨t,m,u,ro,true,g⟩,rb,p,L,rfl,⟨ac.out,H.out.rope.apart H.out.blk rfl aa.out,ad.out,H.out.ml,H.out.mc,H.out.inv,fun i hi=>Nat.lt_of_lt_of_le (H.out.tlt i hi) (aa.out).size⟩,rfl,aa.out⟩
set_option maxHeartbeats 800000 in
theorem mA {m:KPc} {u ro:SPc} {g:EPc} (h:IsEd T w b ⟨t,m,u,ro,false,g⟩ rb p L) (h0:u.l.length=0):Calls prog 153 #[.pointer (some ⟨b,0,none⟩),.pointer (some ⟨b,4,none⟩),.pointer (some ⟨b,5,none⟩),.func (.func 87) #[] #[]] w (RetEd T w b ((Sta.d ⟨t,m,u,ro,false,g⟩),10)):=by
 have hbl:b<w.heap.size:=h.lt
 have aa:=hid (show Blk w b #[.bool true,.pointer (some ⟨rb,0,none⟩),.string ⟨#[]⟩,.slice m.a m.l.length m.c,.slice u.a u.l.length u.c,.slice ro.a ro.l.length ro.c,.bool false,.slice g.a g.l.length g.c] 100 from h.blk)
 have av:=hid (h.rows)
 have aw:=hid ((Apart.refl [b] w))
 have ax:=hid (Below.refl w.heap.size w)
 have ay:=hid (Nat.le_refl w.heap.size)
 have ab:∀ W:World,w.heap.size≤W.heap.size→∀ i∈b::T,i<W.heap.size:=fun W hWz i hi=>by simp only [List.mem_cons] at hi;rcases hi with rfl|hi;all_goals first|omega|(have:=h.tlt i hi;omega)
 have bi:=hid ab;have H:=hid h
 clear ab
 obtain ⟨ac,ad,ae,af,ag,ah,ai,aj,ak,al,am,an,ao,aq,ar,au⟩:=aa.out.all8
 have c0:u.l.length=0:=h0
 have cp:=fun W=>kX u.a u.c W
 have az:=hid (show ∀ W,Calls prog 183 #[.slice u.a u.l.length u.c] W _ from fun W=>by rw [h0];exact cp W)
 clear cp h c0 h0
 go_enter func153,ntmps153
 go_wp2_with fail
 refine (az.out _).mono ?_;rintro e w1 ⟨rfl,hb⟩
 clear ac ad ae af ag ah ai aj ak al am an ao aq ar au
 have a1:=hid (aa.out.onto hb)
 have bj:=hid (av.out.later hb)
 have bk:=hid (aw.out.trans (S':=[]) (.of_below hb) (by simp))
 have bl:=hid (Nat.le_trans ay.out hb.size)
 have a0:=hid (ax.out.trans (hb.mono ax.out.size))
 clear hb az aa av aw ay
 obtain ⟨a2,a3,a4,a5,a6,a7,a8,a9,ba,bb,bc,bd,be,bf,bg,bh⟩:=a1.out.all8
 go_wp2
 go_ret
 have hbw:=a0.out.alloc a0.out.size (.cells #[.slice none 0 0] 54)
 exact ⟨⟨t,m,u,ro,false,g⟩,rb,p,L,rfl,H.out.later hbw,rfl,.of_below hbw⟩
set_option maxHeartbeats 1600000 in
theorem nK {m:KPc} {u ro:SPc} {g:EPc} (h:IsEd T w b ⟨t,m,u,ro,false,g⟩ rb p L) (k:Nat) (hn:u.l.length=k+1):Calls prog 153 #[.pointer (some ⟨b,0,none⟩),.pointer (some ⟨b,4,none⟩),.pointer (some ⟨b,5,none⟩),.func (.func 87) #[] #[]] w (RetEd T w b (undoD (Sta.d ⟨t,m,u,ro,false,g⟩))):=by
 have hbl:b<w.heap.size:=h.lt
 have hk':(lsP u.l).length=k+1:=by rw [aG];exact hn
 have hst:(lsP u.l)[k]! = (u.l[k]!).l:=eI u.l k (by omega)
 obtain ⟨t',hrun,hv,hz⟩:=GN h.inv rfl hk'
 have hyes:=BT (s:=Sta.d ⟨t,m,u,ro,false,g⟩) rfl hk' hrun
 have hie:=sK h.inv
 have hlen:=(h.inv.ul.2 _ (fR (L:=lsP u.l) (k:=k) (by omega))).2
 have hok:=GZ (h.inv.ue _ (fR (L:=lsP u.l) (k:=k) (by omega)))
 have hx:∀ x∈u.l,x.l.length≤1000000:=bI fun y hy=>Nat.le_trans (h.inv.ul.2 y hy).2 (by decide)
 have h0:k≤900:=by have h2:(lsP u.l).length≤16:=h.inv.ul.1;omega
 have htl:ro.l.length≤900∧∀ x∈ro.l,x.l.length≤1000000:=by
  have h2:(lsP ro.l).length≤16:=h.inv.rl.1
  rw [aG] at h2
  exact ⟨by omega,bI fun y hy=>Nat.le_trans (h.inv.rl.2 y hy).2 (by decide)⟩
 replace hyes:undoD (Sta.d ⟨t,m,u,ro,false,g⟩)=((⟨t',shfL m.l (invL (lsP u.l)[k]!),(lsP u.l).take k,pushL (lsP ro.l) (lsP u.l)[k]!,false,g.l⟩:StaD),0):=hyes
 rw [hyes] at hie ⊢
 replace hrun:runE t (invL (lsP u.l)[k]!)=(t',0):=hrun
 replace hok:∀ x∈invL (lsP u.l)[k]!,okE5 x=true:=hok
 rw [hst] at hrun hlen hok hie ⊢
 obtain ⟨sl,hsl⟩:∃ sl,(u.l[k]!).l=sl:=⟨_,rfl⟩
 rw [hsl] at hrun hlen hok hie ⊢
 obtain ⟨rl,hrl⟩:∃ rl,invL sl=rl:=⟨_,rfl⟩
 have hrz:rl.length≤32:=by rw [← hrl,aF];exact hlen
 rw [hrl] at hrun hok hie ⊢
 have hms:=h.inv.shown hrun
 have hez:=h.inv.edz hok
 have hep:=oG (t:=t) h.inv.z hrun
 have hof:ofE t'=0:=pI hv hz
 have htz:t.size≤4096:=h.inv.z
 have hml:m.l.length≤1000000:=Nat.le_trans h.inv.ml (by decide)
 have hmc:m.l.length≤m.c∧m.c≤maxLen:=⟨h.ml,h.mc⟩
 have j3:=hid hrun;have kb:=hid hms;have h1:=hid hez;have kc:=hid hep;have kd:=hid hof;have ke:=hid hml;have kf:=hid hmc;have HI:=hid hie;have h6:=hid htl;have kg:=hid hsl
 clear hrun hms hez hep hof hml hmc hie htl hyes hok hst hk' hv
 have an:=hid (show Blk w b #[.bool true,.pointer (some ⟨rb,0,none⟩),.string ⟨#[]⟩,.slice m.a m.l.length m.c,.slice u.a u.l.length u.c,.slice ro.a ro.l.length ro.c,.bool false,.slice g.a g.l.length g.c] 100 from h.blk)
 have h7:=hid (h.rows)
 have h8:=hid ((Apart.refl [b] w))
 have h9:=hid (Below.refl w.heap.size w)
 have ia:=hid (Nat.le_refl w.heap.size)
 have ao:∀ W:World,w.heap.size≤W.heap.size→∀ i∈b::T,i<W.heap.size:=fun W hWz i hi=>by simp only [List.mem_cons] at hi;rcases hi with rfl|hi;all_goals first|omega|(have:=h.tlt i hi;omega)
 have aq:=hid ao;have H:=hid h
 clear ao
 obtain ⟨bw,bx,bz,b3,b4,b5,b6,b7,b8,b9,ca,cb,cc,cd,ce,cf⟩:=an.out.all8
 have cp:=fun W (hW:Below w.heap.size w W)=>(kU u.a u.l u.c k W (h.rows.u.later hW).in hn h0 hx).mono fun e w' hh=>mC (S:=b::T) hh (aq.out W hW.size)
 rw [← hn] at cp
 simp only [kg.out] at cp
 clear hn h0 hx
 have ct:=fun W (hW:Below w.heap.size w W)=>lE (h.rope.later hW)
 have CT:=hid ct;have ib:=hid cp
 clear cp ct h
 go_enter func153,ntmps153
 go_wp2_with fail
 refine (ib.out _ (Below.refl _ _)).mono ?_;rintro e w1 ⟨⟨xa,xl,xc⟩,a2,c2,rfl,hxl,hsx,ic,hb⟩
 clear bw bx bz b3 b4 b5 b6 b7 b8 b9 ca cb cc cd ce cf
 have ar:=hid (an.out.onto hb)
 have ie:=hid (h7.out.later hb)
 have ig:=hid (h8.out.trans (S':=[]) (.of_below hb) (by simp))
 have au:=hid (Nat.le_trans ia.out hb.size)
 have ih:=hid (h9.out.trans (hb.mono h9.out.size))
 have kh:=hid hxl
 have ii:=hid (hsx)
 have ij:=hid (ic)
 clear hb hxl hsx ic ib an h7 h8 ia
 obtain ⟨cg,ch,cj,ck,cl,cm,cn,cu,cv,cw,cx,cy,cz,c3,c4,c5⟩:=ar.out.all8
 have k4:w.heap.size≤w1.heap.size:=au.out
 obtain ⟨ik,hwA1,kA,hbA,hzA⟩:=box1 w1 #[.slice a2 sl.length c2] 54
 have av:=hid (ar.out.onto hbA)
 have il:=hid (ie.out.later hbA)
 have im:=hid (ii.out.later hbA)
 have aw:=hid (ij.out.later hbA)
 have io:=hid (ig.out.trans (S':=[]) (.of_below hbA) (by simp))
 have ax:=hid (Nat.le_trans au.out hbA.size)
 have ip:=hid (ih.out.trans (hbA.mono ih.out.size))
 have ay:=hid kA
 have az:w1.heap.size<ik.heap.size:=by omega
 have k9:=hid az
 clear kA hbA hzA az ar ie ii ij ig au
 obtain ⟨c6,c7,c8,c9,da,db,dc,dd,de,df,dg,dh,di,dj,dk,dl⟩:=av.out.all8
 obtain ⟨dm,dn⟩:=ay.out.all1
 have ci:=mX a2 sl c2 ik aw.out.in.row (by omega)
 rw [hrl] at ci
 have CI:=hid ci
 clear ci
 go_wp2_with fail
 refine (CI.out).mono ?_;rintro e w3 ⟨ra,rc,rfl,hrr,hb⟩
 clear cg ch cj ck cl cm cn cu cv cw cx cy cz c3 c4 c5 hwA1 c6 c7 c8 c9 da db dc dd de df dg dh di dj dk dl dm dn
 have a0:=hid (av.out.onto hb)
 have a1:=hid (ay.out.onto hb)
 have iq:=hid (il.out.later hb)
 have ir:=hid (im.out.later hb)
 have it:=hid (aw.out.later hb)
 have iu:=hid (io.out.trans (S':=[]) (.of_below hb) (by simp))
 have a3:=hid (Nat.le_trans ax.out hb.size)
 have iv:=hid (ip.out.trans (hb.mono ip.out.size))
 have iw:=hid (hrr.off (aq.out _ ax.out))
 clear hb hrr CI av ay il im aw io ax
 obtain ⟨dp,dq,dr,ds,dt,du,dv,dw,dx,dy,dz,d0,d1,d2,d3,d4⟩:=a0.out.all8
 obtain ⟨d5,d6⟩:=a1.out.all1
 have k5:w.heap.size≤w3.heap.size:=a3.out
 obtain ⟨ac,hwA3,kA,hbA,hzA⟩:=box1 w3 #[.slice ra rl.length rc] 54
 have af:=hid (a0.out.onto hbA)
 have a4:=hid (a1.out.onto hbA)
 have ix:=hid (iq.out.later hbA)
 have iy:=hid (ir.out.later hbA)
 have iz:=hid (it.out.later hbA)
 have a5:=hid (iw.out.later hbA)
 have i0:=hid (iu.out.trans (S':=[]) (.of_below hbA) (by simp))
 have i1:=hid (Nat.le_trans a3.out hbA.size)
 have a6:=hid (iv.out.trans (hbA.mono iv.out.size))
 have ag:=hid kA
 have a7:w3.heap.size<ac.heap.size:=by omega
 have la:=hid a7
 clear kA hbA hzA a7 a0 a1 iq ir it iw iu a3
 obtain ⟨d7,d8,d9,ea,eb,ec,ed,ee,ef,eg,eh,ei,ej,ek,el,em⟩:=af.out.all8
 obtain ⟨en,eo⟩:=a4.out.all1
 obtain ⟨eq,er⟩:=ag.out.all1
 have cr:=fun W (hW:Below ac.heap.size ac W)=>fW t ra rl rc W (a5.out.later hW).in.row (by omega) (by omega) h1.out
 rw [j3.out] at cr
 have CR:=hid cr
 clear cr
 have hfs:∀ W,Below ac.heap.size ac W→W.cell? ⟨b,1,none⟩=some (.pointer (some ⟨rb,0,none⟩))∧W.cell? ⟨w3.heap.size,0,none⟩=some (.slice ra rl.length rc):=fun W h=>⟨(af.out.onto h).cell 1 _ rfl,(ag.out.onto h).cell 0 _ rfl⟩
 have FS:=hid hfs
 clear hfs
 go_wp2_with fail
 clear dp dq dr ds dt du dv dw dx dy dz d0 d1 d2 d3 d4 d5 d6 hwA3 d7 d8 d9 ea eb ec ed ee ef eg eh ei ej ek el em en eo eq er
 refine wp_region_held_drew (S:=(fun W:World=>W.cell? ⟨b,1,none⟩=some (.pointer (some ⟨rb,0,none⟩))∧W.cell? ⟨w3.heap.size,0,none⟩=some (.slice ra rl.length rc))) (by kernel_rfl) (FS.out _ (Below.refl _ _).drew) (fun hHeld=>?_)
 refine sqt 0 ?_
 refine sqt 1 ?_
 refine sqt 2 ?_
 refine sqt 3 ?_
 refine sqt 5 ?_
 refine sqr 4 fun K hK=>?_
 go_simp
 (go_at_call 59;refine (CT.out _ a6.out.drew).mono ?_;rintro e y1 ⟨rfl,i2⟩;have ad:Below ac.heap.size ac y1:=(Below.refl _ _).drew.trans i2)
 try go_wp2_with fail
 refine hK.out _ _ ?_ (fun hHeld=>?_)
 ·exact FS.out _ ad
 clear hK K
 try simp only [Act.put,sqp]
 refine sqr 6 fun K hK=>?_
 go_simp
 (go_at_call 89;refine (CR.out _ ad).mono ?_;rintro e y2 ⟨rfl,i3⟩;have ab:Below ac.heap.size ac y2:=ad.trans (i3.mono ad.size))
 try go_wp2_with fail
 refine hK.out _ _ ?_ (fun hHeld=>?_)
 ·exact FS.out _ ab
 clear hK K
 try simp only [Act.put,sqp]
 refine sqt 7 ?_
 refine sqt 8 ?_
 refine sqt 9 ?_
 refine sqt 10 ?_
 refine sqt 11 ?_
 refine wpAnyH_done (by kernel_rfl) ?_ _
 have a8:=hid (af.out.onto ab)
 have a9:=hid (a4.out.onto ab)
 have ba:=hid (ag.out.onto ab)
 have i4:=hid (ix.out.later ab)
 have i5:=hid (iy.out.later ab)
 have i6:=hid (iz.out.later ab)
 have i7:=hid (a5.out.later ab)
 have i8:=hid (i0.out.trans (S':=[]) (.of_below ab) (by simp))
 have i9:=hid (Nat.le_trans i1.out ab.size)
 have ja:=hid (a6.out.trans (ab.mono a6.out.size))
 clear i2 ad i3 ab CT CR FS af a4 ag ix iy iz a5 i0 i1
 obtain ⟨es,et,eu,ev,ew,ey,ez,e0,e3,e4,e5,e6,e7,e8,e9,fa⟩:=a8.out.all8
 obtain ⟨fb,fc⟩:=a9.out.all1
 obtain ⟨fd,fe⟩:=ba.out.all1
 have co:=(yS t' (by unfold maxLen;omega) y2).mono fun e w' h=>h.yes kd.out
 have CO:=hid co
 clear co
 go_wp2_with fail
 refine (CO.out).mono ?_;rintro e w6 ⟨rb',p',L',rfl,hR,hb⟩
 clear es et eu ev ew ey ez e0 e3 e4 e5 e6 e7 e8 e9 fa fb fc fd fe
 have bb:=hid (a8.out.onto hb)
 have ae:=hid (a9.out.onto hb)
 have bc:=hid (ba.out.onto hb)
 have bd:=hid (i4.out.later hb)
 have jb:=hid (i5.out.later hb)
 have be:=hid (i6.out.later hb)
 have jc:=hid (i7.out.later hb)
 have jd:=hid (i8.out.trans (S':=[]) (.of_below hb) (by simp))
 have bf:=hid (Nat.le_trans i9.out hb.size)
 have je:=hid (ja.out.trans (hb.mono ja.out.size))
 have jf:=hid (hR)
 clear hb hR CO a8 a9 ba i4 i5 i6 i7 i8 i9
 obtain ⟨ff,fg,fh,fi,fj,ah,fk,fm,fn,fo,fp,fq,fr,fs,ft,fu⟩:=bb.out.all8
 obtain ⟨fv,fw⟩:=ae.out.all1
 obtain ⟨fx,fy⟩:=bc.out.all1
 have cq:=fun W (hW:Below w6.heap.size w6 W)=>(fX ro.a ro.l ro.c ⟨a2,sl,c2⟩ W (bd.out.r.later hW).in (be.out.later hW).in h6.out.1 h6.out.2 (by show sl.length≤1000000;omega)).mono fun e w' hh=>gU (S:=b::T) hh (aq.out W (Nat.le_trans bf.out hW.size))
 have CQ:=hid cq
 clear cq
 have q5:w6.drew.cell? ⟨b,5,none⟩=some (.slice ro.a ro.l.length ro.c):=ah
 go_wp2_with fail
 clear ff fg fh fi fj ah fk fm fn fo fp fq fr fs ft fu fv fw fx fy
 refine wp_region_held_drew (S:=(fun W:World=>W.cell? ⟨w1.heap.size,0,none⟩=some (.slice a2 sl.length c2))) (by kernel_rfl) (ae.out.cell 0 _ rfl) (fun hHeld=>?_)
 refine sqt 0 ?_
 refine sqt 1 ?_
 refine sqt 2 ?_
 refine sqt 3 ?_
 refine sqt 4 ?_
 refine sqt 6 ?_
 refine sqr 5 fun K hK=>?_
 go_simp
 skip
 try go_wp2_with fail
 refine hK.out _ _ ?_ (fun hHeld=>?_)
 ·exact hHeld
 clear hK K
 try simp only [Act.put,sqp]
 refine sqr 7 fun K hK=>?_
 go_simp
 (go_at_call 184;refine (CQ.out _ (Below.refl _ _).drew).mono ?_;rintro e y3 ⟨⟨za,zl,zc⟩,rfl,hzl,hsz,jg⟩;have aa:Below w6.heap.size w6 y3:=(Below.refl _ _).drew.trans jg)
 try go_wp2_with fail
 refine hK.out _ _ ?_ (fun hHeld=>?_)
 ·exact (ae.out.onto aa).cell 0 _ rfl
 clear hK K
 try simp only [Act.put,sqp]
 clear q5
 have ai:=hid (bb.out.onto aa)
 have aj:=hid (ae.out.onto aa)
 have bg:=hid (bc.out.onto aa)
 have jh:=hid (bd.out.later aa)
 have ji:=hid (jb.out.later aa)
 have jj:=hid (be.out.later aa)
 have jk:=hid (jc.out.later aa)
 have jl:=hid (jf.out.later aa)
 have jm:=hid (jd.out.trans (S':=[]) (.of_below aa) (by simp))
 have jn:=hid (Nat.le_trans bf.out aa.size)
 have lb:=hid (je.out.trans (aa.mono je.out.size))
 have ki:=hid hzl;have jo:=hid hsz
 clear hzl hsz jg aa CQ bb ae bc bd jb be jc jf jd bf
 obtain ⟨fz,f0,f1,f2,f3,f4,f5,f6,f7,f8,f9,ga,gb,gc,gd,gf⟩:=ai.out.all8
 obtain ⟨gg,gh⟩:=aj.out.all1
 obtain ⟨gi,gj⟩:=bg.out.all1
 refine sqt 8 ?_
 refine sqr 9 fun K hK=>?_
 go_simp
 skip
 try go_wp2_with fail
 refine hK.out _ _ ?_ (fun hHeld=>?_)
 ·exact (aj.out.other ⟨b,4,none⟩ (by show b≠w1.heap.size;omega) _).cell 0 _ rfl
 clear hK K
 try simp only [Act.put,sqp]
 refine sqt 10 ?_
 have kO:Blk (y3.setCell ⟨b,4,none⟩ (.slice xa xl.length xc)) (b) #[.bool true,.pointer (some ⟨rb,0,none⟩),.string ⟨#[]⟩,.slice m.a m.l.length m.c,.slice xa xl.length xc,.slice ro.a ro.l.length ro.c,.bool false,.slice g.a g.l.length g.c] 100:=(ai.out.set 4 _)
 have kP:Blk (y3.setCell ⟨b,4,none⟩ (.slice xa xl.length xc)) (w1.heap.size) #[.slice a2 sl.length c2] 54:=(aj.out.other ⟨b,4,none⟩ (by show b≠w1.heap.size;omega) _)
 have kQ:Blk (y3.setCell ⟨b,4,none⟩ (.slice xa xl.length xc)) (w3.heap.size) #[.slice ra rl.length rc] 54:=(bg.out.other ⟨b,4,none⟩ (by show b≠w3.heap.size;omega) _)
 have ap0:Apart [b] y3 (y3.setCell ⟨b,4,none⟩ (.slice xa xl.length xc)):=(Apart.refl [b] y3).setCell (p:=⟨b,4,none⟩) (.inl (by simp)) _
 have ap:Apart (b::T) y3 (y3.setCell ⟨b,4,none⟩ (.slice xa xl.length xc)):=(Apart.refl (b::T) y3).setCell (p:=⟨b,4,none⟩) (.inl (by simp)) _
 have rS:=jh.out.apart ap
 have rX:=ji.out.apart ap
 have rE:=jj.out.apart ap
 have rQ:=jk.out.apart ap
 have rN:=RopeW.apart jl.out ai.out rfl ap0
 have rZ:=jo.out.apart ap
 have hB:=((jm.out.setCell (p:=⟨b,4,none⟩) (by simp) _):Apart [b] w (y3.setCell ⟨b,4,none⟩ (.slice xa xl.length xc)))
 have hz:(y3.setCell ⟨b,4,none⟩ (.slice xa xl.length xc)).heap.size=y3.heap.size:=by simp
 obtain ⟨v8,bh⟩:∃ V,(y3.setCell ⟨b,4,none⟩ (.slice xa xl.length xc))=V:=⟨_,rfl⟩
 rw [bh] at kO kP kQ rS rX rE rQ rN rZ hB hz
 rw [bh]
 have ak:=hid kO
 have al:=hid kP
 have bi:=hid kQ
 have jp:=hid rS
 have jq:=hid rX
 have jr:=hid rE
 have js:=hid rQ
 have jt:=hid rN
 have ju:=hid rZ
 have jv:=hid hB
 have jw:=hid (Nat.le_trans jn.out (Nat.le_of_eq hz.symm))
 clear kO kP kQ rS rX rE rQ rN rZ hB hz ap ai aj bg jh ji jj jk jl jo jm jn
 obtain ⟨gk,gm,gn,gp,gq,gs,gt,gu,gv,gw,gx,gy,gz,g0,g1,g2⟩:=ak.out.all8
 obtain ⟨g3,g4⟩:=al.out.all1
 obtain ⟨g5,g6⟩:=bi.out.all1
 refine sqr 11 fun K hK=>?_
 go_simp
 skip
 try go_wp2_with fail
 refine hK.out _ _ ?_ (fun hHeld=>?_)
 ·exact (al.out.other ⟨b,5,none⟩ (by show b≠w1.heap.size;omega) _).cell 0 _ rfl
 clear hK K
 try simp only [Act.put,sqp]
 refine wpAnyH_done (by kernel_rfl) ?_ _
 have kO:Blk (v8.setCell ⟨b,5,none⟩ (.slice za zl.length zc)) (b) #[.bool true,.pointer (some ⟨rb,0,none⟩),.string ⟨#[]⟩,.slice m.a m.l.length m.c,.slice xa xl.length xc,.slice za zl.length zc,.bool false,.slice g.a g.l.length g.c] 100:=(ak.out.set 5 _)
 have kP:Blk (v8.setCell ⟨b,5,none⟩ (.slice za zl.length zc)) (w1.heap.size) #[.slice a2 sl.length c2] 54:=(al.out.other ⟨b,5,none⟩ (by show b≠w1.heap.size;omega) _)
 have kQ:Blk (v8.setCell ⟨b,5,none⟩ (.slice za zl.length zc)) (w3.heap.size) #[.slice ra rl.length rc] 54:=(bi.out.other ⟨b,5,none⟩ (by show b≠w3.heap.size;omega) _)
 have ap0:Apart [b] v8 (v8.setCell ⟨b,5,none⟩ (.slice za zl.length zc)):=(Apart.refl [b] v8).setCell (p:=⟨b,5,none⟩) (.inl (by simp)) _
 have ap:Apart (b::T) v8 (v8.setCell ⟨b,5,none⟩ (.slice za zl.length zc)):=(Apart.refl (b::T) v8).setCell (p:=⟨b,5,none⟩) (.inl (by simp)) _
 have rS:=jp.out.apart ap
 have rX:=jq.out.apart ap
 have rE:=jr.out.apart ap
 have rQ:=js.out.apart ap
 have rN:=RopeW.apart jt.out ak.out rfl ap0
 have rZ:=ju.out.apart ap
 have hB:=((jv.out.setCell (p:=⟨b,5,none⟩) (by simp) _):Apart [b] w (v8.setCell ⟨b,5,none⟩ (.slice za zl.length zc)))
 have hz:(v8.setCell ⟨b,5,none⟩ (.slice za zl.length zc)).heap.size=v8.heap.size:=by simp
 obtain ⟨v9,bj⟩:∃ V,(v8.setCell ⟨b,5,none⟩ (.slice za zl.length zc))=V:=⟨_,rfl⟩
 rw [bj] at kO kP kQ rS rX rE rQ rN rZ hB hz
 rw [bj]
 have am:=hid kO
 have bk:=hid kP
 have bl:=hid kQ
 have bm:=hid rS
 have jx:=hid rX
 have jy:=hid rE
 have bn:=hid rQ
 have jz:=hid rN
 have j0:=hid rZ
 have bo:=hid hB
 have j1:=hid (Nat.le_trans jw.out (Nat.le_of_eq hz.symm))
 clear kO kP kQ rS rX rE rQ rN rZ hB hz ap ak al bi jp jq jr js jt ju jv jw
 obtain ⟨g7,g8,g9,hc,hd,he,hf,hg,hj,hk,hl,hm,ho,hp,hq,hr⟩:=am.out.all8
 obtain ⟨hs,ht⟩:=bk.out.all1
 obtain ⟨hu,hw⟩:=bl.out.all1
 have csh:=lJ (made:=true) (r:=some ⟨rb,0,none⟩) (t:=⟨#[]⟩) (m:=m) (u:=⟨xa,xl,xc⟩) (ro:=⟨za,zl,zc⟩) (o:=false) (g:=g) am.out (fun i hi=>Nat.lt_of_lt_of_le (H.out.tlt i hi) bo.out.size) bm.out.m ke.out kf.out (some ⟨rb',0,none⟩) ⟨ra,rl,rc⟩ bn.out (by show rl.length≤100000;omega) h1.out kc.out kb.out
 have kj:=hid csh
 clear csh
 go_wp2_with fail
 refine (kj.out).mono ?_;rintro e wZ ⟨rfl,⟨ma,ml,mc⟩,bp,bq,j2,br,ha⟩
 clear fz f0 f1 f2 f3 f4 f5 f6 f7 f8 f9 ga gb gc gd gf gg gh gi gj bh gk gm gn gp gq gs gt gu gv gw gx gy gz g0 g1 g2 g3 g4 g5 g6 bj g7 g8 g9 hc hd he hf hg hj hk hl hm ho hp hq hr hs ht hu hw
 have bs:=hid (j2)
 have j4:=hid (bk.out.apart ha (by simp only [List.mem_singleton];omega))
 have j5:=hid (bl.out.apart ha (by simp only [List.mem_singleton];omega))
 have j6:=hid (bm.out.apart (ha.more (by simp)))
 have j7:=hid (jx.out.apart (ha.more (by simp)))
 have k6:=hid (jy.out.apart (ha.more (by simp)))
 have k7:=hid (bn.out.apart (ha.more (by simp)))
 have j8:=hid (RopeW.apart jz.out am.out rfl ha)
 have j9:=hid (j0.out.apart (ha.more (by simp)))
 have bu:=hid (bo.out.trans ha (by simp))
 have k8:=hid (Nat.le_trans j1.out ha.size)
 have bv:=hid (And.intro bp bq)
 have ka:=hid (br)
 clear ha bp bq j2 br am bk bl bm jx jy bn jz j0 bo j1
 obtain ⟨kk,kl,km,kn,ko,kp,kq,kr,ks,kt,ku,kv,kw,kx,ky,kz⟩:=bs.out.all8
 obtain ⟨k0,k1⟩:=j4.out.all1
 obtain ⟨k2,k3⟩:=j5.out.all1
 go_wp2
 go_ret
 have h3:ml=shfL m.l rl:=bv.out.1
 have h4:lsP xl=_:=kh.out
 have h5:lsP zl=_:=ki.out
 refine ⟨⟨t',⟨ma,ml,mc⟩,⟨xa,xl,xc⟩,⟨za,zl,zc⟩,false,g⟩,rb',p',L',rfl,⟨bs.out,j8.out,⟨ka.out,j7.out,j9.out,j6.out.g⟩,bv.out.2.1,bv.out.2.2,?_,fun i hi=>Nat.lt_of_lt_of_le (H.out.tlt i hi) bu.out.size⟩,?_,bu.out⟩
 ·show InvS (⟨t',ml,lsP xl,lsP zl,false,g.l⟩:StaD)
  rw [h3,h4,h5]
  exact HI.out
 ·show (⟨t',ml,lsP xl,lsP zl,false,g.l⟩:StaD)=_
  rw [h3,h4,h5]
set_option maxHeartbeats 800000 in
theorem lX {m:KPc} {u ro:SPc} {g:EPc} (h:IsEd T w b ⟨t,m,u,ro,true,g⟩ rb p L):Calls prog 153 #[.pointer (some ⟨b,0,none⟩),.pointer (some ⟨b,5,none⟩),.pointer (some ⟨b,4,none⟩),.func (.func 154) #[] #[]] w (RetEd T w b ((Sta.d ⟨t,m,u,ro,true,g⟩),11)):=by
 have hbl:b<w.heap.size:=h.lt
 have ac:=hid (show Blk w b #[.bool true,.pointer (some ⟨rb,0,none⟩),.string ⟨#[]⟩,.slice m.a m.l.length m.c,.slice u.a u.l.length u.c,.slice ro.a ro.l.length ro.c,.bool true,.slice g.a g.l.length g.c] 100 from h.blk)
 have ad:=hid (h.rows)
 have aa:=hid ((Apart.refl [b] w))
 have ax:=hid (Below.refl w.heap.size w)
 have ay:=hid (Nat.le_refl w.heap.size)
 have ab:∀ W:World,w.heap.size≤W.heap.size→∀ i∈b::T,i<W.heap.size:=fun W hWz i hi=>by simp only [List.mem_cons] at hi;rcases hi with rfl|hi;all_goals first|omega|(have:=h.tlt i hi;omega)
 have az:=hid ab;have H:=hid h
 clear ab
 obtain ⟨ae,af,ag,ah,ai,aj,ak,al,am,an,ao,aq,ar,au,av,aw⟩:=ac.out.all8
 clear h
 go_enter func153,ntmps153
 go_wp2
 go_ret
 exact ⟨⟨t,m,u,ro,true,g⟩,rb,p,L,rfl,⟨ac.out,H.out.rope.apart H.out.blk rfl aa.out,ad.out,H.out.ml,H.out.mc,H.out.inv,fun i hi=>Nat.lt_of_lt_of_le (H.out.tlt i hi) (aa.out).size⟩,rfl,aa.out⟩
set_option maxHeartbeats 800000 in
theorem lY {m:KPc} {u ro:SPc} {g:EPc} (h:IsEd T w b ⟨t,m,u,ro,false,g⟩ rb p L) (h0:ro.l.length=0):Calls prog 153 #[.pointer (some ⟨b,0,none⟩),.pointer (some ⟨b,5,none⟩),.pointer (some ⟨b,4,none⟩),.func (.func 154) #[] #[]] w (RetEd T w b ((Sta.d ⟨t,m,u,ro,false,g⟩),10)):=by
 have hbl:b<w.heap.size:=h.lt
 have aa:=hid (show Blk w b #[.bool true,.pointer (some ⟨rb,0,none⟩),.string ⟨#[]⟩,.slice m.a m.l.length m.c,.slice u.a u.l.length u.c,.slice ro.a ro.l.length ro.c,.bool false,.slice g.a g.l.length g.c] 100 from h.blk)
 have av:=hid (h.rows)
 have aw:=hid ((Apart.refl [b] w))
 have ax:=hid (Below.refl w.heap.size w)
 have ay:=hid (Nat.le_refl w.heap.size)
 have ab:∀ W:World,w.heap.size≤W.heap.size→∀ i∈b::T,i<W.heap.size:=fun W hWz i hi=>by simp only [List.mem_cons] at hi;rcases hi with rfl|hi;all_goals first|omega|(have:=h.tlt i hi;omega)
 have bi:=hid ab;have H:=hid h
 clear ab
 obtain ⟨ac,ad,ae,af,ag,ah,ai,aj,ak,al,am,an,ao,aq,ar,au⟩:=aa.out.all8
 have c0:ro.l.length=0:=h0
 have cp:=fun W=>kX ro.a ro.c W
 have az:=hid (show ∀ W,Calls prog 183 #[.slice ro.a ro.l.length ro.c] W _ from fun W=>by rw [h0];exact cp W)
 clear cp h c0 h0
 go_enter func153,ntmps153
 go_wp2_with fail
 refine (az.out _).mono ?_;rintro e w1 ⟨rfl,hb⟩
 clear ac ad ae af ag ah ai aj ak al am an ao aq ar au
 have a1:=hid (aa.out.onto hb)
 have bj:=hid (av.out.later hb)
 have bk:=hid (aw.out.trans (S':=[]) (.of_below hb) (by simp))
 have bl:=hid (Nat.le_trans ay.out hb.size)
 have a0:=hid (ax.out.trans (hb.mono ax.out.size))
 clear hb az aa av aw ay
 obtain ⟨a2,a3,a4,a5,a6,a7,a8,a9,ba,bb,bc,bd,be,bf,bg,bh⟩:=a1.out.all8
 go_wp2
 go_ret
 have hbw:=a0.out.alloc a0.out.size (.cells #[.slice none 0 0] 54)
 exact ⟨⟨t,m,u,ro,false,g⟩,rb,p,L,rfl,H.out.later hbw,rfl,.of_below hbw⟩
set_option maxHeartbeats 1600000 in
theorem mU {m:KPc} {u ro:SPc} {g:EPc} (h:IsEd T w b ⟨t,m,u,ro,false,g⟩ rb p L) (k:Nat) (hn:ro.l.length=k+1):Calls prog 153 #[.pointer (some ⟨b,0,none⟩),.pointer (some ⟨b,5,none⟩),.pointer (some ⟨b,4,none⟩),.func (.func 154) #[] #[]] w (RetEd T w b (redoD (Sta.d ⟨t,m,u,ro,false,g⟩))):=by
 have hbl:b<w.heap.size:=h.lt
 have hk':(lsP ro.l).length=k+1:=by rw [aG];exact hn
 have hst:(lsP ro.l)[k]! = (ro.l[k]!).l:=eI ro.l k (by omega)
 obtain ⟨t',hrun,hv,hz⟩:=KY h.inv hk'
 have hyes:=FY (s:=Sta.d ⟨t,m,u,ro,false,g⟩) rfl hk' hrun
 have hie:=uA h.inv
 have hlen:=(h.inv.rl.2 _ (fR (L:=lsP ro.l) (k:=k) (by omega))).2
 have hok:=h.inv.re _ (fR (L:=lsP ro.l) (k:=k) (by omega))
 have hs:∀ x∈ro.l,x.l.length≤1000000:=bI fun y hy=>Nat.le_trans (h.inv.rl.2 y hy).2 (by decide)
 have ht:k≤900:=by have h2:(lsP ro.l).length≤16:=h.inv.rl.1;omega
 have htl:u.l.length≤900∧∀ x∈u.l,x.l.length≤1000000:=by
  have h2:(lsP u.l).length≤16:=h.inv.ul.1
  rw [aG] at h2
  exact ⟨by omega,bI fun y hy=>Nat.le_trans (h.inv.ul.2 y hy).2 (by decide)⟩
 replace hyes:redoD (Sta.d ⟨t,m,u,ro,false,g⟩)=((⟨t',shfL m.l (lsP ro.l)[k]!,pushL (lsP u.l) (lsP ro.l)[k]!,(lsP ro.l).take k,false,g.l⟩:StaD),0):=hyes
 rw [hyes] at hie ⊢
 replace hrun:runE t ((lsP ro.l)[k]!)=(t',0):=hrun
 replace hok:∀ x∈(lsP ro.l)[k]!,okE5 x=true:=hok
 rw [hst] at hrun hlen hok hie ⊢
 obtain ⟨sl,hsl⟩:∃ sl,(ro.l[k]!).l=sl:=⟨_,rfl⟩
 rw [hsl] at hrun hlen hok hie ⊢
 have hms:=h.inv.shown hrun
 have hez:=h.inv.edz hok
 have hep:=oG (t:=t) h.inv.z hrun
 have hof:ofE t'=0:=pI hv hz
 have htz:t.size≤4096:=h.inv.z
 have hml:m.l.length≤1000000:=Nat.le_trans h.inv.ml (by decide)
 have hmc:m.l.length≤m.c∧m.c≤maxLen:=⟨h.ml,h.mc⟩
 have jv:=hid hrun;have j3:=hid hms;have hu:=hid hez;have j4:=hid hep;have j5:=hid hof;have j6:=hid hml;have j7:=hid hmc;have HI:=hid hie;have hw:=hid htl;have j8:=hid hsl
 clear hrun hms hez hep hof hml hmc hie htl hyes hok hst hk' hv
 have an:=hid (show Blk w b #[.bool true,.pointer (some ⟨rb,0,none⟩),.string ⟨#[]⟩,.slice m.a m.l.length m.c,.slice u.a u.l.length u.c,.slice ro.a ro.l.length ro.c,.bool false,.slice g.a g.l.length g.c] 100 from h.blk)
 have hx:=hid (h.rows)
 have h0:=hid ((Apart.refl [b] w))
 have h1:=hid (Below.refl w.heap.size w)
 have h6:=hid (Nat.le_refl w.heap.size)
 have ao:∀ W:World,w.heap.size≤W.heap.size→∀ i∈b::T,i<W.heap.size:=fun W hWz i hi=>by simp only [List.mem_cons] at hi;rcases hi with rfl|hi;all_goals first|omega|(have:=h.tlt i hi;omega)
 have h7:=hid ao;have H:=hid h
 clear ao
 obtain ⟨bs,bu,bv,bw,bx,bz,b3,b4,b5,b6,b7,b8,b9,ca,cb,cc⟩:=an.out.all8
 have cp:=fun W (hW:Below w.heap.size w W)=>(kU ro.a ro.l ro.c k W (h.rows.r.later hW).in hn ht hs).mono fun e w' hh=>mC (S:=b::T) hh (h7.out W hW.size)
 rw [← hn] at cp
 simp only [j8.out] at cp
 clear hn ht hs
 have ct:=fun W (hW:Below w.heap.size w W)=>lE (h.rope.later hW)
 have CT:=hid ct;have h8:=hid cp
 clear cp ct h
 go_enter func153,ntmps153
 go_wp2_with fail
 refine (h8.out _ (Below.refl _ _)).mono ?_;rintro e w1 ⟨⟨xa,xl,xc⟩,a2,c2,rfl,hxl,hsx,h9,hb⟩
 clear bs bu bv bw bx bz b3 b4 b5 b6 b7 b8 b9 ca cb cc
 have aq:=hid (an.out.onto hb)
 have ia:=hid (hx.out.later hb)
 have ib:=hid (h0.out.trans (S':=[]) (.of_below hb) (by simp))
 have ar:=hid (Nat.le_trans h6.out hb.size)
 have ic:=hid (h1.out.trans (hb.mono h1.out.size))
 have j9:=hid hxl
 have ie:=hid (hsx)
 have ig:=hid (h9)
 clear hb hxl hsx h9 h8 an hx h0 h6
 obtain ⟨cd,ce,cf,cg,ch,ci,cj,ck,cl,cm,cn,cu,cv,cw,cx,cy⟩:=aq.out.all8
 have kw:w.heap.size≤w1.heap.size:=ar.out
 obtain ⟨ih,hwA1,kA,hbA,hzA⟩:=box1 w1 #[.slice a2 sl.length c2] 54
 have au:=hid (aq.out.onto hbA)
 have ii:=hid (ia.out.later hbA)
 have ij:=hid (ie.out.later hbA)
 have ik:=hid (ig.out.later hbA)
 have il:=hid (ib.out.trans (S':=[]) (.of_below hbA) (by simp))
 have im:=hid (Nat.le_trans ar.out hbA.size)
 have io:=hid (ic.out.trans (hbA.mono ic.out.size))
 have av:=hid kA
 have aw:w1.heap.size<ih.heap.size:=by omega
 have k0:=hid aw
 clear kA hbA hzA aw aq ia ie ig ib ar
 obtain ⟨cz,c3,c4,c5,c6,c7,c8,c9,da,db,dc,dd,de,df,dg,dh⟩:=au.out.all8
 obtain ⟨di,dj⟩:=av.out.all1
 have CI:=hid (QH a2 sl.length c2 ih)
 go_wp2_with fail
 refine (CI.out).mono ?_;rintro e w3 ⟨rfl,hb⟩
 clear cd ce cf cg ch ci cj ck cl cm cn cu cv cw cx cy hwA1 cz c3 c4 c5 c6 c7 c8 c9 da db dc dd de df dg dh di dj
 have ax:=hid (au.out.onto hb)
 have ay:=hid (av.out.onto hb)
 have ip:=hid (ii.out.later hb)
 have iq:=hid (ij.out.later hb)
 have ir:=hid (ik.out.later hb)
 have it:=hid (il.out.trans (S':=[]) (.of_below hb) (by simp))
 have az:=hid (Nat.le_trans im.out hb.size)
 have iu:=hid (io.out.trans (hb.mono io.out.size))
 clear hb CI au av ii ij ik il im
 obtain ⟨dk,dl,dm,dn,dp,dq,dr,ds,dt,du,dv,dw,dx,dy,dz,d0⟩:=ax.out.all8
 obtain ⟨d1,d2⟩:=ay.out.all1
 have kx:w.heap.size≤w3.heap.size:=az.out
 obtain ⟨ac,hwA3,kA,hbA,hzA⟩:=box1 w3 #[.slice a2 sl.length c2] 54
 have af:=hid (ax.out.onto hbA)
 have a0:=hid (ay.out.onto hbA)
 have iv:=hid (ip.out.later hbA)
 have iw:=hid (iq.out.later hbA)
 have a1:=hid (ir.out.later hbA)
 have ix:=hid (it.out.trans (S':=[]) (.of_below hbA) (by simp))
 have iy:=hid (Nat.le_trans az.out hbA.size)
 have a3:=hid (iu.out.trans (hbA.mono iu.out.size))
 have ag:=hid kA
 have a4:w3.heap.size<ac.heap.size:=by omega
 have k1:=hid a4
 clear kA hbA hzA a4 ax ay ip iq ir it az
 obtain ⟨d3,d4,d5,d6,d7,d8,d9,ea,eb,ec,ed,ee,ef,eg,eh,ei⟩:=af.out.all8
 obtain ⟨ej,ek⟩:=a0.out.all1
 obtain ⟨el,em⟩:=ag.out.all1
 have cr:=fun W (hW:Below ac.heap.size ac W)=>fW t a2 sl c2 W (a1.out.later hW).in.row (by omega) (by omega) hu.out
 rw [jv.out] at cr
 have CR:=hid cr
 clear cr
 have hfs:∀ W,Below ac.heap.size ac W→W.cell? ⟨b,1,none⟩=some (.pointer (some ⟨rb,0,none⟩))∧W.cell? ⟨w3.heap.size,0,none⟩=some (.slice a2 sl.length c2):=fun W h=>⟨(af.out.onto h).cell 1 _ rfl,(ag.out.onto h).cell 0 _ rfl⟩
 have FS:=hid hfs
 clear hfs
 go_wp2_with fail
 clear dk dl dm dn dp dq dr ds dt du dv dw dx dy dz d0 d1 d2 hwA3 d3 d4 d5 d6 d7 d8 d9 ea eb ec ed ee ef eg eh ei ej ek el em
 refine wp_region_held_drew (S:=(fun W:World=>W.cell? ⟨b,1,none⟩=some (.pointer (some ⟨rb,0,none⟩))∧W.cell? ⟨w3.heap.size,0,none⟩=some (.slice a2 sl.length c2))) (by kernel_rfl) (FS.out _ (Below.refl _ _).drew) (fun hHeld=>?_)
 refine sqt 0 ?_
 refine sqt 1 ?_
 refine sqt 2 ?_
 refine sqt 3 ?_
 refine sqt 5 ?_
 refine sqr 4 fun K hK=>?_
 go_simp
 (go_at_call 59;refine (CT.out _ a3.out.drew).mono ?_;rintro e y1 ⟨rfl,iz⟩;have ad:Below ac.heap.size ac y1:=(Below.refl _ _).drew.trans iz)
 try go_wp2_with fail
 refine hK.out _ _ ?_ (fun hHeld=>?_)
 ·exact FS.out _ ad
 clear hK K
 try simp only [Act.put,sqp]
 refine sqr 6 fun K hK=>?_
 go_simp
 (go_at_call 89;refine (CR.out _ ad).mono ?_;rintro e y2 ⟨rfl,i0⟩;have ab:Below ac.heap.size ac y2:=ad.trans (i0.mono ad.size))
 try go_wp2_with fail
 refine hK.out _ _ ?_ (fun hHeld=>?_)
 ·exact FS.out _ ab
 clear hK K
 try simp only [Act.put,sqp]
 refine sqt 7 ?_
 refine sqt 8 ?_
 refine sqt 9 ?_
 refine sqt 10 ?_
 refine sqt 11 ?_
 refine wpAnyH_done (by kernel_rfl) ?_ _
 have a5:=hid (af.out.onto ab)
 have a6:=hid (a0.out.onto ab)
 have a7:=hid (ag.out.onto ab)
 have i1:=hid (iv.out.later ab)
 have i2:=hid (iw.out.later ab)
 have i3:=hid (a1.out.later ab)
 have i4:=hid (ix.out.trans (S':=[]) (.of_below ab) (by simp))
 have i5:=hid (Nat.le_trans iy.out ab.size)
 have i6:=hid (a3.out.trans (ab.mono a3.out.size))
 clear iz ad i0 ab CT CR FS af a0 ag iv iw a1 ix iy
 obtain ⟨en,eo,eq,er,es,et,eu,ev,ew,ey,ez,e0,e3,e4,e5,e6⟩:=a5.out.all8
 obtain ⟨e7,e8⟩:=a6.out.all1
 obtain ⟨e9,fa⟩:=a7.out.all1
 have co:=(yS t' (by unfold maxLen;omega) y2).mono fun e w' h=>h.yes j5.out
 have CO:=hid co
 clear co
 go_wp2_with fail
 refine (CO.out).mono ?_;rintro e w6 ⟨rb',p',L',rfl,hR,hb⟩
 clear en eo eq er es et eu ev ew ey ez e0 e3 e4 e5 e6 e7 e8 e9 fa
 have a8:=hid (a5.out.onto hb)
 have ae:=hid (a6.out.onto hb)
 have a9:=hid (a7.out.onto hb)
 have ba:=hid (i1.out.later hb)
 have i7:=hid (i2.out.later hb)
 have bb:=hid (i3.out.later hb)
 have i8:=hid (i4.out.trans (S':=[]) (.of_below hb) (by simp))
 have bc:=hid (Nat.le_trans i5.out hb.size)
 have i9:=hid (i6.out.trans (hb.mono i6.out.size))
 have ja:=hid (hR)
 clear hb hR CO a5 a6 a7 i1 i2 i3 i4 i5
 obtain ⟨fb,fc,fd,fe,ah,ff,fg,fh,fi,fj,fk,fm,fn,fo,fp,fq⟩:=a8.out.all8
 obtain ⟨fr,fs⟩:=ae.out.all1
 obtain ⟨ft,fu⟩:=a9.out.all1
 have cq:=fun W (hW:Below w6.heap.size w6 W)=>(fX u.a u.l u.c ⟨a2,sl,c2⟩ W (ba.out.u.later hW).in (bb.out.later hW).in hw.out.1 hw.out.2 (by show sl.length≤1000000;omega)).mono fun e w' hh=>gU (S:=b::T) hh (h7.out W (Nat.le_trans bc.out hW.size))
 have CQ:=hid cq
 clear cq
 have q5:w6.drew.cell? ⟨b,4,none⟩=some (.slice u.a u.l.length u.c):=ah
 go_wp2_with fail
 clear fb fc fd fe ah ff fg fh fi fj fk fm fn fo fp fq fr fs ft fu
 refine wp_region_held_drew (S:=(fun W:World=>W.cell? ⟨w1.heap.size,0,none⟩=some (.slice a2 sl.length c2))) (by kernel_rfl) (ae.out.cell 0 _ rfl) (fun hHeld=>?_)
 refine sqt 0 ?_
 refine sqt 1 ?_
 refine sqt 2 ?_
 refine sqt 3 ?_
 refine sqt 4 ?_
 refine sqt 6 ?_
 refine sqr 5 fun K hK=>?_
 go_simp
 skip
 try go_wp2_with fail
 refine hK.out _ _ ?_ (fun hHeld=>?_)
 ·exact hHeld
 clear hK K
 try simp only [Act.put,sqp]
 refine sqr 7 fun K hK=>?_
 go_simp
 (go_at_call 184;refine (CQ.out _ (Below.refl _ _).drew).mono ?_;rintro e y3 ⟨⟨za,zl,zc⟩,rfl,hzl,hsz,jb⟩;have aa:Below w6.heap.size w6 y3:=(Below.refl _ _).drew.trans jb)
 try go_wp2_with fail
 refine hK.out _ _ ?_ (fun hHeld=>?_)
 ·exact (ae.out.onto aa).cell 0 _ rfl
 clear hK K
 try simp only [Act.put,sqp]
 clear q5
 have ai:=hid (a8.out.onto aa)
 have aj:=hid (ae.out.onto aa)
 have bd:=hid (a9.out.onto aa)
 have jc:=hid (ba.out.later aa)
 have jd:=hid (i7.out.later aa)
 have je:=hid (bb.out.later aa)
 have jf:=hid (ja.out.later aa)
 have jg:=hid (i8.out.trans (S':=[]) (.of_below aa) (by simp))
 have jh:=hid (Nat.le_trans bc.out aa.size)
 have k2:=hid (i9.out.trans (aa.mono i9.out.size))
 have ka:=hid hzl;have ji:=hid hsz
 clear hzl hsz jb aa CQ a8 ae a9 ba i7 bb ja i8 bc
 obtain ⟨fv,fw,fx,fy,fz,f0,f1,f2,f3,f4,f5,f6,f7,f8,f9,ga⟩:=ai.out.all8
 obtain ⟨gb,gc⟩:=aj.out.all1
 obtain ⟨gd,gf⟩:=bd.out.all1
 refine sqt 8 ?_
 refine sqr 9 fun K hK=>?_
 go_simp
 skip
 try go_wp2_with fail
 refine hK.out _ _ ?_ (fun hHeld=>?_)
 ·exact (aj.out.other ⟨b,5,none⟩ (by show b≠w1.heap.size;omega) _).cell 0 _ rfl
 clear hK K
 try simp only [Act.put,sqp]
 refine sqt 10 ?_
 have kO:Blk (y3.setCell ⟨b,5,none⟩ (.slice xa xl.length xc)) (b) #[.bool true,.pointer (some ⟨rb,0,none⟩),.string ⟨#[]⟩,.slice m.a m.l.length m.c,.slice u.a u.l.length u.c,.slice xa xl.length xc,.bool false,.slice g.a g.l.length g.c] 100:=(ai.out.set 5 _)
 have kP:Blk (y3.setCell ⟨b,5,none⟩ (.slice xa xl.length xc)) (w1.heap.size) #[.slice a2 sl.length c2] 54:=(aj.out.other ⟨b,5,none⟩ (by show b≠w1.heap.size;omega) _)
 have kQ:Blk (y3.setCell ⟨b,5,none⟩ (.slice xa xl.length xc)) (w3.heap.size) #[.slice a2 sl.length c2] 54:=(bd.out.other ⟨b,5,none⟩ (by show b≠w3.heap.size;omega) _)
 have ap0:Apart [b] y3 (y3.setCell ⟨b,5,none⟩ (.slice xa xl.length xc)):=(Apart.refl [b] y3).setCell (p:=⟨b,5,none⟩) (.inl (by simp)) _
 have ap:Apart (b::T) y3 (y3.setCell ⟨b,5,none⟩ (.slice xa xl.length xc)):=(Apart.refl (b::T) y3).setCell (p:=⟨b,5,none⟩) (.inl (by simp)) _
 have rS:=jc.out.apart ap
 have rX:=jd.out.apart ap
 have rE:=je.out.apart ap
 have rN:=RopeW.apart jf.out ai.out rfl ap0
 have rZ:=ji.out.apart ap
 have hB:=((jg.out.setCell (p:=⟨b,5,none⟩) (by simp) _):Apart [b] w (y3.setCell ⟨b,5,none⟩ (.slice xa xl.length xc)))
 have hz:(y3.setCell ⟨b,5,none⟩ (.slice xa xl.length xc)).heap.size=y3.heap.size:=by simp
 obtain ⟨v8,be⟩:∃ V,(y3.setCell ⟨b,5,none⟩ (.slice xa xl.length xc))=V:=⟨_,rfl⟩
 rw [be] at kO kP kQ rS rX rE rN rZ hB hz
 rw [be]
 have ak:=hid kO
 have al:=hid kP
 have bf:=hid kQ
 have jj:=hid rS
 have jk:=hid rX
 have jl:=hid rE
 have jm:=hid rN
 have jn:=hid rZ
 have jo:=hid hB
 have jp:=hid (Nat.le_trans jh.out (Nat.le_of_eq hz.symm))
 clear kO kP kQ rS rX rE rN rZ hB hz ap ai aj bd jc jd je jf ji jg jh
 obtain ⟨gg,gh,gi,gj,gk,gm,gn,gp,gq,gs,gt,gu,gv,gw,gx,gy⟩:=ak.out.all8
 obtain ⟨gz,g0⟩:=al.out.all1
 obtain ⟨g1,g2⟩:=bf.out.all1
 refine sqr 11 fun K hK=>?_
 go_simp
 skip
 try go_wp2_with fail
 refine hK.out _ _ ?_ (fun hHeld=>?_)
 ·exact (al.out.other ⟨b,4,none⟩ (by show b≠w1.heap.size;omega) _).cell 0 _ rfl
 clear hK K
 try simp only [Act.put,sqp]
 refine wpAnyH_done (by kernel_rfl) ?_ _
 have kO:Blk (v8.setCell ⟨b,4,none⟩ (.slice za zl.length zc)) (b) #[.bool true,.pointer (some ⟨rb,0,none⟩),.string ⟨#[]⟩,.slice m.a m.l.length m.c,.slice za zl.length zc,.slice xa xl.length xc,.bool false,.slice g.a g.l.length g.c] 100:=(ak.out.set 4 _)
 have kP:Blk (v8.setCell ⟨b,4,none⟩ (.slice za zl.length zc)) (w1.heap.size) #[.slice a2 sl.length c2] 54:=(al.out.other ⟨b,4,none⟩ (by show b≠w1.heap.size;omega) _)
 have kQ:Blk (v8.setCell ⟨b,4,none⟩ (.slice za zl.length zc)) (w3.heap.size) #[.slice a2 sl.length c2] 54:=(bf.out.other ⟨b,4,none⟩ (by show b≠w3.heap.size;omega) _)
 have ap0:Apart [b] v8 (v8.setCell ⟨b,4,none⟩ (.slice za zl.length zc)):=(Apart.refl [b] v8).setCell (p:=⟨b,4,none⟩) (.inl (by simp)) _
 have ap:Apart (b::T) v8 (v8.setCell ⟨b,4,none⟩ (.slice za zl.length zc)):=(Apart.refl (b::T) v8).setCell (p:=⟨b,4,none⟩) (.inl (by simp)) _
 have rS:=jj.out.apart ap
 have rX:=jk.out.apart ap
 have rE:=jl.out.apart ap
 have rN:=RopeW.apart jm.out ak.out rfl ap0
 have rZ:=jn.out.apart ap
 have hB:=((jo.out.setCell (p:=⟨b,4,none⟩) (by simp) _):Apart [b] w (v8.setCell ⟨b,4,none⟩ (.slice za zl.length zc)))
 have hz:(v8.setCell ⟨b,4,none⟩ (.slice za zl.length zc)).heap.size=v8.heap.size:=by simp
 obtain ⟨v9,bg⟩:∃ V,(v8.setCell ⟨b,4,none⟩ (.slice za zl.length zc))=V:=⟨_,rfl⟩
 rw [bg] at kO kP kQ rS rX rE rN rZ hB hz
 rw [bg]
 have am:=hid kO
 have bh:=hid kP
 have bi:=hid kQ
 have bj:=hid rS
 have jq:=hid rX
 have bk:=hid rE
 have jr:=hid rN
 have js:=hid rZ
 have bl:=hid hB
 have jt:=hid (Nat.le_trans jp.out (Nat.le_of_eq hz.symm))
 clear kO kP kQ rS rX rE rN rZ hB hz ap ak al bf jj jk jl jm jn jo jp
 obtain ⟨g3,g4,g5,g6,g7,g8,g9,hc,hd,he,hf,hg,hj,hk,hl,hm⟩:=am.out.all8
 obtain ⟨ho,hp⟩:=bh.out.all1
 obtain ⟨hq,hr⟩:=bi.out.all1
 have csh:=lJ (made:=true) (r:=some ⟨rb,0,none⟩) (t:=⟨#[]⟩) (m:=m) (u:=⟨za,zl,zc⟩) (ro:=⟨xa,xl,xc⟩) (o:=false) (g:=g) am.out (fun i hi=>Nat.lt_of_lt_of_le (H.out.tlt i hi) bl.out.size) bj.out.m j6.out j7.out (some ⟨rb',0,none⟩) ⟨a2,sl,c2⟩ bk.out (by show sl.length≤100000;omega) hu.out j4.out j3.out
 have kb:=hid csh
 clear csh
 go_wp2_with fail
 refine (kb.out).mono ?_;rintro e wZ ⟨rfl,⟨ma,ml,mc⟩,bm,bn,ju,bo,ha⟩
 clear fv fw fx fy fz f0 f1 f2 f3 f4 f5 f6 f7 f8 f9 ga gb gc gd gf be gg gh gi gj gk gm gn gp gq gs gt gu gv gw gx gy gz g0 g1 g2 bg g3 g4 g5 g6 g7 g8 g9 hc hd he hf hg hj hk hl hm ho hp hq hr
 have bp:=hid (ju)
 have jw:=hid (bh.out.apart ha (by simp only [List.mem_singleton];omega))
 have jx:=hid (bi.out.apart ha (by simp only [List.mem_singleton];omega))
 have jy:=hid (bj.out.apart (ha.more (by simp)))
 have jz:=hid (jq.out.apart (ha.more (by simp)))
 have ky:=hid (bk.out.apart (ha.more (by simp)))
 have j0:=hid (RopeW.apart jr.out am.out rfl ha)
 have j1:=hid (js.out.apart (ha.more (by simp)))
 have bq:=hid (bl.out.trans ha (by simp))
 have kz:=hid (Nat.le_trans jt.out ha.size)
 have br:=hid (And.intro bm bn)
 have j2:=hid (bo)
 clear ha bm bn ju bo am bh bi bj jq bk jr js bl jt
 obtain ⟨kc,kd,ke,kf,kg,kh,ki,kj,kk,kl,km,kn,ko,kp,kq,kr⟩:=bp.out.all8
 obtain ⟨ks,kt⟩:=jw.out.all1
 obtain ⟨ku,kv⟩:=jx.out.all1
 go_wp2
 go_ret
 have h3:ml=shfL m.l sl:=br.out.1
 have h4:lsP xl=_:=j9.out
 have h5:lsP zl=_:=ka.out
 refine ⟨⟨t',⟨ma,ml,mc⟩,⟨za,zl,zc⟩,⟨xa,xl,xc⟩,false,g⟩,rb',p',L',rfl,⟨bp.out,j0.out,⟨j2.out,j1.out,jz.out,jy.out.g⟩,br.out.2.1,br.out.2.2,?_,fun i hi=>Nat.lt_of_lt_of_le (H.out.tlt i hi) bq.out.size⟩,?_,bq.out⟩
 ·show InvS (⟨t',ml,lsP zl,lsP xl,false,g.l⟩:StaD)
  rw [h3,h4,h5]
  exact HI.out
 ·show (⟨t',ml,lsP zl,lsP xl,false,g.l⟩:StaD)=_
  rw [h3,h4,h5]
theorem tD {s:Sta} (h:IsEd T w b s rb p L):Calls prog 153 #[.pointer (some ⟨b,0,none⟩),.pointer (some ⟨b,4,none⟩),.pointer (some ⟨b,5,none⟩),.func (.func 87) #[] #[]] w (RetEd T w b (undoD s.d)):=by
 obtain ⟨t,m,u,ro,so,g⟩:=s
 cases so with
 | true =>
  have e:undoD (Sta.d ⟨t,m,u,ro,true,g⟩)=(Sta.d ⟨t,m,u,ro,true,g⟩,11):=by unfold undoD;exact if_pos rfl
  rw [e]
  exact lZ h
 | false =>
  cases hn:u.l.length with
  | zero =>
   have e:undoD (Sta.d ⟨t,m,u,ro,false,g⟩)=(Sta.d ⟨t,m,u,ro,false,g⟩,10):=by unfold undoD;exact (if_neg (fun h=>by cases h)).trans (if_pos (show (lsP u.l).length=0 by rw [aG];exact hn))
   rw [e]
   exact mA h hn
  | succ k=>exact nK h k hn
set_option maxHeartbeats 800000 in
theorem MK {s:Sta} (h:IsEd T w b s rb p L) (k i n:Int) (x:ByteArray):Calls prog 122 #[.pointer (some ⟨b,0,none⟩),(.agg #[.int .i64 k,.int .i64 i,.int .i64 n,.string x])] w (RetEd T w b (undoD s.d)):=by
 obtain ⟨wX,hwX,kE,aa,hz⟩:=box1 w #[.int .i64 k,.int .i64 i,.int .i64 n,.string x] 50
 have ct:=fun W (hW:Below w.heap.size w W)=>tD (h.later hW)
 obtain ⟨R,hR⟩:∃ R,undoD s.d=R:=⟨_,rfl⟩
 rw [hR] at ct ⊢
 obtain ⟨Rs,Re⟩:=R
 have CT:=hid ct;have ab:=hid aa
 clear ct hR kE aa hz h
 go_enter func122,ntmps122
 go_wp2_with fail
 refine wp_region_held_drew (S:=(fun _:World=>True)) (by kernel_rfl) True.intro (fun hHeld=>?_)
 refine sqt 0 ?_
 refine sqt 1 ?_
 refine sqt 2 ?_
 refine sqt 3 ?_
 refine sqt 4 ?_
 refine sqt 5 ?_
 refine sqt 6 ?_
 refine sqt 7 ?_
 refine sqt 8 ?_
 refine sqr 9 fun K hK=>?_
 go_simp
 (go_at_call 153;refine (CT.out _ (ab.out.drew)).mono ?_;rintro e w1 ⟨s1,rb1,p1,L1,rfl,ac,ad,ae⟩;have HQ:=hid (And.intro ac (And.intro ad ae));clear ac ad ae)
 try go_wp2_with fail
 refine hK.out _ _ ?_ (fun hHeld=>?_)
 ·exact True.intro
 clear hK K
 try simp only [Act.put,sqp]
 refine sqt 10 ?_
 refine wpAnyH_done (by kernel_rfl) ?_ _
 go_wp2
 go_ret
 exact ⟨s1,rb1,p1,L1,rfl,HQ.out.1,HQ.out.2.1,(Apart.of_below (S:=[b]) ab.out.drew).trans HQ.out.2.2 (fun x hx=>.inl hx)⟩
theorem tA {s:Sta} (h:IsEd T w b s rb p L):Calls prog 153 #[.pointer (some ⟨b,0,none⟩),.pointer (some ⟨b,5,none⟩),.pointer (some ⟨b,4,none⟩),.func (.func 154) #[] #[]] w (RetEd T w b (redoD s.d)):=by
 obtain ⟨t,m,u,ro,so,g⟩:=s
 cases so with
 | true =>
  have e:redoD (Sta.d ⟨t,m,u,ro,true,g⟩)=(Sta.d ⟨t,m,u,ro,true,g⟩,11):=by unfold redoD;exact if_pos rfl
  rw [e]
  exact lX h
 | false =>
  cases hn:ro.l.length with
  | zero =>
   have e:redoD (Sta.d ⟨t,m,u,ro,false,g⟩)=(Sta.d ⟨t,m,u,ro,false,g⟩,10):=by unfold redoD;exact (if_neg (fun h=>by cases h)).trans (if_pos (show (lsP ro.l).length=0 by rw [aG];exact hn))
   rw [e]
   exact lY h hn
  | succ k=>exact mU h k hn
set_option maxHeartbeats 800000 in
theorem NU {s:Sta} (h:IsEd T w b s rb p L) (k i n:Int) (x:ByteArray):Calls prog 123 #[.pointer (some ⟨b,0,none⟩),(.agg #[.int .i64 k,.int .i64 i,.int .i64 n,.string x])] w (RetEd T w b (redoD s.d)):=by
 obtain ⟨wX,hwX,kE,aa,hz⟩:=box1 w #[.int .i64 k,.int .i64 i,.int .i64 n,.string x] 50
 have ct:=fun W (hW:Below w.heap.size w W)=>tA (h.later hW)
 obtain ⟨R,hR⟩:∃ R,redoD s.d=R:=⟨_,rfl⟩
 rw [hR] at ct ⊢
 obtain ⟨Rs,Re⟩:=R
 have CT:=hid ct;have ab:=hid aa
 clear ct hR kE aa hz h
 go_enter func123,ntmps123
 go_wp2_with fail
 refine wp_region_held_drew (S:=(fun _:World=>True)) (by kernel_rfl) True.intro (fun hHeld=>?_)
 refine sqt 0 ?_
 refine sqt 1 ?_
 refine sqt 2 ?_
 refine sqt 3 ?_
 refine sqt 4 ?_
 refine sqt 5 ?_
 refine sqt 6 ?_
 refine sqt 7 ?_
 refine sqt 8 ?_
 refine sqr 9 fun K hK=>?_
 go_simp
 (go_at_call 153;refine (CT.out _ (ab.out.drew)).mono ?_;rintro e w1 ⟨s1,rb1,p1,L1,rfl,ac,ad,ae⟩;have HQ:=hid (And.intro ac (And.intro ad ae));clear ac ad ae)
 try go_wp2_with fail
 refine hK.out _ _ ?_ (fun hHeld=>?_)
 ·exact True.intro
 clear hK K
 try simp only [Act.put,sqp]
 refine sqt 10 ?_
 refine wpAnyH_done (by kernel_rfl) ?_ _
 go_wp2
 go_ret
 exact ⟨s1,rb1,p1,L1,rfl,HQ.out.1,HQ.out.2.1,(Apart.of_below (S:=[b]) ab.out.drew).trans HQ.out.2.2 (fun x hx=>.inl hx)⟩
set_option maxHeartbeats 400000 in
theorem AK (w:World):Calls prog 96 #[.int .i64 1] w fun e w'=>e=.returned (.func (.func 118) #[] #[])∧w=w':=by
 go_enter func96,ntmps96
 go_wp2
 go_ret
 exact ⟨rfl,rfl⟩
set_option maxHeartbeats 400000 in
theorem AN (w:World):Calls prog 96 #[.int .i64 2] w fun e w'=>e=.returned (.func (.func 119) #[] #[])∧w=w':=by
 go_enter func96,ntmps96
 go_wp2
 go_ret
 exact ⟨rfl,rfl⟩
set_option maxHeartbeats 400000 in
theorem zU (w:World):Calls prog 96 #[.int .i64 3] w fun e w'=>e=.returned (.func (.func 120) #[] #[])∧w=w':=by
 go_enter func96,ntmps96
 go_wp2
 go_ret
 exact ⟨rfl,rfl⟩
set_option maxHeartbeats 400000 in
theorem zN (w:World):Calls prog 96 #[.int .i64 4] w fun e w'=>e=.returned (.func (.func 121) #[] #[])∧w=w':=by
 go_enter func96,ntmps96
 go_wp2
 go_ret
 exact ⟨rfl,rfl⟩
set_option maxHeartbeats 400000 in
theorem yZ (w:World):Calls prog 96 #[.int .i64 5] w fun e w'=>e=.returned (.func (.func 122) #[] #[])∧w=w':=by
 go_enter func96,ntmps96
 go_wp2
 go_ret
 exact ⟨rfl,rfl⟩
set_option maxHeartbeats 400000 in
theorem yC (w:World):Calls prog 96 #[.int .i64 6] w fun e w'=>e=.returned (.func (.func 123) #[] #[])∧w=w':=by
 go_enter func96,ntmps96
 go_wp2
 go_ret
 exact ⟨rfl,rfl⟩
set_option maxHeartbeats 400000 in
theorem AA (w:World):Calls prog 96 #[.int .i64 7] w fun e w'=>e=.returned (.func (.func 124) #[] #[])∧w=w':=by
 go_enter func96,ntmps96
 go_wp2
 go_ret
 exact ⟨rfl,rfl⟩
set_option maxHeartbeats 400000 in
theorem AQ (w:World):Calls prog 96 #[.int .i64 8] w fun e w'=>e=.returned (.func (.func 125) #[] #[])∧w=w':=by
 go_enter func96,ntmps96
 go_wp2
 go_ret
 exact ⟨rfl,rfl⟩
set_option maxHeartbeats 400000 in
theorem sO (k:Int) (hk:¬ (1≤k∧k≤8)) (w:World):Calls prog 96 #[.int .i64 k] w fun e w'=>e=.returned .nilFunc∧w=w':=by
 have q1:(k == 1)=false:=beq_eq_false_iff_ne.2 (by omega)
 have q2:(k == 2)=false:=beq_eq_false_iff_ne.2 (by omega)
 have q3:(k == 3)=false:=beq_eq_false_iff_ne.2 (by omega)
 have q4:(k == 4)=false:=beq_eq_false_iff_ne.2 (by omega)
 have q5:(k == 5)=false:=beq_eq_false_iff_ne.2 (by omega)
 have q6:(k == 6)=false:=beq_eq_false_iff_ne.2 (by omega)
 have q7:(k == 7)=false:=beq_eq_false_iff_ne.2 (by omega)
 have q8:(k == 8)=false:=beq_eq_false_iff_ne.2 (by omega)
 go_enter func96,ntmps96
 go_wp2
 go_ret
 exact ⟨rfl,rfl⟩
theorem OI (w:World):(binOp .eql 136 (.func (.func 118) #[] #[]) .nilFunc).run prog w=.ok (.bool false) w:=by kernel_rfl
theorem PP (w:World):(binOp .eql 136 (.func (.func 119) #[] #[]) .nilFunc).run prog w=.ok (.bool false) w:=by kernel_rfl
theorem PI (w:World):(binOp .eql 136 (.func (.func 120) #[] #[]) .nilFunc).run prog w=.ok (.bool false) w:=by kernel_rfl
theorem PA (w:World):(binOp .eql 136 (.func (.func 121) #[] #[]) .nilFunc).run prog w=.ok (.bool false) w:=by kernel_rfl
theorem OX (w:World):(binOp .eql 136 (.func (.func 122) #[] #[]) .nilFunc).run prog w=.ok (.bool false) w:=by kernel_rfl
theorem PX (w:World):(binOp .eql 136 (.func (.func 123) #[] #[]) .nilFunc).run prog w=.ok (.bool false) w:=by kernel_rfl
theorem PH (w:World):(binOp .eql 136 (.func (.func 124) #[] #[]) .nilFunc).run prog w=.ok (.bool false) w:=by kernel_rfl
theorem OD (w:World):(binOp .eql 136 (.func (.func 125) #[] #[]) .nilFunc).run prog w=.ok (.bool false) w:=by kernel_rfl
theorem OH (w:World):(binOp .eql 136 .nilFunc .nilFunc).run prog w=.ok (.bool true) w:=by kernel_rfl
set_option maxHeartbeats 800000 in
theorem eN {s:Sta} (h:IsEd T w b s rb p L) (k:Int) {F:FuncId} (ent:∀ (args:Array Value) (w:World),(callFunc F args).run prog w=.ok (.enter F args) w)
 (cm:∀ w:World,Calls prog 96 #[.int .i64 k] w fun e w'=>e=.returned (.func (.func F) #[] #[])∧w=w')
 (cq:∀ w:World,(binOp .eql 136 (.func (.func F) #[] #[]) .nilFunc).run prog w=.ok (.bool false) w)
 (i n:Int) (x:ByteArray) {R:StaD×Int} (hc:∀ W,Below w.heap.size w W→Calls prog F #[.pointer (some ⟨b,0,none⟩),(.agg #[.int .i64 k,.int .i64 i,.int .i64 n,.string x])] W (RetEd T W b R)) :
 Calls prog 61 #[.pointer (some ⟨b,0,none⟩),(.agg #[.int .i64 k,.int .i64 i,.int .i64 n,.string x])] w (RetEd T w b R):=by
 obtain ⟨Rs,Re⟩:=R
 obtain ⟨wX,hwX,kE,aa,hz⟩:=box1 w #[.int .i64 k,.int .i64 i,.int .i64 n,.string x] 50
 have cn:=fun W (hW:Below wX.heap.size wX W)=>mQ ((h.later aa).later hW).blk
 have cf:=EF true (some ⟨rb,0,none⟩) ⟨#[]⟩ s.m.a s.m.l.length s.m.c s.u.a s.u.l.length s.u.c s.r.a s.r.l.length s.r.c s.o s.g.a s.g.l.length s.g.c
 have CN:=hid cn;have CM:=hid cm;have CC:=hid hc;have ac:=hid aa;have KE:=hid kE
 obtain ⟨z0,z1,z2,z3,-,-,-,-⟩:=kE.four
 clear cn cm kE aa hz h hc
 go_enter func61,ntmps61
 go_wp2_with fail
 refine (CM.out _).mono ?_;rintro e w1 ⟨rfl,rfl⟩
 go_wp2_with fail
 refine (CN.out _ (Below.refl _ _)).mono ?_;rintro e w1 ⟨rfl,ab⟩
 have ad:=hid (ac.out.trans (ab.mono ac.out.size))
 clear z0 z1 z2 z3 hwX
 obtain ⟨z0,z1,z2,z3,-,-,-,-⟩:=(KE.out.onto ab).four
 clear ab
 go_wp2_with fail
 refine (CC.out _ ad.out).mono ?_;rintro e w2 ⟨s1,rb1,p1,L1,rfl,ae,af,ag⟩
 have HQ:=hid (And.intro ae (And.intro af ag))
 clear ae af ag z0 z1 z2 z3
 go_wp2
 go_ret
 exact ⟨s1,rb1,p1,L1,rfl,HQ.out.1,HQ.out.2.1,(Apart.of_below (S:=[b]) ad.out).trans HQ.out.2.2 (fun x hx=>.inl hx)⟩
set_option maxHeartbeats 800000 in
theorem JY {s:Sta} (h:IsEd T w b s rb p L) (k i n:Int) (x:ByteArray) (hk:¬ (1≤k∧k≤8)) :
 Calls prog 61 #[.pointer (some ⟨b,0,none⟩),(.agg #[.int .i64 k,.int .i64 i,.int .i64 n,.string x])] w (RetEd T w b (s.d,2)):=by
 obtain ⟨wX,hwX,kE,aa,hz⟩:=box1 w #[.int .i64 k,.int .i64 i,.int .i64 n,.string x] 50
 have cn:=fun W (hW:Below wX.heap.size wX W)=>mQ ((h.later aa).later hW).blk
 have cf:=EF true (some ⟨rb,0,none⟩) ⟨#[]⟩ s.m.a s.m.l.length s.m.c s.u.a s.u.l.length s.u.c s.r.a s.r.l.length s.r.c s.o s.g.a s.g.l.length s.g.c
 have cq:=OH
 have CN:=hid cn;have CM:=hid (sO k hk);have ab:=hid aa;have H:=hid h
 obtain ⟨z0,z1,z2,z3,-,-,-,-⟩:=kE.four
 clear cn kE aa hz h hk
 go_enter func61,ntmps61
 go_wp2_with fail
 refine (CM.out _).mono ?_;rintro e w1 ⟨rfl,rfl⟩
 go_wp2_with fail
 refine (CN.out _ (Below.refl _ _)).mono ?_;rintro e w1 ⟨rfl,ac⟩
 have ad:=hid (ab.out.trans (ac.mono ab.out.size))
 clear z0 z1 z2 z3 hwX ac
 go_wp2
 go_ret
 exact ⟨s,rb,p,L,rfl,H.out.later ad.out,rfl,.of_below ad.out⟩
theorem DY {s:Sta} (h:IsEd T w b s rb p L) (k i n:Int) (x:ByteArray) (hi:i64P i) (hx:x.size≤1000000) :
 Calls prog 61 #[.pointer (some ⟨b,0,none⟩),(.agg #[.int .i64 k,.int .i64 i,.int .i64 n,.string x])] w (RetEd T w b (doD s.d k i n x)):=by
 by_cases hk:1≤k∧k≤8
 case neg =>
  have e:doD s.d k i n x=(s.d,2):=by
   unfold doD
   rw [if_neg (by omega),if_neg (by omega),if_neg (by omega),if_neg (by omega),if_neg (by omega),if_neg (by omega),if_neg (by omega),if_neg (by omega)]
  rw [e]
  exact JY h k i n x hk
 obtain ⟨t,m,u,ro,so,g⟩:=s
 have hxm:x.size≤maxLen:=by unfold maxLen;omega
 rcases (show k=1∨k=2∨k=3∨k=4∨k=5∨k=6∨k=7∨k=8 by omega) with rfl|rfl|rfl|rfl|rfl|rfl|rfl|rfl
 ·show Calls _ _ _ w (RetEd T w b (insD _ i x))
  refine eN h 1 (fun _ _=>by rfl) AK OI i n x fun W hW=>?_
  by_cases h1:insE t i x=0
  ·exact sC (h.later hW) 1 i n x hx hi h1
  ·have e:insD (Sta.d ⟨t,m,u,ro,so,g⟩) i x=(Sta.d ⟨t,m,u,ro,so,g⟩,insE t i x):=by unfold insD;exact if_pos h1
   rw [e]
   exact tT (h.later hW) 1 i n x hx hi h1
 ·show Calls _ _ _ w (RetEd T w b (delD _ i n))
  refine eN h 2 (fun _ _=>by rfl) AN PP i n x fun W hW=>?_
  by_cases h1:delE t i n=0
  ·exact sF (h.later hW) 2 i n x hi h1
  ·have e:delD (Sta.d ⟨t,m,u,ro,so,g⟩) i n=(Sta.d ⟨t,m,u,ro,so,g⟩,delE t i n):=by unfold delD;exact if_pos h1
   rw [e]
   exact sM (h.later hW) 2 i n x hi h1
 ·show Calls _ _ _ w (RetEd T w b (markD _ i x))
  refine eN h 3 (fun _ _=>by rfl) zU PI i n x fun W hW=>?_
  have h':=h.later hW
  unfold markD
  by_cases h1:markB x.data.toList=false
  ·rw [if_pos h1];exact sN h' 3 i n x hxm h1
  rw [if_neg h1]
  have h1:=bV h1
  by_cases h2:i<0∨(t.size:Int)<i
  ·rw [if_pos (show i<0∨((Sta.d ⟨t,m,u,ro,so,g⟩).t.size:Int)<i from h2)]
   rcases h2 with h2|h2
   ·exact sB h' 3 i n x hxm h1 h2
   ·exact oW h' 3 i n x hxm h1 h2
  rw [if_neg (show ¬ (i<0∨((Sta.d ⟨t,m,u,ro,so,g⟩).t.size:Int)<i) from h2)]
  have h3:0≤i∧i≤t.size:=by omega
  by_cases h4:edgeB t.data.toList i=false
  ·rw [if_pos (show edgeB (Sta.d ⟨t,m,u,ro,so,g⟩).t.data.toList i=false from h4)];exact sE h' 3 i n x hxm h1 h3 h4
  rw [if_neg (show ¬ edgeB (Sta.d ⟨t,m,u,ro,so,g⟩).t.data.toList i=false from h4)]
  have h4:=bV h4
  unfold withMk
  by_cases h5:(setM m.l ⟨x,i⟩).2=0
  ·have e:(setM (Sta.d ⟨t,m,u,ro,so,g⟩).m ⟨x,i⟩).2=0:=h5
   rw [if_pos e,e]
   exact vV h' 3 i n x hxm h1 h3 h4 h5
  ·rw [if_neg (show ¬ (setM (Sta.d ⟨t,m,u,ro,so,g⟩).m ⟨x,i⟩).2=0 from h5)]
   exact vZ h' 3 i n x hxm h1 h3 h4 h5
 ·show Calls _ _ _ w (RetEd T w b (unmarkD _ x))
  refine eN h 4 (fun _ _=>by rfl) zN PA i n x fun W hW=>?_
  have h':=h.later hW
  unfold unmarkD withMk
  by_cases h5:(drpM m.l x).2=0
  ·have e:(drpM (Sta.d ⟨t,m,u,ro,so,g⟩).m x).2=0:=h5
   rw [if_pos e,e]
   exact sD h' 4 i n x h5
  ·rw [if_neg (show ¬ (drpM (Sta.d ⟨t,m,u,ro,so,g⟩).m x).2=0 from h5)]
   exact rT h' 4 i n x h5
 ·exact eN h 5 (fun _ _=>by rfl) yZ OX i n x fun W hW=>MK (h.later hW) 5 i n x
 ·exact eN h 6 (fun _ _=>by rfl) yC PX i n x fun W hW=>NU (h.later hW) 6 i n x
 ·show Calls _ _ _ w (RetEd T w b (beginD _))
  refine eN h 7 (fun _ _=>by rfl) AA PH i n x fun W hW=>?_
  cases so with
  | true=>exact wN (h.later hW) 7 i n x
  | false=>exact tZ (h.later hW) 7 i n x
 ·show Calls _ _ _ w (RetEd T w b (endD _))
  refine eN h 8 (fun _ _=>by rfl) AQ OD i n x fun W hW=>?_
  cases so with
  | false=>exact GH (h.later hW) 8 i n x
  | true =>
   by_cases hg:g.l.length=0
   ·have e:endD (Sta.d ⟨t,m,u,ro,true,g⟩)=(⟨t,m.l,lsP u.l,lsP ro.l,false,[]⟩,0):=by unfold endD;rw [if_neg (fun h=>by cases h),show (Sta.d ⟨t,m,u,ro,true,g⟩).g.length=0 from hg];rfl
    rw [e]
    exact wG (h.later hW) 8 i n x hg
   ·have e:endD (Sta.d ⟨t,m,u,ro,true,g⟩)=(⟨t,m.l,pushL (lsP u.l) g.l,lsP ro.l,false,[]⟩,0):=by unfold endD;rw [if_neg (fun h=>by cases h),if_neg (show ¬ (Sta.d ⟨t,m,u,ro,true,g⟩).g.length=0 from hg)];rfl
    rw [e]
    exact vL (h.later hW) 8 i n x hg
end Go.Proofs.YtbagenpobcgjnaaGreat
namespace Go.Proofs.YtbagenpobcgjnaaGreat
open Go.Proofs.Tryz
set_option maxRecDepth 100000
open Lib (hid)
open Go.RowKit
set_option linter.unusedVariables false
set_option linter.unusedSimpArgs false
theorem OwnK.off {base:Nat} {x:KPc} (h:OwnK w base x) (hS:∀ i∈S,i<base):KPo S w x∧x.l.length≤x.c∧x.c≤maxLen:=by
 obtain ⟨a,c,ev,hr⟩:=sH h
 obtain ⟨xa,xl,xc⟩:=x
 injection ev with e1 e2 e3
 simp only at e1 e3
 subst e1
 subst e3
 exact ⟨⟨hr.row.more fun b hb=>⟨hb.2,fun g=>by have:=hS b g;have:=hb.1;omega⟩,hr.nil⟩,hr.le,hr.cap⟩
theorem OwnE.off {base:Nat} {x:EPc} (h:OwnE w base x) (hS:∀ i∈S,i<base):EPo S w x:=by
 obtain ⟨a,c,ev,hr⟩:=eG h
 obtain ⟨xa,xl,xc⟩:=x
 injection ev with e1 e2 e3
 simp only at e1 e3
 subst e1
 subst e3
 exact hr.off hS
theorem CopS.off {base:Nat} {x:SPc} (h:CopS w base x) (hs:SPcs w x) (hS:∀ i∈S,i<base):SPo S w x:=by
 rcases h with h|⟨g,h1,h2,h3,h4⟩
 ·exact ⟨fun k hk=>absurd hk (by rw [h];simp),fun y hy=>absurd hy (by rw [h];simp),hs.nil,hs.le,hs.cap⟩
 ·refine ⟨fun k hk=>?_,fun y hy=>(h4 y hy).off fun i hi=>by have:=hS i hi;omega,hs.nil,hs.le,hs.cap⟩
  obtain ⟨ad,e,hb,q⟩:=hs.row k hk
  refine ⟨ad,e,⟨hb,fun gi=>?_⟩,q⟩
  rw [h1] at e
  cases e
  have:=hS _ gi
  simp only at this
  omega
theorem CopI.off {s s':Sta} {b1 b2 b3:Nat} {w':World} (h:CopI w s s' b1 b2 b3 w') (hS:∀ i∈S,i<w.heap.size):StaO S w' s'∧s'.m.l.length≤s'.m.c∧s'.m.c≤maxLen:=by
 have l1:=h.l1;have l2:=h.l2;have l3:=h.l3
 have hm:=OwnK.off h.m hS
 exact ⟨⟨hm.1,h.u.off h.us fun i hi=>by have:=hS i hi;omega,h.r.off h.rs fun i hi=>by have:=hS i hi;omega,OwnE.off h.g fun i hi=>by have:=hS i hi;omega⟩,hm.2⟩
structure StaF (s:Sta):Prop where
 m:s.m.l.length≤1000
 u:s.u.l.length≤1000
 r:s.r.l.length≤1000
 g:s.g.l.length≤1000
 z:∀ x∈s.u.l++s.r.l,x.l.length≤1000000
theorem InvS.few {s:Sta} (h:InvS s.d):StaF s:=by
 have h1:s.m.l.length≤16:=h.ml
 have h2:(lsP s.u.l).length≤16:=h.ul.1
 have h3:(lsP s.r.l).length≤16:=h.rl.1
 have h4:s.g.l.length≤32:=h.gl
 rw [aG] at h2 h3
 refine ⟨by omega,by omega,by omega,by omega,fun x hx=>?_⟩
 rcases List.mem_append.1 hx with hx|hx
 ·exact Nat.le_trans (bI (fun y hy=>(h.ul.2 y hy).2) x hx) (by decide)
 ·exact Nat.le_trans (bI (fun y hy=>(h.rl.2 y hy).2) x hx) (by decide)
set_option maxHeartbeats 1600000 in
theorem JC {e:Option Addr} {made:Bool} {r:Option Addr} {s:Sta} (hn:Nw w e (edN made r ⟨#[]⟩ s.m.a s.m.l.length s.m.c s.u.a s.u.l.length s.u.c s.r.a s.r.l.length s.r.c s.o s.g.a s.g.l.length s.g.c)) (hr:RopeW w r p L s.t) (hin:StaIn w s) (hf:StaF s) (S:List Nat) (hS:InS S w) :
 Calls prog 32 #[.pointer e] w fun x w'=>∃ s':Sta,x=.returned s'.v∧s'.d=s.d∧StaO S w' s'∧Below w.heap.size w w':=by
 obtain ⟨wX,hwX,kC,d0,hz⟩:=box1 w #[.string ⟨#[]⟩,.slice none 0 0,.slice none 0 0,.slice none 0 0,.bool false,.slice none 0 0] 26
 have ag:=hid (kC)
 have aa:=hid (d0)
 have d7:=hid (Nat.le_refl wX.heap.size)
 have hsx:∀ W:World,wX.heap.size≤W.heap.size→∀ i∈(w.heap.size::S),i<W.heap.size:=fun W h i hi=>by
  rcases List.mem_cons.1 hi with rfl|hi
  ·omega
  ·have:=hS i hi;omega
 have cn:=fun W (hW:Below w.heap.size w W)=>hn.out W hW
 have cf:=PV made r ⟨#[]⟩ s.m.a s.m.l.length s.m.c s.u.a s.u.l.length s.u.c s.r.a s.r.l.length s.r.c s.o s.g.a s.g.l.length s.g.c
 have cc:=fun W (hW:Below w.heap.size w W)=>uV ⟨⟨#[]⟩,s.m,s.u,s.r,s.o,s.g⟩ W ⟨(hin.later hW).m,(hin.later hW).u,(hin.later hW).r,(hin.later hW).g⟩ hf.m hf.u hf.r hf.g hf.z
 have cr:=fun W (hW:Below w.heap.size w W)=>xN (hn.later hW)
 have ct:=fun W (hW:Below w.heap.size w W)=>lE (hr.later hW)
 have CN:=hid cn;have CC:=hid cc;have CR:=hid cr;have CT:=hid ct;have ef:=hid hsx
 have hzl:w.heap.size<wX.heap.size:=by omega
 clear cn cc cr ct hsx d0 kC hz hn hr hin hf hS
 obtain ⟨aw,ax,ay,az,a0,a1,a2,a3,a4,a5,a6,a7⟩:=ag.out.all6
 go_enter func32,ntmps32
 go_wp2_with fail
 refine (CN.out _ aa.out).mono ?_;rintro e w1 ⟨rfl,hb⟩
 clear aw ax ay az a0 a1 a2 a3 a4 a5 a6 a7
 have ah:=hid (ag.out.onto hb)
 have ab:=hid (aa.out.trans (hb.mono aa.out.size))
 have ai:=hid (Nat.le_trans d7.out hb.size)
 clear hb ag aa d7
 obtain ⟨a8,a9,ba,bb,bc,bd,be,bf,bg,bh,bi,bj⟩:=ah.out.all6
 clear hwX
 go_wp2_with fail
 refine (CC.out _ ab.out).mono ?_;rintro e w2 ⟨⟨t1,m1,u1,r1,o1,g1⟩,b1,b2,b3,rfl,hci⟩
 clear a8 a9 ba bb bc bd be bf bg bh bi bj
 have hb:=hci.bel
 have hof:=hci.off (S:=w.heap.size::S) (ef.out _ ai.out)
 have hd:=hci.d
 unfold Sta.d at hd
 injection hd with d1 d2 d3 d4 d5 d6
 simp only at d1 d2 d3 d4 d5 d6
 subst d1
 subst d5
 have HD:=hid (And.intro d2 (And.intro d3 (And.intro d4 d6)))
 clear hci d2 d3 d4 d6
 have aj:=hid (ah.out.onto hb)
 have ak:=hid (ab.out.trans (hb.mono ab.out.size))
 have al:=hid (Nat.le_trans ai.out hb.size)
 have ac:=hid hof.1
 clear hb hof ah ab ai
 obtain ⟨bk,bl,bm,bn,bo,bp,bq,br,bs,bu,bv,bw⟩:=aj.out.all6
 replace ac:=hid (ac.out.wide (S':=(w.heap.size::w2.heap.size::S)) (fun i hi=>by simp only [List.mem_cons] at hi;rcases hi with rfl|rfl|hi;exact .inl (by simp);exact .inr (Nat.le_refl _);exact .inl (by simp [hi])))
 have fq:wX.heap.size≤w2.heap.size:=al.out
 obtain ⟨eg,hwA2,kA,hbA,hzA⟩:=box1 w2 #[.string ⟨#[]⟩,.slice m1.a m1.l.length m1.c,.slice u1.a u1.l.length u1.c,.slice r1.a r1.l.length r1.c,.bool s.o,.slice g1.a g1.l.length g1.c] 26
 have am:=hid (aj.out.onto hbA)
 have d8:=hid (ac.out.later hbA)
 have ad:=hid (ak.out.trans (hbA.mono ak.out.size))
 have d9:=hid (Nat.le_trans al.out hbA.size)
 have an:=hid kA
 have ao:w2.heap.size<eg.heap.size:=by omega
 have fr:=hid ao
 clear kA hbA hzA ao aj ac ak al
 obtain ⟨bx,bz,b4,b5,b6,b7,b8,b9,ca,cb,cd,ce⟩:=am.out.all6
 obtain ⟨cg,ch,ci,cj,ck,cl,cm,co,cp,cq,cu,cv⟩:=an.out.all6
 go_wp2_with fail
 refine (CR.out _ ad.out).mono ?_;rintro e w4 ⟨rfl,hb⟩
 clear bk bl bm bn bo bp bq br bs bu bv bw hwA2 bx bz b4 b5 b6 b7 b8 b9 ca cb cd ce cg ch ci cj ck cl cm co cp cq cu cv
 have aq:=hid (am.out.onto hb)
 have ar:=hid (an.out.onto hb)
 have ea:=hid (d8.out.later hb)
 have ae:=hid (ad.out.trans (hb.mono ad.out.size))
 have eb:=hid (Nat.le_trans d9.out hb.size)
 clear hb am an d8 ad d9
 obtain ⟨cw,cx,cy,cz,c3,c4,c5,c6,c7,c8,c9,da⟩:=aq.out.all6
 obtain ⟨db,dc,dd,de,df,dg,dh,di,dj,dk,dl,dm⟩:=ar.out.all6
 go_wp2_with fail
 refine (CT.out _ ae.out).mono ?_;rintro e w5 ⟨rfl,hb⟩
 clear cw cx cy cz c3 c4 c5 c6 c7 c8 c9 da db dc dd de df dg dh di dj dk dl dm
 have au:=hid (aq.out.onto hb)
 have av:=hid (ar.out.onto hb)
 have ec:=hid (ea.out.later hb)
 have ed:=hid (ae.out.trans (hb.mono ae.out.size))
 have ee:=hid (Nat.le_trans eb.out hb.size)
 clear hb aq ar ea ae eb
 obtain ⟨el,em,en,eo,eq,er,es,et,eu,ev,ew,ey⟩:=au.out.all6
 obtain ⟨ez,e0,e3,e4,e5,e6,e7,e8,e9,fa,fb,fc⟩:=av.out.all6
 have kD:Blk (w5.setCell ⟨w2.heap.size,0,none⟩ (.string s.t)) (w2.heap.size) #[.string s.t,.slice m1.a m1.l.length m1.c,.slice u1.a u1.l.length u1.c,.slice r1.a r1.l.length r1.c,.bool s.o,.slice g1.a g1.l.length g1.c] 26:=(av.out.set 0 _)
 have kC:Blk (w5.setCell ⟨w2.heap.size,0,none⟩ (.string s.t)) (w.heap.size) #[.string ⟨#[]⟩,.slice none 0 0,.slice none 0 0,.slice none 0 0,.bool false,.slice none 0 0] 26:=(au.out.other ⟨w2.heap.size,0,none⟩ (by show w2.heap.size≠w.heap.size;omega) _)
 have ap:Apart (w.heap.size::w2.heap.size::S) w5 (w5.setCell ⟨w2.heap.size,0,none⟩ (.string s.t)):=(Apart.refl (w.heap.size::w2.heap.size::S) w5).setCell (p:=⟨w2.heap.size,0,none⟩) (.inl (by simp)) _
 have rF:=ec.out.apart ap
 have hB:=((ed.out.setCell (p:=⟨w2.heap.size,0,none⟩) (by show w.heap.size≤w2.heap.size;omega) _):Below w.heap.size w (w5.setCell ⟨w2.heap.size,0,none⟩ (.string s.t)))
 have hz:(w5.setCell ⟨w2.heap.size,0,none⟩ (.string s.t)).heap.size=w5.heap.size:=by simp
 obtain ⟨v6,eh⟩:∃ V,(w5.setCell ⟨w2.heap.size,0,none⟩ (.string s.t))=V:=⟨_,rfl⟩
 rw [eh] at kC kD rF hB hz
 have ei:=hid kC
 have ej:=hid kD
 have af:=hid rF
 have ek:=hid hB
 have fs:=hid (Nat.le_trans ee.out (Nat.le_of_eq hz.symm))
 clear kC kD rF hB hz ap au av ec ed ee
 obtain ⟨dn,dp,dq,dr,ds,dt,fd,fe,ff,fg,fh,fi⟩:=ei.out.all6
 obtain ⟨du,dv,dw,dx,dy,dz,fj,fk,fm,fn,fo,fp⟩:=ej.out.all6
 go_wp2
 refine bodyPost_ret (v:=Sta.v ⟨s.t,m1,u1,r1,s.o,g1⟩) (by simp [results,results32,go_sem,dn,dp,dq,dr,ds,dt,du,dv,dw,dx,dy,dz]) rfl ?_
 have hD:=HD.out
 refine ⟨⟨s.t,m1,u1,r1,s.o,g1⟩,rfl,?_,?_,?_⟩
 ·unfold Sta.d
  simp only [hD.1,hD.2.1,hD.2.2.1,hD.2.2.2]
 ·refine StaO.wide (S:=(w.heap.size::w2.heap.size::S)) (s:=⟨s.t,m1,u1,r1,s.o,g1⟩) (StaO.apart (w:=v6) ⟨af.out.m,af.out.u,af.out.r,af.out.g⟩ ?_) (fun i hi=>.inl (by simp [hi]))
  iterate 6 refine Apart.setCell ?_ (.inl (by simp)) _
  exact Apart.refl _ _
 ·iterate 6 refine Below.setCell ?_ (by show w.heap.size≤w.heap.size;omega) _
  exact ek.out
set_option maxHeartbeats 1600000 in
theorem zZ (s:Sta) (w:World) (hin:StaIn w s) (hz2:StaZ s) (hri:rightP s=false) :
 Calls prog 28 #[s.v] w fun e w'=>e=.returned (.tuple #[.pointer none,.int .i64 5])∧Below w.heap.size w w':=by
 obtain ⟨wX,hwX,kA,ao,hz⟩:=box1 w #[.string s.t,.slice s.m.a s.m.l.length s.m.c,.slice s.u.a s.u.l.length s.u.c,.slice s.r.a s.r.l.length s.r.c,.bool s.o,.slice s.g.a s.g.l.length s.g.c] 26
 have ab:=hid (kA)
 have aa:=hid (ao)
 have aq:=hid (Below.refl wX.heap.size wX)
 have ar:=hid (Nat.le_refl wX.heap.size)
 have cr:=fun W (hW:Below w.heap.size w W)=>mI s W (hin.later hW) hz2
 simp only [hri] at cr
 have CR:=hid cr
 have hzl:w.heap.size<wX.heap.size:=by omega
 clear cr kA ao hz hin hz2 hri
 obtain ⟨ac,ad,ae,af,ag,ah,ai,aj,ak,al,am,an⟩:=ab.out.all6
 go_enter func28,ntmps28
 go_wp2_with fail
 refine (CR.out _ aa.out).mono ?_;rintro e w1 ⟨rfl,hb⟩
 clear ac ad ae af ag ah ai aj ak al am an
 have au:=hid (ab.out.onto hb)
 have av:=hid (aa.out.trans (hb.mono aa.out.size))
 have a8:=hid (Nat.le_trans ar.out hb.size)
 have a9:=hid (aq.out.trans (hb.mono aq.out.size))
 clear hb ab aa ar
 obtain ⟨aw,ax,ay,az,a0,a1,a2,a3,a4,a5,a6,a7⟩:=au.out.all6
 go_wp2
 go_ret2
 exact ⟨rfl,av.out⟩
set_option maxHeartbeats 1600000 in
theorem vX {T:List Nat} (s:Sta) (w:World) (hT:InS T w) (hin:StaIn w s) (hz2:StaZ s) (hri:rightP s=true) :
 Calls prog 28 #[s.v] w fun e w'=>∃ (b:Nat) (s':Sta) (rb:Nat) (p:Option Addr) (L:List ByteArray),e=.returned (.tuple #[.pointer (some ⟨b,0,none⟩),.int .i64 0])∧IsEd T w' b s' rb p L∧s'.d=s.d∧w.heap.size≤b∧Below w.heap.size w w':=by
 have hinv:=(lU s).1 hri
 have hf:=hinv.few
 have hof:ofE s.t=0:=pI hinv.v hinv.z
 have HI:=hid hinv;have HT:=hid hT
 clear hinv hT
 obtain ⟨wX,hwX,kA,bv,hz⟩:=box1 w #[.string s.t,.slice s.m.a s.m.l.length s.m.c,.slice s.u.a s.u.l.length s.u.c,.slice s.r.a s.r.l.length s.r.c,.bool s.o,.slice s.g.a s.g.l.length s.g.c] 26
 have ai:=hid (kA)
 have ae:=hid (bv)
 have bw:=hid (Below.refl wX.heap.size wX)
 have bx:=hid (Nat.le_refl wX.heap.size)
 have cr:=fun W (hW:Below w.heap.size w W)=>mI s W (hin.later hW) hz2
 simp only [hri] at cr
 have co:=fun W=>(yS s.t (by have:=hz2.t;unfold maxLen;omega) W).mono fun e w' h=>h.yes hof
 have cc:=fun W (hW:Below w.heap.size w W)=>uV s W (hin.later hW) hf.m hf.u hf.r hf.g hf.z
 have CO:=hid co;have CC:=hid cc
 clear co cc hof hf
 have CR:=hid cr
 have hzl:w.heap.size<wX.heap.size:=by omega
 clear cr kA bv hz hin hz2 hri
 obtain ⟨au,av,aw,ax,ay,az,a0,a1,a2,a3,a4,a5⟩:=ai.out.all6
 go_enter func28,ntmps28
 go_wp2_with fail
 refine (CR.out _ ae.out).mono ?_;rintro e w1 ⟨rfl,hb⟩
 clear au av aw ax ay az a0 a1 a2 a3 a4 a5
 have aj:=hid (ai.out.onto hb)
 have ak:=hid (ae.out.trans (hb.mono ae.out.size))
 have bz:=hid (Nat.le_trans bx.out hb.size)
 have b4:=hid (bw.out.trans (hb.mono bw.out.size))
 clear hb ai ae bx
 obtain ⟨a6,a7,a8,a9,ba,bb,bc,bd,be,bf,bg,bh⟩:=aj.out.all6
 clear hwX
 go_wp2_with fail
 refine (CO.out _).mono ?_;rintro e w2 ⟨rb,p,L,rfl,hR,hb⟩
 clear a6 a7 a8 a9 ba bb bc bd be bf bg bh
 have af:=hid (aj.out.onto hb)
 have ab:=hid (ak.out.trans (hb.mono ak.out.size))
 have b5:=hid (Nat.le_trans bz.out hb.size)
 have b6:=hid (b4.out.trans (hb.mono b4.out.size))
 have cf:=hid hR
 clear hb hR aj ak bz
 obtain ⟨bi,bj,bk,bl,bm,bn,bo,bp,bq,br,bs,bu⟩:=af.out.all6
 go_wp2_with fail
 refine (CC.out _ ab.out).mono ?_;rintro e w3 ⟨⟨t1,m1,u1,r1,o1,g1⟩,b1,b2,b3,rfl,hci⟩
 clear bi bj bk bl bm bn bo bp bq br bs bu
 have hb:=hci.bel
 have hof:=hci.off (S:=w.heap.size::T) (fun i hi=>by rcases List.mem_cons.1 hi with rfl|hi;exact af.out.lt;exact Nat.lt_of_lt_of_le (HT.out i hi) ab.out.size)
 have hd:=hci.d
 unfold Sta.d at hd
 injection hd with d1 d2 d3 d4 d5 d6
 simp only at d1 d2 d3 d4 d5 d6
 subst d1
 subst d5
 have HD:=hid (And.intro d2 (And.intro d3 (And.intro d4 d6)))
 have ad:=hid hb
 clear hci d2 d3 d4 d6
 have al:=hid (af.out.onto hb)
 have am:=hid (ab.out.trans (hb.mono ab.out.size))
 have an:=hid (Nat.le_trans b5.out hb.size)
 have b7:=hid (b6.out.trans (hb.mono b6.out.size))
 have ag:=hid hof.1
 have b8:=hid hof.2
 clear hb hof af ab b5
 obtain ⟨ck,cl,cm,cn,cp,cq,ct,cu,cv,cw,cx,cy⟩:=al.out.all6
 replace ag:=hid (ag.out.wide (S':=w.heap.size::w3.heap.size::T) (wide2 (Nat.le_refl _)))
 have el:wX.heap.size≤w3.heap.size:=an.out
 obtain ⟨aa,hwA3,kA,hbA,hzA⟩:=box1 w3 #[.string s.t,.slice m1.a m1.l.length m1.c,.slice u1.a u1.l.length u1.c,.slice r1.a r1.l.length r1.c,.bool s.o,.slice g1.a g1.l.length g1.c] 26
 have ao:=hid (al.out.onto hbA)
 have b9:=hid (ag.out.later hbA)
 have ca:=hid (am.out.trans (hbA.mono am.out.size))
 have cb:=hid (Nat.le_trans an.out hbA.size)
 have em:=hid (b7.out.trans (hbA.mono b7.out.size))
 have aq:=hid kA
 have ar:w3.heap.size<aa.heap.size:=by omega
 have en:=hid ar
 clear kA hbA hzA ar al ag am an
 obtain ⟨cz,c3,c4,c5,c6,c7,c8,c9,da,db,dc,dd⟩:=ao.out.all6
 obtain ⟨de,df,dg,dh,di,dj,dk,dl,dm,dn,dp,dq⟩:=aq.out.all6
 have ce:=hid (show Below w2.heap.size w2 aa by rw [← hwA3];exact ad.out.alloc ad.out.size _)
 have kD:Blk (aa.setCell ⟨w3.heap.size,0,none⟩ (.string ⟨#[]⟩)) (w3.heap.size) #[.string ⟨#[]⟩,.slice m1.a m1.l.length m1.c,.slice u1.a u1.l.length u1.c,.slice r1.a r1.l.length r1.c,.bool s.o,.slice g1.a g1.l.length g1.c] 26:=(aq.out.set 0 _)
 have kA:Blk (aa.setCell ⟨w3.heap.size,0,none⟩ (.string ⟨#[]⟩)) (w.heap.size) #[.string s.t,.slice s.m.a s.m.l.length s.m.c,.slice s.u.a s.u.l.length s.u.c,.slice s.r.a s.r.l.length s.r.c,.bool s.o,.slice s.g.a s.g.l.length s.g.c] 26:=(ao.out.other ⟨w3.heap.size,0,none⟩ (by show w3.heap.size≠w.heap.size;omega) _)
 have ap:Apart (w.heap.size::w3.heap.size::T) aa (aa.setCell ⟨w3.heap.size,0,none⟩ (.string ⟨#[]⟩)):=(Apart.refl (w.heap.size::w3.heap.size::T) aa).setCell (p:=⟨w3.heap.size,0,none⟩) (.inl (by simp)) _
 have rF:=b9.out.apart ap
 have hB:=((ca.out.setCell (p:=⟨w3.heap.size,0,none⟩) (by show w.heap.size≤w3.heap.size;omega) _):Below w.heap.size w (aa.setCell ⟨w3.heap.size,0,none⟩ (.string ⟨#[]⟩)))
 have hz:(aa.setCell ⟨w3.heap.size,0,none⟩ (.string ⟨#[]⟩)).heap.size=aa.heap.size:=by simp
 obtain ⟨v5,cd⟩:∃ V,(aa.setCell ⟨w3.heap.size,0,none⟩ (.string ⟨#[]⟩))=V:=⟨_,rfl⟩
 rw [cd] at kA kD rF hB hz
 have cg:=hid kA
 have ch:=hid kD
 have ci:=hid rF
 have ac:=hid hB
 have eo:=hid (Nat.le_trans cb.out (Nat.le_of_eq hz.symm))
 clear kA kD rF hB hz ap ao aq b9 ca cb
 obtain ⟨dr,ds,dt,du,dv,dw,dx,dy,dz,d0,d7,d8⟩:=cg.out.all6
 obtain ⟨d9,ea,eb,ec,ed,ee,ef,eg,eh,ei,ej,ek⟩:=ch.out.all6
 have cj:=hid (cf.out.later (show Below w2.heap.size w2 v5 by rw [← cd];exact ce.out.setCell (p:=⟨w3.heap.size,0,none⟩) ad.out.size _))
 obtain ⟨wE,hwE,kE,hbE,hzE⟩:=box1 v5 #[.bool true,.pointer (some ⟨rb,0,none⟩),.string ⟨#[]⟩,.slice m1.a m1.l.length m1.c,.slice u1.a u1.l.length u1.c,.slice r1.a r1.l.length r1.c,.bool s.o,.slice g1.a g1.l.length g1.c] 100
 have KE:=hid kE;have ah:=hid hbE
 clear kE hbE hzE
 go_wp2
 go_ret2
 have hD:=HD.out
 refine ⟨v5.heap.size,⟨s.t,m1,u1,r1,s.o,g1⟩,rb,p,L,rfl,⟨KE.out,cj.out.later ah.out,(ci.out.wide (S':=v5.heap.size::T) (fun i hi=>by rcases List.mem_cons.1 hi with rfl|hi;exact .inr (Nat.le_refl _);exact .inl (by simp [hi]))).later ah.out |> fun h=>⟨h.m,h.u,h.r,h.g⟩,b8.out.1,b8.out.2,?_,fun i hi=>Nat.lt_of_lt_of_le (HT.out i hi) (ac.out.trans (ah.out.mono ac.out.size)).size⟩,?_,ac.out.size,ac.out.trans (ah.out.mono ac.out.size)⟩
 ·rw [show Sta.d ⟨s.t,m1,u1,r1,s.o,g1⟩=s.d by unfold Sta.d;simp only [hD.1,hD.2.1,hD.2.2.1,hD.2.2.2]]
  exact HI.out
 ·unfold Sta.d
  simp only [hD.1,hD.2.1,hD.2.2.1,hD.2.2.2]
attribute [local go_sem] Oper.semAt_some
structure But (b n:Nat) (A B:World):Prop where
 os:B.os=A.os
 tape:B.tape=A.tape
 output:B.output=A.output
 size:A.heap.size≤B.heap.size
 block:∀ k,k<n→k≠b→k<A.heap.size→B.heap[k]? = A.heap[k]?
section
variable {b n l : Nat} {A B C : World}
theorem But.of_below (h:Below A.heap.size A B):But b n A B:=⟨h.os,h.tape,h.output,h.size,fun k _ _ hk=>h.block k hk⟩
theorem But.of_apart (h:Apart S A B) (hS:∀ x∈S,x=b∨n≤x):But b n A B:=⟨h.os,h.tape,h.output,h.size,fun k h1 h2 h3=>h.block k h3 fun g=>by rcases hS k g with e|e <;> omega⟩
theorem But.trans (h:But b n A B) (k:But b n B C):But b n A C:=⟨k.os.trans h.os,k.tape.trans h.tape,k.output.trans h.output,Nat.le_trans h.size k.size,fun i h1 h2 h3=>(k.block i h1 h2 (Nat.lt_of_lt_of_le h3 h.size)).trans (h.block i h1 h2 h3)⟩
theorem But.put (h:n≤l) (o:Obj):But b n A (A.putObj l o):=⟨rfl,rfl,rfl,by simp,fun k h1 _ _=>World.putObj_heap_other (by omega)⟩
theorem But.set (h:n≤l∨l=b) (v:Value):But b n A (A.setCell ⟨l,0,none⟩ v):=⟨rfl,rfl,rfl,by rw [World.size_setCell];exact Nat.le_refl _,fun k h1 h2 _=>Below.heap_setCell _ _ _ k (by show k≠l;omega)⟩
end
def EdAt (T:List Nat) (b:Nat) (d:StaD) (A:World):Prop:=∃ (s:Sta) (rb:Nat) (p:Option Addr) (L:List ByteArray),IsEd T A b s rb p L∧s.d=d
theorem EdAt.later {T:List Nat} {d:StaD} (h:EdAt T b d A) (hb:Below A.heap.size A B):EdAt T b d B:=by
 obtain ⟨s,rb,p,L,hi,hd⟩:=h
 exact ⟨s,rb,p,L,hi.later hb,hd⟩
theorem EdAt.mild {T:List Nat} {d:StaD} (h:EdAt T b d A) (hS:∀ x∈S,x∈T) (hb:b ∉ S) (hm:Mild S A B):EdAt T b d B:=by
 obtain ⟨s,rb,p,L,hi,hd⟩:=h
 exact ⟨s,rb,p,L,hi.mild hS hb hm,hd⟩
theorem EdAt.less {T T':List Nat} {d:StaD} (h:EdAt T b d A) (hT:∀ x∈T',x∈T):EdAt T' b d A:=by
 obtain ⟨s,rb,p,L,hi,hd⟩:=h
 exact ⟨s,rb,p,L,hi.less hT,hd⟩
theorem EdAt.grow {T T':List Nat} {d:StaD} (h:EdAt T b d A) (hb:Below A.heap.size A B) (hT:∀ x∈T',x∈T∨A.heap.size≤x) (hz:∀ x∈T',x<B.heap.size):EdAt T' b d B:=by
 obtain ⟨s,rb,p,L,hi,hd⟩:=h
 exact ⟨s,rb,p,L,hi.grow hb hT hz,hd⟩
theorem EdAt.lt {T:List Nat} {d:StaD} (h:EdAt T b d A):b<A.heap.size:=by
 obtain ⟨s,rb,p,L,hi,hd⟩:=h
 exact hi.lt
theorem EdAt.put {T:List Nat} {d:StaD} {o:Obj} (h:EdAt T b d A) (hl:A.heap[l]? = some o) (ho:o.isCells=false) (o':Obj):EdAt T b d (A.putObj l o'):=by
 obtain ⟨s,rb,p,L,hi,hd⟩:=h
 exact ⟨s,rb,p,L,hi.put hl ho o',hd⟩
theorem EdAt.firm (T:List Nat) (b:Nat) (d:StaD) (l:Nat):Firm l (EdAt T b d):=⟨fun A B h hb=>h.later hb,fun A r r' h hl=>h.put hl rfl _⟩
theorem Firm.ex {ι:Sort _} {K:ι→World→Prop} (h:∀ i,Firm l (K i)):Firm l (fun w=>∃ i,K i w):=⟨fun A B ⟨i,p⟩ b=>⟨i,(h i).below A B p b⟩,fun A r r' ⟨i,p⟩ q=>⟨i,(h i).put A r r' p q⟩⟩
theorem Firm.box (l b:Nat) (t:TypeId) (v:Value):Firm l (fun A=>Boxed A b t v):=⟨fun A B h hb=>(hb.block b h.lt).trans h,fun A r r' h hl=>jN hl _ h⟩
theorem Firm.blk (l b:Nat) (cs:Array Value) (t:TypeId):Firm l (fun A=>Blk A b cs t):=⟨fun A B h hb=>h.onto hb,fun A r r' h hl=>jN hl _ h⟩
abbrev encS (x:Nat×Int):Array Value:=#[.int .i64 x.1,.int .i64 x.2]
def YS (T:List Nat) (b:Nat) (d:StaD) (xs:List (Opr×Int)) (s:Nat×Int) (x:Nat×Int) (s':Nat×Int) (A:World):Prop:=
 (s.2=0∧s'.2=x.2)∧((x.2=0∧x.1=s.1∧s'.1=s.1+1∧s.1≤(runR d xs).2.1)∨(x.2≠0∧s.1=x.1+1∧s'.1=s.1∧x.1=(runR d xs).2.1))∧∃ t,(x.2=0→AtR d xs s.1 t)∧EdAt T b t A
theorem YS.firm (T:List Nat) (b:Nat) (d:StaD) (xs:List (Opr×Int)) (l:Nat) (s x s':Nat×Int):Firm l (YS T b d xs s x s'):=(Firm.const l _).both ((Firm.const l _).both (Firm.ex fun t=>(Firm.const l _).both (EdAt.firm T b t l)))
theorem zV (b gf:Nat) (lb:Array Value) (w:World):Calls prog 33 #[.pointer (some ⟨b,0,none⟩),.func (.func gf) #[] lb] w fun e w' =>
 e=.returned (.func (.func 60) #[] #[.pointer (some ⟨w.heap.size+1,0,none⟩),.pointer (some ⟨w.heap.size,0,none⟩)])∧w'=(w.alloc (.cells #[.pointer (some ⟨b,0,none⟩)] 67)).alloc (.cells #[.func (.func gf) #[] lb] 57):=by
 have hmf:∀ (fn:Fn) (first cap:Array Value) (w:World),(Instr.makeFunc fn first cap).run prog w=.ok (.func fn first cap) w:=fun _ _ _ _=>rfl
 go_enter func33,ntmps33
 go_wp2
 go_ret
 exact ⟨rfl,rfl⟩
def StJ (T:List Nat) (l b N n be:Nat) (d:StaD) (xs:List (Opr×Int)) (J:Nat×Int→World→Prop) (k:Nat) (A:World):Prop:=
 J (k+1,0) A∧(∃ t,AtR d xs k t∧EdAt ((N+1)::T) b t A)∧Boxed A N 104 (.func (.yield l) #[] #[])∧Boxed A (N+1) 3 (.int .i64 k)∧Boxed A be 67 (.pointer (some ⟨b,0,none⟩))∧n≤A.heap.size
def StX (T:List Nat) (b:Nat) (d:StaD) (xs:List (Opr×Int)) (J:Nat×Int→World→Prop) (Jx:World→Prop) (c:Code) (A:World):Prop:=
 c=.ret∧((J ((runR d xs).2.1+1,(runR d xs).2.2) A∧EdAt T b (runR d xs).1 A)∨Jx A)
theorem StJ.firm {T:List Nat} {N n:Nat} {d:StaD} {xs:List (Opr×Int)} {J:Nat×Int→World→Prop} (hJ:∀ s A B,J s A→But b N A B→J s B) (lp:Nat) (hlp:N≤lp) (k:Nat):Firm lp (StJ T l b N n be d xs J k):=
 Firm.both ⟨fun A B h hb=>hJ _ _ _ h (.of_below hb),fun A r r' h _=>hJ _ _ _ h (.put hlp _)⟩ <| (Firm.ex fun t=>(Firm.const lp _).both (EdAt.firm _ _ _ lp)).both <| (Firm.box lp _ _ _).both <| (Firm.box lp _ _ _).both <| (Firm.box lp _ _ _).both ⟨fun A B h hb=>Nat.le_trans h hb.size,fun A r r' h _=>by rw [World.putObj_size];exact h⟩
theorem StX.firm {T:List Nat} {N:Nat} {d:StaD} {xs:List (Opr×Int)} {J:Nat×Int→World→Prop} {Jx:World→Prop} (hJ:∀ s A B,J s A→But b N A B→J s B) (hJx:∀ A B,Jx A→But b N A B→Jx B) (lp:Nat) (hlp:N≤lp) (c:Code):Firm lp (StX T b d xs J Jx c):=
 (Firm.const lp _).both ⟨fun A B h hb=>h.elim (fun g=>.inl ⟨hJ _ _ _ g.1 (.of_below hb),g.2.later hb⟩) (fun g=>.inr (hJx _ _ g (.of_below hb))),fun A r r' h hl=>h.elim (fun g=>.inl ⟨hJ _ _ _ g.1 (.put hlp _),g.2.put hl rfl _⟩) (fun g=>.inr (hJx _ _ g (.put hlp _)))⟩
def StF (l bo be N gf:Nat) (lb:Array Value) (x:Opr×Int) (a:Act) (A:World):Prop:=∃ bx:Nat,a={ tmps:=#[.func (.yield l) #[] #[],.pointer (some ⟨bo,0,none⟩),.pointer (some ⟨be,0,none⟩),.pointer (some ⟨N,0,none⟩),.pointer (some ⟨N+1,0,none⟩),.pointer (some ⟨bx,0,none⟩),.int .i64 x.2,.func (.yield l) #[] #[],.int .i64 0,.bool true,.bool false,.func (.func gf) #[] lb,.agg #[.int .i64 x.1.k,.int .i64 x.1.a,.int .i64 x.1.n,.string x.1.s],.int .i64 x.2,undef,undef,undef,undef,undef,undef,undef,undef,undef,undef,undef,undef,undef,undef,undef,undef,undef,undef],defers:=[] }∧Blk A bx #[.int .i64 x.1.k,.int .i64 x.1.a,.int .i64 x.1.n,.string x.1.s] 50
theorem StF.firm (lp l bo be N gf:Nat) (lb:Array Value) (x:Opr×Int) (a:Act):Firm lp (StF l bo be N gf lb x a):=Firm.ex fun bx=>(Firm.const lp _).both (Firm.blk lp _ _ _)
theorem Plain.int {t:TypeId} {v:Int} (h:Boxed A b t (.int .i64 v)) (ht:t≠212):Plain A b:=.of h ht (fun p h=>by simp at h)
theorem EdAt.plain {T:List Nat} {d:StaD} (h:EdAt T b d A):Plain A b:=by
 obtain ⟨s,rb,p,L,hi,hd⟩:=h
 exact .of hi.blk (by decide) (fun p h=>by simp at h)
theorem Mild.join {S':List Nat} {C:World} (h:Mild S A B) (k:Mild S' B C) (hS:∀ x∈S',x ∉ S):Mild (S++S') A C:=by
 refine ⟨(h.apart.more (S':=S++S') (by simp_all)).trans k.apart (fun x hx=>.inl (List.mem_append_right _ hx)),fun x hx=>?_⟩
 rcases List.mem_append.1 hx with hx|hx
 ·exact h.plain x hx
 ·exact (k.plain x hx).back fun cs t z hc=>(h.apart.block x (Array.getElem?_eq_some_iff.1 hc).1 (hS x hx)).trans hc
theorem Mild.one {t:TypeId} {v:Int} (h:Boxed A b t (.int .i64 v)) (ht:t≠212) (u:Value):Mild [b] A (A.setCell ⟨b,0,none⟩ u):=⟨(Apart.refl _ _).setCell (.inl (by simp)) u,fun x hx=>by rw [List.mem_singleton.1 hx];exact .int h ht⟩
set_option maxHeartbeats 1600000 in
theorem QE {T:List Nat} {bo:Nat} {d:StaD} (h:EdAt T b d w) {xs:List (Opr×Int)} {gf:Nat} {lb:Array Value} {lo:Nat} (ho:OpsIt gf lb xs lo w) (eg:∀ args w,(callFunc gf args).run prog w=.ok (.enter gf args) w)
 (h1:Boxed w bo 57 (.func (.func gf) #[] lb)) (h2:Boxed w be 67 (.pointer (some ⟨b,0,none⟩))) (hbe:be≠b) (hfit:∀ x∈xs,i64P x.1.a∧x.1.s.size≤1000000) (hlen:xs.length≤1000000) (hlb:lo≤b) (hlo:lo≤w.heap.size)
 (hST:∀ x∈S,x∈T) (hSz:∀ x∈T,x<w.heap.size) (hSb:b ∉ S) (hSe:be ∉ S) (hSo:bo ∉ S) (hSlo:∀ x∈S,lo≤x) (hinv:InvS d) (m l:Nat) :
 Iter prog m l 60 #[.pointer (some ⟨bo,0,none⟩),.pointer (some ⟨be,0,none⟩)] encS (YS T b d xs) (EdAt T b (runR d xs).1) (But b w.heap.size) S (0,0) ((runR d xs).2.1+1,(runR d xs).2.2) w:=by
 intro J Jx hJ hJx hY h0
 obtain ⟨W2,an,kA,kB,ag,ba⟩:=box2 w #[.func (.yield l) #[] #[]] #[.int .i64 0] 104 3
 have ay:=h.grow (T':=(w.heap.size+1)::T) ag (fun x hx=>by rcases List.mem_cons.1 hx with rfl|hx;exact .inr (by omega);exact .inl hx) (fun x hx=>by rcases List.mem_cons.1 hx with rfl|hx;omega;have:=hSz x hx;omega)
 have hlt:=h.lt
 have hy:=hY (0,0) (0,0) (1,0) W2 ⟨⟨rfl,rfl⟩,.inl ⟨rfl,rfl,rfl,Nat.zero_le _⟩,d,fun _=>AtR.zero d xs,h.later ag⟩ (hJ _ _ _ h0 (.of_below ag))
 have q1:Boxed W2 bo _ _:=(ag.block bo h1.lt).trans h1
 have q2:Boxed W2 be _ _:=(ag.block be h2.lt).trans h2
 have b2:=h2.lt
 have hSN:∀ x∈S,x<w.heap.size:=fun x hx=>by have:=hSz x (hST x hx);omega
 obtain ⟨fn,tmps,assign,body,hyr,hR⟩:=dD hy
 rw [show encS (0,0)=#[.int .i64 0,.int .i64 0] from rfl,← an] at hyr
 have HR:=hid hR;have bb:=hid an;have HY:=hid hY;have HJ:=hid hJ;have ao:=hid hJx;have am:=hid hST;have ac:=hid hSN;have aq:=hid hSlo;have az:=hid ay;have a0:=hid ag;have HO:=hid ho;have a6:=hid hfit
 have KA:Boxed W2 w.heap.size _ _:=kA
 have KB:Boxed W2 (w.heap.size+1) _ _:=kB
 have k3:=KA.cell
 have k4:=KB.cell
 have Q:=hid (And.intro KA (And.intro KB (And.intro q1 q2)))
 clear hy hR an hY hJ hJx h0 hST hSN hSlo h ay ag ho hfit KA KB kA kB q1 q2 h1 h2 hSz
 refine callsIn_of_wp_marks func60 rfl trivial ?_ rfl
 simp only [ntmps60,List.size_toArray,List.length_cons,List.length_nil,Nat.reduceAdd,Nat.reduceSub,Array.replicate_succ,Array.replicate_zero,List.push_toArray,List.append_toArray,List.nil_append,List.cons_append]
 gi_wp2_with fail
 rw [bb.out]
 refine ⟨fun e=>(by cases e),(HR.out none _).mono ?_⟩
 rintro e V (⟨rfl,a2,ah⟩|⟨rfl,bc,ah⟩)
 case inr =>
  gi_wp2
  exact ⟨_,results_none rfl _ _ _,⟨_,rfl⟩,.inr bc⟩
 have hoff:∀ k,k ∉ S→k<w.heap.size+1+1→V.heap[k]? = W2.heap[k]? :=fun k h1 h2=>ah.apart.block k (by omega) h1
 obtain ⟨KA,KB,q1,q2⟩:=Q.out
 have p3:Boxed V w.heap.size _ _:=(hoff w.heap.size (fun g=>by have:=ac.out _ g;omega) (by omega)).trans KA
 have p4:Boxed V (w.heap.size+1) _ _:=(hoff (w.heap.size+1) (fun g=>by have:=ac.out _ g;omega) (by omega)).trans KB
 have p2:Boxed V be _ _:=(hoff be hSe (by omega)).trans q2
 have p1:Boxed V bo _ _:=(ah.apart.block bo q1.lt hSo).trans q1
 have hzV:=ah.apart.size
 have hed:=az.out.mild (S:=S) (fun x hx=>List.mem_cons_of_mem _ (am.out x hx)) hSb ah
 have hbV:Below lo w V:=(a0.out.mono hlo).trans (ah.apart.to_below aq.out (by omega))
 have k1:=p1.cell
 have J0:=hid (show StJ T l b w.heap.size V.heap.size be d xs J 0 V from ⟨a2,⟨d,AtR.zero d xs,hed⟩,p3,p4,p2,Nat.le_refl _⟩)
 have bd:=hid hbV
 clear a2 ah hoff KA KB q1 q2 p1 p2 p3 p4 hed hbV HR Q a0 az k3 k4
 gi_wp2_with fail
 have hSi:∀ x∈b::(w.heap.size+1)::S,x<V.heap.size∧lo≤x:=fun x hx=>by
  simp only [List.mem_cons] at hx
  rcases hx with rfl|rfl|hx
  ·omega
  ·omega
  ·have h1:=ac.out x hx;have h2:=aq.out x hx;omega
 have a3:=hid hSi
 clear hSi
 refine jM (gf:=gf) (lb:=lb) (encs:=encO) (Y:=YO xs) (E:=fun _=>True) (R:=fun A B=>Below A.heap.size A B) (S:=b::(w.heap.size+1)::S) (s0:=0) (s1:=xs.length) rfl eg (fun x hx=>(a3.out x hx).1)
  (fun W1 hb hz=>HO.out W1 (m - 1) (V.heap.size+1) _ (bd.out.trans (hb.mono (by omega))) (fun x hx=>by
   rcases List.mem_cons.1 hx with rfl|hx
   ·omega
   ·exact (a3.out x hx).2))
  (fun A B h hz=>⟨h.size,fun k h1 h2=>h.block k (by omega)⟩) (fun _=>rfl)
  (StJ T l b w.heap.size V.heap.size be d xs J) (StX T b d xs J Jx) (fun s A B h hz hb=>(StJ.firm HJ.out (V.heap.size+1) (by omega) s).below A B h hb) (fun c A B h hz hb=>(StX.firm HJ.out ao.out (V.heap.size+1) (by omega) c).below A B h hb)
  (StJ.firm HJ.out _ (by omega)) (StX.firm HJ.out ao.out _ (by omega)) (fun s x s'=>YO.firm xs _ _ _ _) (Firm.triv _) J0.out
  (StF l bo be w.heap.size gf lb) (StF.firm _ l bo be w.heap.size gf lb) ?assign ?body ?done ?stop
 case assign =>
  intro l' x W K hK
  gi_wp2
  exact hK _ _ (below1 _ _) ⟨_,rfl,Blk.new _ _ _⟩
 case body =>
  rintro l' k x k' A a1 hzA ⟨hk,hx,rfl⟩ ⟨j0,⟨t,hat,hed⟩,p3,p4,p2,hz⟩ ⟨bx,rfl,kx⟩
  have hfit:=a6.out xs[k] (List.getElem_mem hk)
  have hst:=hat.step hk
  have hno:=hat.no hk
  rw [← hx] at hfit hst hno
  obtain ⟨⟨xk,xa,xn,xs'⟩,xe⟩:=x
  simp only at hfit kx
  have hpl:=hed.plain
  have bh:=hid hat;have ar:=hid hpl;have au:=hid hed;have J1:=hid j0;have P:=hid (And.intro p3 (And.intro p4 p2))
  have x0:=kx.cell 0 _ rfl
  have x1:=kx.cell 1 _ rfl
  have x2:=kx.cell 2 _ rfl
  have x3:=kx.cell 3 _ rfl
  have k3:=p3.cell
  have k4:=p4.cell
  have k2:=p2.cell
  clear hx hat hpl j0 p3 p4 p2 kx
  by_cases hxe:xe=0
  ·subst hxe
   obtain ⟨s,rb,p,L,hi,hd⟩:=hed
   have cd:=DY hi xk xa xn xs' hfit.1 hfit.2
   rw [hd] at cd
   have hr:stepR t (⟨xk,xa,xn,xs'⟩,0)=doD t xk xa xn xs':=rfl
   rw [hr] at hst hno
   have hdn:=QF (s:=t) (k:=xk) (i:=xa) (n:=xn) (x:=xs')
   generalize doD t xk xa xn xs'=r at cd hst hno hdn
   obtain ⟨rs,re⟩:=r
   simp only at hst hno hdn
   have CD:=hid cd;have a7:=hid hst;have bf:=hid hno;have bg:=hid hdn
   clear cd hst hno hi hd hdn
   gi_wp2_with fail
   refine ⟨trivial,fun e=>(by cases e),(callsIn_wide.2 CD.out).mono ?_⟩
   rintro e B ⟨s2,rb2,p2',L2,rfl,a4,a5,ae⟩
   have ai:EdAt ((w.heap.size+1)::T) b rs B:=⟨s2,rb2,p2',L2,a4,a5⟩
   obtain ⟨p3,p4,p2⟩:=P.out
   have hab:∀ {i:Nat} {t:TypeId} {v:Value},Boxed A i t v→i≠b→Boxed B i t v:=fun h hi=>(ae.block _ h.lt (by simpa using hi)).trans h
   have r3:=hab p3 (by omega)
   have r4:=hab p4 (by omega)
   have r2:=hab p2 hbe
   have hzB:=ae.size
   have k3:=r3.cell
   have k4:=r4.cell
   have f4:=r4.frozen
   clear k2 x0 x1 x2 x3 CD a4 a5
   by_cases hre:re=0
   ·subst hre
    have hmo:=Mild.one r4 (by decide) (.int .i64 ((k:Int)+1))
    have s4:=r4.set (.int .i64 ((k:Int)+1))
    have s3:=r3.other (show w.heap.size≠w.heap.size+1 by omega) (.int .i64 ((k:Int)+1))
    have s2:=r2.other (show be≠w.heap.size+1 by omega) (.int .i64 ((k:Int)+1))
    have aj:=ai.mild (S:=[w.heap.size+1]) (by simp) (by simp;omega) hmo
    have jC:=HJ.out _ _ _ J1.out ((But.of_apart (b:=b) (n:=w.heap.size) ae (by simp)).trans (But.set (l:=w.heap.size+1) (.inl (by omega)) (.int .i64 ((k:Int)+1))))
    obtain ⟨C,hC⟩:∃ C,World.setCell B ⟨w.heap.size+1,0,none⟩ (.int .i64 ((k:Int)+1))=C:=⟨_,rfl⟩
    rw [hC] at hmo s4 s3 s2 aj jC
    have ak:=a7.out rfl
    have hy:=HY.out (k+1,0) (k+1,0) (k+2,0) C ⟨⟨rfl,rfl⟩,.inl ⟨rfl,rfl,rfl,ak.most⟩,rs,fun _=>ak,aj.less (fun x hx=>List.mem_cons_of_mem _ hx)⟩ jC
    obtain ⟨fn,tmps,assign,body,hyr,hR⟩:=dD hy
    have HR:=hid hR
    rw [show encS (k+1,0)=#[.int .i64 ((k:Int)+1),.int .i64 0] from rfl] at hyr
    have g3:=s3.cell
    have g4:=s4.cell
    have HC:=hid hC;have HM:=hid (show Mild [b,w.heap.size+1] A C from Mild.join (S:=[b]) ⟨ae,fun x hx=>by rw [List.mem_singleton.1 hx];exact ar.out⟩ hmo (by simp;omega))
    have PC:=hid (And.intro s3 (And.intro s4 s2));have a8:=hid aj;have a9:=hid ak
    rw [← hC] at hyr g3 g4
    have hzC:A.heap.size≤C.heap.size:=by rw [← hC,World.size_setCell];exact hzB
    clear hC hy hR hmo s4 s3 s2 aj jC ak r3 r4 r2 ai ae p3 p4 p2 hab
    gi_wp2_with fail
    rw [HC.out]
    refine ⟨fun e=>(by cases e),(HR.out (some l') _).mono ?_⟩
    rintro e D (⟨rfl,ab,aa⟩|⟨rfl,af,aa⟩)
    ·have hCD:∀ {i:Nat} {t:TypeId} {v:Value},Boxed C i t v→i ∉ S→Boxed D i t v:=fun h hi=>(aa.apart.block _ h.lt hi).trans h
     obtain ⟨s3,s4,s2⟩:=PC.out
     have HF:=hid (show Mild (b::(w.heap.size+1)::S) A D∧StJ T l b w.heap.size V.heap.size be d xs J (k+1) D from ⟨HM.out.join aa (fun x hx g=>by have:=ac.out x hx;simp only [List.mem_cons,List.not_mem_nil,or_false] at g;rcases g with rfl|rfl;exact hSb hx;omega),ab,⟨rs,a9.out,a8.out.mild (fun x hx=>List.mem_cons_of_mem _ (am.out x hx)) hSb aa⟩,hCD s3 (fun g=>by have:=ac.out _ g;omega),hCD s4 (fun g=>by have:=ac.out _ g;omega),hCD s2 hSe,by have:=aa.apart.size;omega⟩)
     clear ab aa HR hCD s3 s4 s2
     gi_wp2
     exact HF.out
    ·have HF:=hid (And.intro af (HM.out.join aa (fun x hx g=>by have:=ac.out x hx;simp only [List.mem_cons,List.not_mem_nil,or_false] at g;rcases g with rfl|rfl;exact hSb hx;omega)))
     clear af aa HR
     gi_wp2
     exact ⟨HF.out.2,rfl,.inr HF.out.1⟩
   ·obtain rfl:t=rs:=(bg.out hre).symm
    have hrun:=bf.out hre
    have hedB:=ai
    have hmB:Mild [b,w.heap.size+1] A B:=⟨ae.more (by simp),fun x hx=>by
     simp only [List.mem_cons,List.not_mem_nil,or_false] at hx
     rcases hx with rfl|rfl
     ·exact ar.out
     ·exact .int p4 (by decide)⟩
    have jB:=HJ.out _ _ _ J1.out (But.of_apart (b:=b) (n:=w.heap.size) ae (by simp))
    clear ai ae hab r3 r4 r2 p3 p4 p2
    have hedT:=hedB.less (T':=T) (fun x hx=>List.mem_cons_of_mem _ hx)
    have hy:=HY.out (k+1,0) (k,re) (k+1,re) B ⟨⟨rfl,rfl⟩,.inr ⟨hre,rfl,rfl,by rw [hrun]⟩,t,(fun h=>absurd h hre),hedT⟩ jB
    obtain ⟨fn,tmps,assign,body,hyr,hR⟩:=dD hy
    have HR:=hid hR;have ad:=hid hrun;have al:=hid hmB;have av:=hid hedB
    have e1:(re != 0)=true:=by simp [hre]
    have e0:(re == 0)=false:=by simp [hre]
    dsimp only [encS] at hyr
    clear hy hR hrun hedT hmB hedB jB
    gi_wp2_with fail
    refine ⟨fun e=>(by cases e),(HR.out (some l') _).mono ?_⟩
    rintro e D (⟨rfl,ab,aa⟩|⟨rfl,af,aa⟩)
    ·have HF:=hid (And.intro ab (And.intro (av.out.mild (fun x hx=>List.mem_cons_of_mem _ (am.out x hx)) hSb aa) ((Mild.join (S:=[b,w.heap.size+1]) al.out aa (fun x hx g=>by have:=ac.out x hx;simp only [List.mem_cons,List.not_mem_nil,or_false] at g;rcases g with rfl|rfl;exact hSb hx;omega)))))
     clear ab aa HR
     gi_wp2
     obtain ⟨ab,aw,ax⟩:=HF.out
     exact ⟨ax,rfl,.inl ⟨by rw [ad.out];exact ab,by rw [ad.out];exact aw.less (fun x hx=>List.mem_cons_of_mem _ hx)⟩⟩
    ·have HF:=hid (And.intro af ((Mild.join (S:=[b,w.heap.size+1]) al.out aa (fun x hx g=>by have:=ac.out x hx;simp only [List.mem_cons,List.not_mem_nil,or_false] at g;rcases g with rfl|rfl;exact hSb hx;omega))))
     clear af aa HR
     gi_wp2
     exact ⟨HF.out.2,rfl,.inr HF.out.1⟩
  ·obtain ⟨p3,p4,p2⟩:=P.out
   have hre:=hxe
   have hstp:stepR t (⟨xk,xa,xn,xs'⟩,xe)=(t,xe):=if_neg hxe
   have hrun:=hno (by rw [hstp];exact hxe)
   rw [hstp] at hrun
   have hedB:=au.out
   have hmB:Mild [b,w.heap.size+1] A A:=⟨Apart.refl _ _,fun x hx=>by
    simp only [List.mem_cons,List.not_mem_nil,or_false] at hx
    rcases hx with rfl|rfl
    ·exact ar.out
    ·exact .int p4 (by decide)⟩
   have jB:=J1.out
   clear p3 p4 p2 hst hno hstp hed
   have hedT:=hedB.less (T':=T) (fun x hx=>List.mem_cons_of_mem _ hx)
   have hy:=HY.out (k+1,0) (k,xe) (k+1,xe) A ⟨⟨rfl,rfl⟩,.inr ⟨hre,rfl,rfl,by rw [hrun]⟩,t,(fun h=>absurd h hre),hedT⟩ jB
   obtain ⟨fn,tmps,assign,body,hyr,hR⟩:=dD hy
   have HR:=hid hR;have ad:=hid hrun;have al:=hid hmB;have av:=hid hedB
   have e1:(xe != 0)=true:=by simp [hre]
   have e0:(xe == 0)=false:=by simp [hre]
   dsimp only [encS] at hyr
   clear hy hR hrun hedT hmB hedB jB
   gi_wp2_with fail
   refine ⟨fun e=>(by cases e),(HR.out (some l') _).mono ?_⟩
   rintro e D (⟨rfl,ab,aa⟩|⟨rfl,af,aa⟩)
   ·have HF:=hid (And.intro ab (And.intro (av.out.mild (fun x hx=>List.mem_cons_of_mem _ (am.out x hx)) hSb aa) ((Mild.join (S:=[b,w.heap.size+1]) al.out aa (fun x hx g=>by have:=ac.out x hx;simp only [List.mem_cons,List.not_mem_nil,or_false] at g;rcases g with rfl|rfl;exact hSb hx;omega)))))
    clear ab aa HR
    gi_wp2
    obtain ⟨ab,aw,ax⟩:=HF.out
    exact ⟨ax,rfl,.inl ⟨by rw [ad.out];exact ab,by rw [ad.out];exact aw.less (fun x hx=>List.mem_cons_of_mem _ hx)⟩⟩
   ·have HF:=hid (And.intro af ((Mild.join (S:=[b,w.heap.size+1]) al.out aa (fun x hx g=>by have:=ac.out x hx;simp only [List.mem_cons,List.not_mem_nil,or_false] at g;rcases g with rfl|rfl;exact hSb hx;omega))))
    clear af aa HR
    gi_wp2
    exact ⟨HF.out.2,rfl,.inr HF.out.1⟩
 case done =>
  rintro D' W hD hz ⟨j0,⟨t,hat,hed⟩,p3,p4,p2,ba⟩ - hK
  have hrun:=hat.done rfl
  have J1:=hid j0;have au:=hid hed;have ad:=hid hrun
  clear j0 hat hed hrun p3 p4 p2
  gi_wp2
  refine bZ hK (results_none rfl _ _ _) ⟨⟨_,rfl⟩,.inl ⟨?_,?_⟩⟩
  ·rw [ad.out]
   exact HJ.out _ _ _ J1.out (.put (by omega) _)
  ·rw [ad.out]
   exact (au.out.less (fun x hx=>List.mem_cons_of_mem _ hx)).put hK rfl _
 case stop =>
  rintro D' c W hD hz ⟨rfl,hs⟩ hK
  have HS:=hid hs
  clear hs
  gi_wp2
  refine bZ hK (results_none rfl _ _ _) ⟨⟨_,rfl⟩,?_⟩
  rcases HS.out with ⟨hj,he⟩|hx
  ·exact .inl ⟨HJ.out _ _ _ hj (.put (by omega) _),he.put hK rfl _⟩
  ·exact .inr (ao.out _ _ hx (.put (by omega) _))
def staZ:Sta:=⟨⟨#[]⟩,⟨none,[],0⟩,⟨none,[],0⟩,⟨none,[],0⟩,false,⟨none,[],0⟩⟩
theorem lI (w:World):StaIn w staZ:=⟨KPcs.empty w,SPcs.empty w,SPcs.empty w,EPcs.empty w⟩
theorem oJ:StaZ staZ:=⟨by decide,by decide,fun x hx=>absurd hx (by simp [staZ]),by decide,by decide,fun x hx=>by
 have:x=⟨none,[],0⟩:=by simpa [Sta.rows,staZ] using hx
 subst this
 exact ⟨by decide,fun y hy=>absurd hy (by simp)⟩⟩
theorem fD:rightP staZ=true:=(lU staZ).2 pB
theorem IsEd.nw {T:List Nat} {s:Sta} (h:IsEd T w b s rb p L):Nw w (some ⟨b,0,none⟩) (edN true (some ⟨rb,0,none⟩) ⟨#[]⟩ s.m.a s.m.l.length s.m.c s.u.a s.u.l.length s.u.c s.r.a s.r.l.length s.r.c s.o s.g.a s.g.l.length s.g.c):=Nw.some h.blk
theorem IsEd.state {T:List Nat} {s:Sta} (h:IsEd T w b s rb p L) (S:List Nat) (hS:InS S w) :
 Calls prog 32 #[.pointer (some ⟨b,0,none⟩)] w fun x w'=>∃ s':Sta,x=.returned s'.v∧s'.d=s.d∧StaO S w' s'∧Below w.heap.size w w':=JC h.nw h.rope h.rows.in h.inv.few S hS
attribute [local go_sem] Oper.semAt_some
def runS (s:Sta) (xs:List (Opr×Int)):StaD×Nat×Int:=if rightP s=true then runR s.d xs else (stD0,0,5)
def RetRun (S:List Nat) (w:World) (r:StaD×Nat×Int) (e:Ending) (w':World):Prop:=∃ s':Sta,e=.returned (.tuple #[s'.v,.int .i64 r.2.1,.int .i64 r.2.2])∧s'.d=r.1∧StaO S w' s'∧Below w.heap.size w w'
def EnJ (bd be:Nat) (w:World) (s:Nat×Int) (A:World):Prop:=Boxed A bd 3 (.int .i64 ((s.1 - 1:Nat):Int))∧Boxed A be 31 (.int .i64 s.2)∧Below w.heap.size w A∧Blk A (w.heap.size+1) #[.string ⟨#[]⟩,.slice none 0 0,.slice none 0 0,.slice none 0 0,.bool false,.slice none 0 0] 26
theorem FJ {N:Nat} {o:Obj} (h:Below N w A) (hl:N≤l):Below N w (A.putObj l o):=⟨h.os,h.tape,h.output,by rw [World.putObj_size];exact h.size,fun i hi=>(World.putObj_heap_other (by omega)).trans (h.block i hi)⟩
theorem aO {V:World} {p q:Addr} {v u:Value} (h:V.cell? p=some v) (hn:p.block≠q.block):(V.setCell q u).cell? p=some v:=(World.cell?_setCell_other _ _ _ _ (fun e=>hn (by rw [e]))).trans h
theorem EnJ.but {bd n:Nat} (hd:bd<n) (he:be<n) (hdb:bd≠b) (heb:be≠b) (hb:w.heap.size+1<b) (hn:w.heap.size+1<n):∀ s A B,EnJ bd be w s A→But b n A B→EnJ bd be w s B:=fun s A B ⟨h1,h2,h3,h4⟩ k =>
 ⟨(k.block _ hd hdb h1.lt).trans h1,(k.block _ he heb h2.lt).trans h2,h3.trans ⟨k.os,k.tape,k.output,k.size,fun i hi=>k.block i (by omega) (by omega) (Nat.lt_of_lt_of_le hi h3.size)⟩,(k.block _ (by omega) (by omega) h4.lt).trans h4⟩
theorem EnJ.firm {bd:Nat} (s:Nat×Int) (l:Nat) (hl:w.heap.size≤l):Firm l (EnJ bd be w s):=(Firm.box l _ _ _).both <| (Firm.box l _ _ _).both <| Firm.both ⟨fun A B h hb=>h.trans (hb.mono h.size),fun A r r' h hl2=>h.trans ⟨rfl,rfl,rfl,by simp,fun i hi=>World.putObj_heap_other (by omega)⟩⟩ (Firm.blk l _ _ _)
set_option maxHeartbeats 1600000 in
theorem FA (s:Sta) (xs:List (Opr×Int)) {gf lo:Nat} {lb:Array Value} (S:List Nat) (w:World) (hS:InS S w) (hin:StaIn w s) (hz:StaZ s) (hri:rightP s=true) (ho:OpsIt gf lb xs lo w) (hlo:lo≤w.heap.size) (eg:∀ args w,(callFunc gf args).run prog w=.ok (.enter gf args) w)
 (hfit:∀ x∈xs,i64P x.1.a∧x.1.s.size≤1000000) (hlen:xs.length≤1000000) :
 Calls prog 19 #[s.v,.func (.func gf) #[] lb] w (RetRun S w (runR s.d xs)):=by
 have hmix:prog.follows .mixedOrders=true:=by kernel_rfl
 obtain ⟨wX,hwX,kA,kB,af,a9⟩:=box2 w s.cs #[.string ⟨#[]⟩,.slice none 0 0,.slice none 0 0,.slice none 0 0,.bool false,.slice none 0 0] 26 26
 have CL:=hid (vX (T:=[]) s wX (fun i hi=>absurd hi (by simp)) (hin.later af) hz hri)
 have hw:=hwX
 have a0:=hid hwX
 have HO:=hid ho;have az:=hid hfit;have ag:=hid af;have KB:=hid kB;have a2:=hid hS;have ah:=hid ((lU s).1 hri)
 obtain ⟨z0,z1,z2,z3,z4,z5,f0,f1,f2,f3,f4,f5⟩:=Blk.all6 (x0:=.string s.t) (x1:=.slice s.m.a s.m.l.length s.m.c) (x2:=.slice s.u.a s.u.l.length s.u.c) (x3:=.slice s.r.a s.r.l.length s.r.c) (x4:=.bool s.o) (x5:=.slice s.g.a s.g.l.length s.g.c) kA
 rw [← hwX] at z0 z1 z2 z3 z4 z5 f0 f1 f2 f3 f4 f5
 clear hwX ho hfit af kA kB hS hin hz hri hw
 refine (callsIn_wide (n:=5)).1 ?_
 refine callsIn_of_wp_marks func19 rfl trivial ?_ rfl
 simp only [ntmps19,List.size_toArray,List.length_cons,List.length_nil,Nat.reduceAdd,Nat.reduceSub,Array.replicate_succ,Array.replicate_zero,List.push_toArray,List.append_toArray,List.nil_append,List.cons_append]
 gi_wp2_with fail
 rw [a0.out]
 refine ⟨trivial,(callsIn_wide.2 CL.out).mono ?_⟩
 rintro e w2 ⟨b,s1,rb,p,L,rfl,hi,hd,hbl,ac⟩
 clear z0 z1 z2 z3 z4 z5 f0 f1 f2 f3 f4 f5 CL
 gi_wp2_with fail
 refine ⟨trivial,(callsIn_wide.2 (zV b gf lb _)).mono ?_⟩
 rintro e w4 ⟨rfl,rfl⟩
 obtain ⟨W3,al,kE,kD,ai,a3⟩:=box2 w2 #[.int .i64 0] #[.int .i64 0] 31 3
 rw [al]
 obtain ⟨W4,am,kP,kQ,ad,ba⟩:=box2 W3 #[.pointer (some ⟨b,0,none⟩)] #[.func (.func gf) #[] lb] 67 57
 rw [am]
 rw [a3] at kP kQ
 have hblt:=hi.lt
 have aj:=ac.size
 have aa:Below w2.heap.size w2 W4:=ai.trans (ad.mono ai.size)
 have hed:EdAt [w2.heap.size,w2.heap.size+1] b s.d W4:=⟨s1,rb,p,L,hi.grow aa (fun x hx=>.inr (by simp only [List.mem_cons,List.not_mem_nil,or_false] at hx;omega)) (fun x hx=>by simp only [List.mem_cons,List.not_mem_nil,or_false] at hx;omega),hd⟩
 have ab:Below w.heap.size w W4:=(ag.out.trans (ac.mono ag.out.size)).trans (aa.mono (Nat.le_trans ag.out.size aj))
 have kR:=KB.out.onto (ac.trans (aa.mono aj))
 have an:Boxed W4 w2.heap.size _ _:=(ad.block w2.heap.size (by omega)).trans kE
 have ao:Boxed W4 (w2.heap.size+1) _ _:=(ad.block (w2.heap.size+1) (by omega)).trans kD
 have hinv:=ah.out
 have a4:=hid hed;have a5:=hid ab;have J0:=hid (show EnJ (w2.heap.size+1) w2.heap.size w (0,0) W4 from ⟨ao,an,ab,kR⟩);have K4:=hid (And.intro (show Boxed W4 (w2.heap.size+1+1) _ _ from kP) (show Boxed W4 ((w2.heap.size+1+1)+1) _ _ from kQ))
 clear hi hd ac al am kE kD kP kQ ai ad aa hed ab kR an ao ah
 gi_wp2_with fail
 refine jM (gf:=60) (lb:=#[.pointer (some ⟨w2.heap.size+1+1+1,0,none⟩),.pointer (some ⟨w2.heap.size+1+1,0,none⟩)]) (encs:=encS) (Y:=YS [W4.heap.size+1,w2.heap.size,w2.heap.size+1] b s.d xs) (E:=EdAt [W4.heap.size+1,w2.heap.size,w2.heap.size+1] b (runR s.d xs).1) (R:=But b (W4.heap.size+2)) (S:=[w2.heap.size,w2.heap.size+1]) (s0:=((0:Nat),(0:Int))) (s1:=((runR s.d xs).2.1+1,(runR s.d xs).2.2)) rfl (enters_of func60 (by kernel_rfl) rfl) (fun x hx=>by simp only [List.mem_cons,List.not_mem_nil,or_false] at hx;omega)
  (fun W1 hb hz=>by
   have h1:=QE (xs:=xs) (T:=[W4.heap.size+1,w2.heap.size,w2.heap.size+1]) (S:=[W4.heap.size+1,w2.heap.size,w2.heap.size+1]) (b:=b) (bo:=(w2.heap.size+1+1)+1) (be:=(w2.heap.size+1+1)) (a4.out.grow hb (fun x hx=>by simp only [List.mem_cons,List.not_mem_nil,or_false] at hx ⊢;omega) (fun x hx=>by simp only [List.mem_cons,List.not_mem_nil,or_false] at hx;omega)) (HO.out.later ((a5.out.trans (hb.mono (by omega))).mono hlo)) eg ((hb.block _ (by omega)).trans K4.out.2) ((hb.block _ (by omega)).trans K4.out.1) (by omega) az.out hlen (by omega) (by omega) (fun _ h=>h) (fun x hx=>by simp only [List.mem_cons,List.not_mem_nil,or_false] at hx;omega) (by simp;omega) (by simp;omega) (by simp;omega) (fun x hx=>by simp only [List.mem_cons,List.not_mem_nil,or_false] at hx;omega) hinv 4 (W4.heap.size+1)
   rw [hz] at h1
   exact h1)
  (fun A B h hz=>⟨h.size,fun k h1 h2=>h.block k (by omega) (by omega) (by omega)⟩) (fun _=>rfl)
  (EnJ (w2.heap.size+1) w2.heap.size w) (fun _ _=>False) (fun s A B h _ k=>EnJ.but (by omega) (by omega) (by omega) (by omega) (by omega) (by omega) s A B h k) (fun _ _ _ h _ _=>h)
  (fun s=>EnJ.firm s _ (by omega)) (fun _=>Firm.const _ _) (fun s x s'=>YS.firm _ _ _ _ _ _ _ _) (EdAt.firm _ _ _ _) J0.out
  (fun x a A=>a={ tmps:=#[s.v,.func (.func gf) #[] lb,.pointer (some ⟨w.heap.size,0,none⟩),undef,.pointer (some ⟨w.heap.size+1,0,none⟩),.int .i64 0,.int .i64 0,.pointer (some ⟨b,0,none⟩),.pointer (some ⟨w2.heap.size,0,none⟩),.pointer (some ⟨w2.heap.size+1,0,none⟩),.int .i64 x.1,.int .i64 x.2,.tuple #[.pointer (some ⟨b,0,none⟩),.int .i64 0],s.v,.tuple #[.pointer (some ⟨b,0,none⟩),.int .i64 0],.pointer (some ⟨b,0,none⟩),.int .i64 0,.int .i64 0,.bool false,undef,undef,.pointer (some ⟨b,0,none⟩),.func (.func gf) #[] lb,.func (.func 60) #[] #[.pointer (some ⟨w2.heap.size+1+1+1,0,none⟩),.pointer (some ⟨w2.heap.size+1+1,0,none⟩)],.int .i64 x.1,.int .i64 x.2,undef,undef,undef,undef,undef,undef],defers:=[] }) (fun x a=>Firm.const _ _) ?assign ?body ?done ?stop
 case assign =>
  intro l' x W K hK
  gi_wp2
  exact hK _ _ (Below.refl _ _) rfl
 case body =>
  rintro l' ⟨m,e⟩ ⟨n,f⟩ ⟨m',e'⟩ A a1 hzA ⟨⟨he,he'⟩,hy,-⟩ ⟨j1,j2,j3,j4⟩ rfl
  simp only at he he' hy j1 j2
  subst he he'
  have k1:=j1.cell
  have k2:=j2.cell
  have f1:=j1.frozen
  have f2:=j2.frozen
  have s1:=(j1.set (.int .i64 n)).other (show w2.heap.size+1≠w2.heap.size by omega) (.int .i64 e')
  have s2:=(j2.other (show w2.heap.size≠w2.heap.size+1 by omega) (.int .i64 n)).set (.int .i64 e')
  have s3:=(j3.setCell (p:=⟨w2.heap.size+1,0,none⟩) (by show w.heap.size≤w2.heap.size+1;omega) (.int .i64 n)).setCell (p:=⟨w2.heap.size,0,none⟩) (by show w.heap.size≤w2.heap.size;omega) (.int .i64 e')
  have s4:Blk ((A.setCell ⟨w2.heap.size+1,0,none⟩ (.int .i64 n)).setCell ⟨w2.heap.size,0,none⟩ (.int .i64 e')) (w.heap.size+1) _ _:=(Below.heap_setCell _ _ _ _ (by show w.heap.size+1≠w2.heap.size;omega)).trans ((Below.heap_setCell _ _ _ _ (by show w.heap.size+1≠w2.heap.size+1;omega)).trans j4)
  have hm:=Mild.join (Mild.one j1 (by decide) (.int .i64 n)) (Mild.one (j2.other (show w2.heap.size≠w2.heap.size+1 by omega) (.int .i64 n)) (by decide) (.int .i64 e')) (by simp)
  have hn:m' - 1=n:=by omega
  have S1:=hid (And.intro s1 (And.intro s2 (And.intro s3 s4)));have HM:=hid hm
  clear j1 j2 j3 j4 s1 s2 s3 s4 hm
  gi_wp2
  refine ⟨?_,?_⟩
  ·exact HM.out.less (by simp) (fun x hx=>HM.out.plain x (by simp only [List.mem_cons,List.not_mem_nil,or_false] at hx;simp;omega))
  ·show EnJ _ _ _ (m',e') _
   unfold EnJ
   simp only [hn]
   exact S1.out
 case done =>
  rintro D' W hD hz ⟨j1,j2,j3,j4⟩ ⟨s5,r5,p5,L5,aq,ae⟩ hK
  generalize hrr:runR s.d xs=r at j1 j2 ae
  obtain ⟨rd,n,e⟩:=r
  simp only [Nat.add_sub_cancel] at j1 j2 ae
  have CS:=hid (fun V (hV:Below W.heap.size W V)=>(aq.later hV).state (S:=(w.heap.size+1)::S) (fun x hx=>by rcases List.mem_cons.1 hx with rfl|hx;have:=hV.size;omega;have:=a2.out x hx;have:=j3.size;have:=hV.size;omega))
  have FS:=hid (fun V (hV:Below W.heap.size W V)=>(⟨(hV.cell (p:=⟨w2.heap.size+1,0,none⟩) (show w2.heap.size+1<W.heap.size by omega)).trans j1.cell,(hV.cell (p:=⟨w2.heap.size,0,none⟩) (show w2.heap.size<W.heap.size by omega)).trans j2.cell⟩:(fun V:World=>V.cell? ⟨w2.heap.size+1,0,none⟩=some (.int .i64 n)∧V.cell? ⟨w2.heap.size,0,none⟩=some (.int .i64 e)) V))
  have J3:=hid j3;have J4:=hid j4;have HK:=hid hK;have a6:=hid ae
  clear j1 j2 j3 j4 aq ae hK
  gi_wp2_with fail
  refine wpIn_wide.2 (wp_region_noPanic ?_)
  refine wp_region_held_drew (S:=(fun V:World=>V.cell? ⟨w2.heap.size+1,0,none⟩=some (.int .i64 n)∧V.cell? ⟨w2.heap.size,0,none⟩=some (.int .i64 e))) (by kernel_rfl) (FS.out _ (Below.refl _ _).drew) (fun hHeld=>?_)
  refine sqt 0 ?_
  refine sqt 2 ?_
  refine sqt 3 ?_
  refine sqr 1 fun K hK=>?_
  go_simp
  (go_at_call 32;refine (CS.out _ (Below.refl _ _).drew).mono ?_;rintro e v5 ⟨⟨t6,⟨ma,ml,mc⟩,⟨ua,ul,uc⟩,⟨ra,rl,rc⟩,so,⟨ga,gl,gc⟩⟩,rfl,ar,au,av⟩;have hx:=(Below.refl W.heap.size W).drew.trans av;have HX:=hid hx;have a7:=hid au;have a8:=hid ar;have K6:=hid (J4.out.onto hx);clear av hx au ar CS)
  try go_wp2_with fail
  refine hK.out _ _ ?_ (fun hHeld=>?_)
  ·exact FS.out _ HX.out
  clear hK K
  try simp only [Act.put,sqp]
  obtain ⟨x0,x1,x2,x3,x4,x5,y0,y1,y2,y3,y4,y5⟩:=K6.out.all6
  refine sqr 4 fun K hK=>?_
  go_simp
  skip
  try go_wp2_with fail
  refine hK.out _ _ ?_ (fun hHeld=>?_)
  ·refine ⟨?_,?_⟩
   ·iterate 6 refine aO ?_ (by dsimp only;omega)
    exact (FS.out _ HX.out).1
   ·iterate 6 refine aO ?_ (by dsimp only;omega)
    exact (FS.out _ HX.out).2
  clear hK K
  try simp only [Act.put,sqp]
  refine sqt 5 ?_
  refine sqt 6 ?_
  refine wpAnyH_done (by kernel_rfl) ?_ _
  refine NoPanic.normal ?_
  have kF:Blk (World.setCell (World.setCell (World.setCell (World.setCell (World.setCell (World.setCell v5 ⟨w.heap.size+1,0,none⟩ (.string t6)) ⟨w.heap.size+1,1,none⟩ (.slice ma ml.length mc)) ⟨w.heap.size+1,2,none⟩ (.slice ua ul.length uc)) ⟨w.heap.size+1,3,none⟩ (.slice ra rl.length rc)) ⟨w.heap.size+1,4,none⟩ (.bool so)) ⟨w.heap.size+1,5,none⟩ (.slice ga gl.length gc)) (w.heap.size+1) #[.string t6,.slice ma ml.length mc,.slice ua ul.length uc,.slice ra rl.length rc,.bool so,.slice ga gl.length gc] 26:=(((((K6.out.set 0 _).set 1 _).set 2 _).set 3 _).set 4 _).set 5 _
  have hDW:=(Array.getElem?_eq_some_iff.1 HK.out).1
  have ak:(World.setCell (World.setCell (World.setCell (World.setCell (World.setCell (World.setCell v5 ⟨w.heap.size+1,0,none⟩ (.string t6)) ⟨w.heap.size+1,1,none⟩ (.slice ma ml.length mc)) ⟨w.heap.size+1,2,none⟩ (.slice ua ul.length uc)) ⟨w.heap.size+1,3,none⟩ (.slice ra rl.length rc)) ⟨w.heap.size+1,4,none⟩ (.bool so)) ⟨w.heap.size+1,5,none⟩ (.slice ga gl.length gc)).heap[D']? = some (.deferred (some [])):=by
   iterate 6 refine (Below.heap_setCell _ _ _ _ (by dsimp only;omega)).trans ?_
   exact (HX.out.block D' hDW).trans HK.out
  have aw:Below w.heap.size w (World.setCell (World.setCell (World.setCell (World.setCell (World.setCell (World.setCell v5 ⟨w.heap.size+1,0,none⟩ (.string t6)) ⟨w.heap.size+1,1,none⟩ (.slice ma ml.length mc)) ⟨w.heap.size+1,2,none⟩ (.slice ua ul.length uc)) ⟨w.heap.size+1,3,none⟩ (.slice ra rl.length rc)) ⟨w.heap.size+1,4,none⟩ (.bool so)) ⟨w.heap.size+1,5,none⟩ (.slice ga gl.length gc)):=by
   iterate 6 refine Below.setCell ?_ (by dsimp only;omega) _
   exact J3.out.trans (HX.out.mono J3.out.size)
  have ax:StaO ((w.heap.size+1)::S) (World.setCell (World.setCell (World.setCell (World.setCell (World.setCell (World.setCell v5 ⟨w.heap.size+1,0,none⟩ (.string t6)) ⟨w.heap.size+1,1,none⟩ (.slice ma ml.length mc)) ⟨w.heap.size+1,2,none⟩ (.slice ua ul.length uc)) ⟨w.heap.size+1,3,none⟩ (.slice ra rl.length rc)) ⟨w.heap.size+1,4,none⟩ (.bool so)) ⟨w.heap.size+1,5,none⟩ (.slice ga gl.length gc)) ⟨t6,⟨ma,ml,mc⟩,⟨ua,ul,uc⟩,⟨ra,rl,rc⟩,so,⟨ga,gl,gc⟩⟩:=a7.out.apart (by
   iterate 6 refine Apart.setCell ?_ (.inl (by simp)) _
   exact Apart.refl _ _)
  obtain ⟨V7,ay⟩:∃ V7,World.setCell (World.setCell (World.setCell (World.setCell (World.setCell (World.setCell v5 ⟨w.heap.size+1,0,none⟩ (.string t6)) ⟨w.heap.size+1,1,none⟩ (.slice ma ml.length mc)) ⟨w.heap.size+1,2,none⟩ (.slice ua ul.length uc)) ⟨w.heap.size+1,3,none⟩ (.slice ra rl.length rc)) ⟨w.heap.size+1,4,none⟩ (.bool so)) ⟨w.heap.size+1,5,none⟩ (.slice ga gl.length gc)=V7:=⟨_,rfl⟩
  rw [ay] at kF ak aw ax ⊢
  have hc:∀ (k:Nat) (v:Value),#[.string t6,.slice ma ml.length mc,.slice ua ul.length uc,.slice ra rl.length rc,.bool so,.slice ga gl.length gc][k]? = some v→(V7.putObj D' (.deferred none)).cell? ⟨w.heap.size+1,k,none⟩=some v:=fun k v h=>(mZ (by show w.heap.size+1≠D';omega)).trans (kF.cell k v h)
  have c0:=hc 0 _ rfl
  have c1:=hc 1 _ rfl
  have c2:=hc 2 _ rfl
  have c3:=hc 3 _ rfl
  have c4:=hc 4 _ rfl
  have c5:=hc 5 _ rfl
  clear x0 x1 x2 x3 x4 x5 y0 y1 y2 y3 y4 y5 ay kF hc
  gi_wp2
  refine bZ (v:=.tuple #[.agg #[.string t6,.slice ma ml.length mc,.slice ua ul.length uc,.slice ra rl.length rc,.bool so,.slice ga gl.length gc],.int .i64 n,.int .i64 e]) ak (by simp [results,results19,go_sem,c0,c1,c2,c3,c4,c5]) ?_
  rw [hrr]
  exact ⟨⟨t6,⟨ma,ml,mc⟩,⟨ua,ul,uc⟩,⟨ra,rl,rc⟩,so,⟨ga,gl,gc⟩⟩,rfl,a8.out.trans a6.out,(ax.putn ak rfl _).wide (fun i hi=>.inl (List.mem_cons_of_mem _ hi)),FJ aw (by omega)⟩
 case stop =>
  rintro D' c W hD hz h hK
  exact h.elim
set_option maxHeartbeats 1600000 in
theorem JQ (s:Sta) (f:Value) (S:List Nat) (w:World) (hin:StaIn w s) (hz:StaZ s) (hri:rightP s=false):Calls prog 19 #[s.v,f] w (RetRun S w (stD0,0,5)):=by
 obtain ⟨wX,hwX,kA,kB,ac,an⟩:=box2 w s.cs #[.string ⟨#[]⟩,.slice none 0 0,.slice none 0 0,.slice none 0 0,.bool false,.slice none 0 0] 26 26
 have CL:=hid (zZ s wX (hin.later ac) hz hri)
 have aj:=hid hwX;have ab:=hid ac;have KB:=hid kB
 clear hwX ac kA kB hin hz hri
 unfold Sta.v Sta.cs at *
 go_enter func19,ntmps19
 go_wp2_with fail
 rw [aj.out]
 refine CL.out.mono ?_;rintro e w2 ⟨rfl,aa⟩
 obtain ⟨x0,x1,x2,x3,x4,x5,y0,y1,y2,y3,y4,y5⟩:=(KB.out.onto aa).all6
 have ao:=hid (ab.out.trans (aa.mono ab.out.size))
 have ak:=aa.size
 clear CL
 go_wp2
 obtain ⟨W4,af,kE,ag,aq⟩:=box1 w2 #[.int .i64 5] 31
 rw [af]
 have FS:=hid (fun V (hV:Below W4.heap.size W4 V)=>((kE.onto hV).cell 0 _ rfl:(fun V:World=>V.cell? ⟨w2.heap.size,0,none⟩=some (.int .i64 5)) V))
 have al:=hid (aa.trans (ag.mono ak))
 clear x0 x1 x2 x3 x4 x5 y0 y1 y2 y3 y4 y5 af kE ag aa
 refine wp_region_held_drew (S:=(fun V:World=>V.cell? ⟨w2.heap.size,0,none⟩=some (.int .i64 5))) (by kernel_rfl) (FS.out _ (Below.refl _ _).drew) (fun hHeld=>?_)
 obtain ⟨W5,ah,ad⟩:∃ X,W4.drew=X∧Below W4.heap.size W4 X:=⟨_,rfl,(Below.refl _ _).drew⟩
 rw [ah] at hHeld ⊢
 have HX:=hid (al.out.trans (ad.mono (by omega)))
 have K6:=hid (KB.out.onto HX.out)
 have am:=hid (FS.out _ ad)
 obtain ⟨x0,x1,x2,x3,x4,x5,y0,y1,y2,y3,y4,y5⟩:=K6.out.all6
 clear ad ah FS
 refine sqt 0 ?_
 refine sqt 1 ?_
 refine sqr 2 fun K hK=>?_
 go_simp
 skip
 try go_wp2_with fail
 refine hK.out _ _ ?_ (fun hHeld=>?_)
 ·iterate 6 refine aO ?_ (by dsimp only;omega)
  exact am.out
 clear hK K
 try simp only [Act.put,sqp]
 refine sqt 3 ?_
 refine sqt 4 ?_
 refine wpAnyH_done (by kernel_rfl) ?_ _
 have kF:Blk (World.setCell (World.setCell (World.setCell (World.setCell (World.setCell (World.setCell W5 ⟨w.heap.size+1,0,none⟩ (.string ⟨#[]⟩)) ⟨w.heap.size+1,1,none⟩ (.slice none 0 0)) ⟨w.heap.size+1,2,none⟩ (.slice none 0 0)) ⟨w.heap.size+1,3,none⟩ (.slice none 0 0)) ⟨w.heap.size+1,4,none⟩ (.bool false)) ⟨w.heap.size+1,5,none⟩ (.slice none 0 0)) (w.heap.size+1) #[.string ⟨#[]⟩,.slice none 0 0,.slice none 0 0,.slice none 0 0,.bool false,.slice none 0 0] 26:=(((((K6.out.set 0 _).set 1 _).set 2 _).set 3 _).set 4 _).set 5 _
 have ae:Below w.heap.size w (World.setCell (World.setCell (World.setCell (World.setCell (World.setCell (World.setCell W5 ⟨w.heap.size+1,0,none⟩ (.string ⟨#[]⟩)) ⟨w.heap.size+1,1,none⟩ (.slice none 0 0)) ⟨w.heap.size+1,2,none⟩ (.slice none 0 0)) ⟨w.heap.size+1,3,none⟩ (.slice none 0 0)) ⟨w.heap.size+1,4,none⟩ (.bool false)) ⟨w.heap.size+1,5,none⟩ (.slice none 0 0)):=by
  iterate 6 refine Below.setCell ?_ (by dsimp only;omega) _
  exact ab.out.trans (HX.out.mono ab.out.size)
 obtain ⟨V7,ai⟩:∃ V7,World.setCell (World.setCell (World.setCell (World.setCell (World.setCell (World.setCell W5 ⟨w.heap.size+1,0,none⟩ (.string ⟨#[]⟩)) ⟨w.heap.size+1,1,none⟩ (.slice none 0 0)) ⟨w.heap.size+1,2,none⟩ (.slice none 0 0)) ⟨w.heap.size+1,3,none⟩ (.slice none 0 0)) ⟨w.heap.size+1,4,none⟩ (.bool false)) ⟨w.heap.size+1,5,none⟩ (.slice none 0 0)=V7:=⟨_,rfl⟩
 rw [ai] at kF ae ⊢
 have HF:=hid (show RetRun S w (stD0,0,5) (.returned (.tuple #[.agg #[.string ⟨#[]⟩,.slice none 0 0,.slice none 0 0,.slice none 0 0,.bool false,.slice none 0 0],.int .i64 0,.int .i64 5])) V7 from ⟨staZ,rfl,rfl,⟨KPo.empty _ _,SPo.empty _ _,SPo.empty _ _,EPo.empty _ _⟩,ae⟩)
 clear x0 x1 x2 x3 x4 x5 y0 y1 y2 y3 y4 y5 ai ae
 obtain ⟨x0,x1,x2,x3,x4,x5,-,-,-,-,-,-⟩:=kF.all6
 go_wp2
 exact bodyPost_ret (v:=.tuple #[.agg #[.string ⟨#[]⟩,.slice none 0 0,.slice none 0 0,.slice none 0 0,.bool false,.slice none 0 0],.int .i64 0,.int .i64 5]) (by simp [results,results19,go_sem,x0,x1,x2,x3,x4,x5]) rfl HF.out
theorem qW (s:Sta) (xs:List (Opr×Int)) {gf lo:Nat} {lb:Array Value} (S:List Nat) (w:World) (hS:InS S w) (hin:StaIn w s) (hz:StaZ s) (ho:OpsIt gf lb xs lo w) (hlo:lo≤w.heap.size) (eg:∀ args w,(callFunc gf args).run prog w=.ok (.enter gf args) w)
 (hfit:∀ x∈xs,i64P x.1.a∧x.1.s.size≤1000000) (hlen:xs.length≤1000000) :
 Calls prog 19 #[s.v,.func (.func gf) #[] lb] w (RetRun S w (runS s xs)):=by
 unfold runS
 split
 ·exact FA s xs S w hS hin hz (by assumption) ho hlo eg hfit hlen
 ·exact JQ s _ S w hin hz (by simpa using (by assumption:¬ rightP s=true))
set_option maxHeartbeats 1600000 in
theorem qP (s:Sta) (l:List Opr) (a:Option Addr) (c n:Nat) (S:List Nat) (w:World) (hS:InS S w) (hin:StaIn w s) (hz:StaZ s) (hr:Oprs w (·<w.heap.size) a l) (hn:l.length=n) (hnz:n≤1000000) (hf:∀ x∈l,i64P x.a∧x.s.size≤1000000) :
 Calls prog 10 #[s.v,.slice a n c] w (RetRun S w (runS s (opsL l))):=by
 obtain ⟨W,hW,kA,kB,ab,al⟩:=box2 w s.cs #[.string ⟨#[]⟩,.slice none 0 0,.slice none 0 0,.slice none 0 0,.bool false,.slice none 0 0] 26 26
 have FS:=hid (fun V (hV:Below W.heap.size W V)=>(⟨(kA.onto hV).cell 0 _ rfl,(kA.onto hV).cell 1 _ rfl,(kA.onto hV).cell 2 _ rfl,(kA.onto hV).cell 3 _ rfl,(kA.onto hV).cell 4 _ rfl,(kA.onto hV).cell 5 _ rfl⟩:(fun V:World=>V.cell? ⟨w.heap.size,0,none⟩=some (.string s.t)∧V.cell? ⟨w.heap.size,1,none⟩=some (.slice s.m.a s.m.l.length s.m.c)∧V.cell? ⟨w.heap.size,2,none⟩=some (.slice s.u.a s.u.l.length s.u.c)∧V.cell? ⟨w.heap.size,3,none⟩=some (.slice s.r.a s.r.l.length s.r.c)∧V.cell? ⟨w.heap.size,4,none⟩=some (.bool s.o)∧V.cell? ⟨w.heap.size,5,none⟩=some (.slice s.g.a s.g.l.length s.g.c)) V))
 have ae:=hid (fun V (hV:Below W.heap.size W V) (ao:V.heap.size=W.heap.size+1) (kL:Boxed V W.heap.size 27 (.slice a n c)) =>
  (show Calls prog 19 #[s.v,.func (.func 36) #[] #[.pointer (some ⟨w.heap.size+1+1,0,none⟩)]] V (RetRun ((w.heap.size+1)::S) V (runS s (opsL l))) from by
   rw [← al]
   exact qW s (opsL l) ((w.heap.size+1)::S) V (fun x hx=>by rcases List.mem_cons.1 hx with rfl|hx;omega;have:=hS x hx;omega) (hin.later (ab.trans (hV.mono ab.size))) hz
    (IC l a c n (lo:=V.heap.size) (bl:=W.heap.size) (w:=V) ((hr.below (N:=w.heap.size) (fun _ h=>h) (ab.trans (hV.mono ab.size))).more fun _ h=>by omega) hn kL (by omega) (Nat.le_refl _) hnz) (Nat.le_refl _) (enters_of func36 (by kernel_rfl) rfl)
    (fun x hx=>by obtain ⟨y,hy,rfl⟩:=List.mem_map.1 hx;exact hf y hy) (by simp [opsL];omega)))
 have KR:=hid kB;have HW:=hid hW;have af:=hid ab
 clear hW kA kB ab hS hin hz hr hn hf
 unfold Sta.v Sta.cs at *
 go_enter func10,ntmps10
 go_wp2_with fail
 rw [HW.out]
 refine wp_region_held_drew (S:=(fun V:World=>V.cell? ⟨w.heap.size,0,none⟩=some (.string s.t)∧V.cell? ⟨w.heap.size,1,none⟩=some (.slice s.m.a s.m.l.length s.m.c)∧V.cell? ⟨w.heap.size,2,none⟩=some (.slice s.u.a s.u.l.length s.u.c)∧V.cell? ⟨w.heap.size,3,none⟩=some (.slice s.r.a s.r.l.length s.r.c)∧V.cell? ⟨w.heap.size,4,none⟩=some (.bool s.o)∧V.cell? ⟨w.heap.size,5,none⟩=some (.slice s.g.a s.g.l.length s.g.c))) (by kernel_rfl) (FS.out _ (Below.refl _ _).drew) (fun hHeld=>?_)
 refine sqt 0 ?_
 refine sqt 1 ?_
 refine sqr 2 fun K hK=>?_
 go_simp
 (go_at_call 20;refine (FH l a c n _).mono ?_;rintro e v1 ⟨rfl,rfl⟩;obtain ⟨V1,ag,kL,hbl,hzl⟩:=box1 (W.drew) #[.slice a n c] 27;have hzd:W.drew.heap.size=W.heap.size:=rfl;rw [ag];have hx:=(Below.refl W.heap.size W).drew.trans hbl;have HX:=hid hx;have HL:=hid (show Boxed V1 W.heap.size _ _ from kL);have CE:=hid (ae.out V1 hx (by omega) kL);clear ag kL hbl hx ae)
 try go_wp2_with fail
 refine hK.out _ _ ?_ (fun hHeld=>?_)
 ·exact FS.out _ HX.out
 clear hK K
 try simp only [Act.put,sqp]
 refine sqr 3 fun K hK=>?_
 go_simp
 (go_at_call 19;refine CE.out.mono ?_;rintro e v2 ⟨⟨t6,⟨ma,ml,mc⟩,⟨ua,ul,uc⟩,⟨ra,rl,rc⟩,so,⟨ga,gl,gc⟩⟩,rfl,ah,ai,aj⟩;have hx:=HX.out.trans (aj.mono HX.out.size);have aa:=hid hx;have am:=hid ai;have an:=hid ah;have K6:=hid (KR.out.onto hx);clear aj hx ai ah CE)
 try go_wp2_with fail
 refine hK.out _ _ ?_ (fun hHeld=>?_)
 ·exact FS.out _ aa.out
 clear hK K
 try simp only [Act.put,sqp]
 obtain ⟨x0,x1,x2,x3,x4,x5,y0,y1,y2,y3,y4,y5⟩:=K6.out.all6
 refine sqt 4 ?_
 refine sqt 5 ?_
 refine sqt 6 ?_
 refine sqr 7 fun K hK=>?_
 go_simp
 skip
 try go_wp2_with fail
 refine hK.out _ _ ?_ (fun hHeld=>?_)
 ·refine ⟨?_,?_,?_,?_,?_,?_⟩
  ·iterate 6 refine aO ?_ (by dsimp only;omega)
   exact (FS.out _ aa.out).1
  ·iterate 6 refine aO ?_ (by dsimp only;omega)
   exact (FS.out _ aa.out).2.1
  ·iterate 6 refine aO ?_ (by dsimp only;omega)
   exact (FS.out _ aa.out).2.2.1
  ·iterate 6 refine aO ?_ (by dsimp only;omega)
   exact (FS.out _ aa.out).2.2.2.1
  ·iterate 6 refine aO ?_ (by dsimp only;omega)
   exact (FS.out _ aa.out).2.2.2.2.1
  ·iterate 6 refine aO ?_ (by dsimp only;omega)
   exact (FS.out _ aa.out).2.2.2.2.2
 clear hK K
 try simp only [Act.put,sqp]
 refine sqt 8 ?_
 refine sqt 9 ?_
 refine wpAnyH_done (by kernel_rfl) ?_ _
 have kF:Blk (World.setCell (World.setCell (World.setCell (World.setCell (World.setCell (World.setCell v2 ⟨w.heap.size+1,0,none⟩ (.string t6)) ⟨w.heap.size+1,1,none⟩ (.slice ma ml.length mc)) ⟨w.heap.size+1,2,none⟩ (.slice ua ul.length uc)) ⟨w.heap.size+1,3,none⟩ (.slice ra rl.length rc)) ⟨w.heap.size+1,4,none⟩ (.bool so)) ⟨w.heap.size+1,5,none⟩ (.slice ga gl.length gc)) (w.heap.size+1) #[.string t6,.slice ma ml.length mc,.slice ua ul.length uc,.slice ra rl.length rc,.bool so,.slice ga gl.length gc] 26:=(((((K6.out.set 0 _).set 1 _).set 2 _).set 3 _).set 4 _).set 5 _
 have ac:Below w.heap.size w (World.setCell (World.setCell (World.setCell (World.setCell (World.setCell (World.setCell v2 ⟨w.heap.size+1,0,none⟩ (.string t6)) ⟨w.heap.size+1,1,none⟩ (.slice ma ml.length mc)) ⟨w.heap.size+1,2,none⟩ (.slice ua ul.length uc)) ⟨w.heap.size+1,3,none⟩ (.slice ra rl.length rc)) ⟨w.heap.size+1,4,none⟩ (.bool so)) ⟨w.heap.size+1,5,none⟩ (.slice ga gl.length gc)):=by
  iterate 6 refine Below.setCell ?_ (by dsimp only;omega) _
  exact af.out.trans (aa.out.mono af.out.size)
 have ad:StaO ((w.heap.size+1)::S) (World.setCell (World.setCell (World.setCell (World.setCell (World.setCell (World.setCell v2 ⟨w.heap.size+1,0,none⟩ (.string t6)) ⟨w.heap.size+1,1,none⟩ (.slice ma ml.length mc)) ⟨w.heap.size+1,2,none⟩ (.slice ua ul.length uc)) ⟨w.heap.size+1,3,none⟩ (.slice ra rl.length rc)) ⟨w.heap.size+1,4,none⟩ (.bool so)) ⟨w.heap.size+1,5,none⟩ (.slice ga gl.length gc)) ⟨t6,⟨ma,ml,mc⟩,⟨ua,ul,uc⟩,⟨ra,rl,rc⟩,so,⟨ga,gl,gc⟩⟩:=am.out.apart (by
  iterate 6 refine Apart.setCell ?_ (.inl (by simp)) _
  exact Apart.refl _ _)
 obtain ⟨V7,ak⟩:∃ V7,World.setCell (World.setCell (World.setCell (World.setCell (World.setCell (World.setCell v2 ⟨w.heap.size+1,0,none⟩ (.string t6)) ⟨w.heap.size+1,1,none⟩ (.slice ma ml.length mc)) ⟨w.heap.size+1,2,none⟩ (.slice ua ul.length uc)) ⟨w.heap.size+1,3,none⟩ (.slice ra rl.length rc)) ⟨w.heap.size+1,4,none⟩ (.bool so)) ⟨w.heap.size+1,5,none⟩ (.slice ga gl.length gc)=V7:=⟨_,rfl⟩
 rw [ak] at kF ac ad ⊢
 have HF:=hid (show RetRun S w (runS s (opsL l)) (.returned (.tuple #[.agg #[.string t6,.slice ma ml.length mc,.slice ua ul.length uc,.slice ra rl.length rc,.bool so,.slice ga gl.length gc],.int .i64 (runS s (opsL l)).2.1,.int .i64 (runS s (opsL l)).2.2])) V7 from ⟨⟨t6,⟨ma,ml,mc⟩,⟨ua,ul,uc⟩,⟨ra,rl,rc⟩,so,⟨ga,gl,gc⟩⟩,rfl,an.out,ad.wide (fun i hi=>.inl (List.mem_cons_of_mem _ hi)),ac⟩)
 clear x0 x1 x2 x3 x4 x5 y0 y1 y2 y3 y4 y5 ak ac ad
 obtain ⟨x0,x1,x2,x3,x4,x5,-,-,-,-,-,-⟩:=kF.all6
 go_wp2
 exact bodyPost_ret (v:=.tuple #[.agg #[.string t6,.slice ma ml.length mc,.slice ua ul.length uc,.slice ra rl.length rc,.bool so,.slice ga gl.length gc],.int .i64 (runS s (opsL l)).2.1,.int .i64 (runS s (opsL l)).2.2]) (by simp [results,results10,go_sem,x0,x1,x2,x3,x4,x5]) rfl HF.out
theorem gT (a b:Sta) (w:World) (ha:StaIn w a) (hb:StaIn w b) (fa:StaF a) (fb:StaF b):Calls prog 12 #[a.v,b.v] w (RetB (sameD a.d b.d) w):=
 yL a.t b.t _ _ _ _ _ _ _ _ _ _ _ _ a.o b.o _ _ _ _ w
  (fun W hW=>vR a.m.a b.m.a a.m.l b.m.l a.m.c b.m.c _ _ W (ha.later hW).m.row (hb.later hW).m.row (fun _ h=>h) (fun _ h=>h) (Nat.le_trans fa.m (by decide)) (Nat.le_trans fb.m (by decide)))
  (fun W hW=>jV a.u.a b.u.a a.u.l b.u.l a.u.c b.u.c W (ha.later hW).u (hb.later hW).u (fun x hx=>fa.z x (by simp [hx])) (fun x hx=>fb.z x (by simp [hx])))
  (fun W hW=>jV a.r.a b.r.a a.r.l b.r.l a.r.c b.r.c W (ha.later hW).r (hb.later hW).r (fun x hx=>fa.z x (by simp [hx])) (fun x hx=>fb.z x (by simp [hx])))
  (fun W hW=>mJ a.g.a b.g.a a.g.l b.g.l a.g.c b.g.c W (ha.later hW).g.row (hb.later hW).g.row (Nat.le_trans fa.g (by decide)) (Nat.le_trans fb.g (by decide)))
abbrev Sta.cells (s:Sta):Array Value:=#[.string s.t,.slice s.m.a s.m.l.length s.m.c,.slice s.u.a s.u.l.length s.u.c,.slice s.r.a s.r.l.length s.r.c,.bool s.o,.slice s.g.a s.g.l.length s.g.c]
theorem InvS.z25 {s:Sta} (h:InvS s.d):StaZ s:=by
 have h2:(lsP s.u.l).length≤16:=h.ul.1
 have h3:(lsP s.r.l).length≤16:=h.rl.1
 have h4:s.t.size≤4096:=h.z
 have h5:s.m.l.length≤16:=h.ml
 have h6:s.g.l.length≤32:=h.gl
 rw [aG] at h2 h3
 refine ⟨by omega,by omega,fun x hx=>?_,by omega,by omega,fun x hx=>?_⟩
 ·have hm:rightM s.m.l s.t=true:=h.m
  have:=(GY (jR ((dV.1 hm).1 x hx)).1).2.1
  have e:x.name.data.toList.length=x.name.size:=by simp
  unfold maxLen
  omega
 ·have ez:∀ l:List Edt,(∀ y∈l,okE5 y=true)→Edtz l 140737488355328:=fun l hl=>h.edz hl
  unfold Sta.rows at hx
  rcases List.mem_append.1 hx with hx|hx
  ·rcases List.mem_append.1 hx with hx|hx
   ·have hl:=bI (fun y hy=>(h.ul.2 y hy).2) x hx
    exact ⟨by omega,ez _ (bI (fun y hy=>h.ue y hy) x hx)⟩
   ·have hl:=bI (fun y hy=>(h.rl.2 y hy).2) x hx
    exact ⟨by omega,ez _ (bI (fun y hy=>h.re y hy) x hx)⟩
  ·obtain rfl:=List.mem_singleton.1 hx
   exact ⟨by omega,ez _ h.ge⟩
theorem GT {x:Opr} (h:x.fits):i64P x.a:=h.2.1
end Go.Proofs.YtbagenpobcgjnaaGreat
