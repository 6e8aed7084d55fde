/-
  Joined: EdrDev5, EdrDev6, EdrDev7, LawEdr, LawEdr2, LawEdr3, LawEdr6.
-/
import Derived.Test.YtfiobemeogaaiaaGreatJSq
import Derived.Test.YtfiobemeogaaiaaGreatJEdrMath
import Derived.Test.YtfiobemeogaaiaaGreatJStepRef2
import Derived.Laws.ByValue
import Derived.Test.YtfiobemeogaaiaaGreatJWeldOf
import Derived.Test.YtfiobemeogaaiaaGreatJStaRight
import Derived.Test.YtfiobemeogaaiaaGreatJOpenOps
import Derived.Test.YtfiobemeogaaiaaGreatJEdrRef3
variable {t:ByteArray} {L:List ByteArray} {S:List Nat} {b rb x:Nat} {p:Option Go.Addr} {w w':Go.World}
namespace Go.Proofs.YtfiobemeogaaiaaGreat
open Go.Proofs.Tryz
open Lib (hid)
variable {T : List Nat}
open Go.RowKit
set_option linter.unusedVariables false
set_option linter.unusedSimpArgs false
set_option maxRecDepth 100000 in
set_option maxHeartbeats 400000 in
theorem RG (a:Option Addr) (n c:Nat) (w:World):Calls prog 108 #[stpV a n c] w fun e w'=>e=.returned (stpV a n c)∧Below w.heap.size w w':=by
 obtain ⟨W,hW,k0,k1,hb,hz⟩:=box2 w #[.slice a n c] #[.slice a n c] 69 69
 clear hW k0 k1 hb hz W
 go_enter func108,ntmps108
 go_wp2
 refine bodyPost_ret (results_cell_row (P:=prog) (fn:=Tryz.f108) (p:=2) (ty:=69) rfl _ _ (w.heap.size+1) 69 _ (0,0) _ rfl (by have h:=Blk.new (w.alloc (.cells #[.slice a n c] 69)) #[.slice a n c] 69;rw [World.size_alloc] at h;exact h) underlying69 rfl (by kernel_rfl)) rfl ?_
 exact ⟨rfl,below2 _ _ _⟩
set_option maxRecDepth 100000 in
set_option maxHeartbeats 800000 in
theorem mM {m:KPc} {u ro:SPc} {g:EPc} (h:IsEd T w b ⟨t,m,u,ro,true,g⟩ rb p L):Calls prog 107 #[.pointer (some ⟨b,0,none⟩),.pointer (some ⟨b,4,none⟩),.pointer (some ⟨b,5,none⟩),.func (.func 88) #[] #[]] w (RetEd T w b ((Sta.d ⟨t,m,u,ro,true,g⟩),11)):=by
 have hbl:b<w.heap.size:=h.lt
 have ac:=hid (show Blk w b #[.bool true,.pointer (some ⟨rb,0,none⟩),.string ⟨#[]⟩,.slice m.a m.l.length m.c,.slice u.a u.l.length u.c,.slice ro.a ro.l.length ro.c,.bool true,.slice g.a g.l.length g.c] 54 from h.blk)
 have ad:=hid (h.rows)
 have aa:=hid ((Apart.refl [b] w))
 have ax:=hid (Below.refl w.heap.size w)
 have ay:=hid (Nat.le_refl w.heap.size)
 have ab:∀ W:World,w.heap.size≤W.heap.size→∀ i∈b::T,i<W.heap.size:=fun W hWz i hi=>by simp only [List.mem_cons] at hi;rcases hi with rfl|hi;all_goals first|omega|(have:=h.tlt i hi;omega)
 have az:=hid ab;have H:=hid h
 clear ab
 obtain ⟨ae,af,ag,ah,ai,aj,ak,al,am,an,ao,aq,ar,au,av,aw⟩:=ac.out.all8
 clear h
 go_enter func107,ntmps107
 go_wp2
 go_ret
 exact ⟨⟨t,m,u,ro,true,g⟩,rb,p,L,rfl,⟨ac.out,H.out.rope.apart H.out.blk rfl aa.out,ad.out,H.out.ml,H.out.mc,H.out.inv,fun i hi=>Nat.lt_of_lt_of_le (H.out.tlt i hi) (aa.out).size⟩,rfl,aa.out⟩
set_option maxRecDepth 100000 in
set_option maxHeartbeats 800000 in
theorem mJ {m:KPc} {u ro:SPc} {g:EPc} (h:IsEd T w b ⟨t,m,u,ro,false,g⟩ rb p L) (h0:u.l.length=0):Calls prog 107 #[.pointer (some ⟨b,0,none⟩),.pointer (some ⟨b,4,none⟩),.pointer (some ⟨b,5,none⟩),.func (.func 88) #[] #[]] w (RetEd T w b ((Sta.d ⟨t,m,u,ro,false,g⟩),10)):=by
 have hbl:b<w.heap.size:=h.lt
 have aa:=hid (show Blk w b #[.bool true,.pointer (some ⟨rb,0,none⟩),.string ⟨#[]⟩,.slice m.a m.l.length m.c,.slice u.a u.l.length u.c,.slice ro.a ro.l.length ro.c,.bool false,.slice g.a g.l.length g.c] 54 from h.blk)
 have av:=hid (h.rows)
 have aw:=hid ((Apart.refl [b] w))
 have ax:=hid (Below.refl w.heap.size w)
 have ay:=hid (Nat.le_refl w.heap.size)
 have ab:∀ W:World,w.heap.size≤W.heap.size→∀ i∈b::T,i<W.heap.size:=fun W hWz i hi=>by simp only [List.mem_cons] at hi;rcases hi with rfl|hi;all_goals first|omega|(have:=h.tlt i hi;omega)
 have bi:=hid ab;have H:=hid h
 clear ab
 obtain ⟨ac,ad,ae,af,ag,ah,ai,aj,ak,al,am,an,ao,aq,ar,au⟩:=aa.out.all8
 have c0:u.l.length=0:=h0
 have cp:=fun W=>lM u.a u.c W
 have az:=hid (show ∀ W,Calls prog 138 #[.slice u.a u.l.length u.c] W _ from fun W=>by rw [h0];exact cp W)
 clear cp h c0 h0
 go_enter func107,ntmps107
 go_wp2_with fail
 refine (az.out _).mono ?_;rintro e w1 ⟨rfl,hb⟩
 clear ac ad ae af ag ah ai aj ak al am an ao aq ar au
 have a1:=hid (aa.out.onto hb)
 have bj:=hid (av.out.later hb)
 have bk:=hid (aw.out.trans (S':=[]) (.of_below hb) (by simp))
 have bl:=hid (Nat.le_trans ay.out hb.size)
 have a0:=hid (ax.out.trans (hb.mono ax.out.size))
 clear hb az aa av aw ay
 obtain ⟨a2,a3,a4,a5,a6,a7,a8,a9,ba,bb,bc,bd,be,bf,bg,bh⟩:=a1.out.all8
 go_wp2
 go_ret
 have hbw:=a0.out.alloc a0.out.size (.cells #[.slice none 0 0] 69)
 exact ⟨⟨t,m,u,ro,false,g⟩,rb,p,L,rfl,H.out.later hbw,rfl,.of_below hbw⟩
set_option maxRecDepth 100000 in
set_option maxHeartbeats 1600000 in
theorem nF {m:KPc} {u ro:SPc} {g:EPc} (h:IsEd T w b ⟨t,m,u,ro,false,g⟩ rb p L) (k:Nat) (hn:u.l.length=k+1):Calls prog 107 #[.pointer (some ⟨b,0,none⟩),.pointer (some ⟨b,4,none⟩),.pointer (some ⟨b,5,none⟩),.func (.func 88) #[] #[]] w (RetEd T w b (undoD (Sta.d ⟨t,m,u,ro,false,g⟩))):=by
 have hbl:b<w.heap.size:=h.lt
 have hk':(lsP u.l).length=k+1:=by rw [aC];exact hn
 have hst:(lsP u.l)[k]! = (u.l[k]!).l:=bZ u.l k (by omega)
 obtain ⟨t',hrun,hv,hz⟩:=vQ h.inv rfl hk'
 have hyes:=sP (s:=Sta.d ⟨t,m,u,ro,false,g⟩) rfl hk' hrun
 have hie:=JT h.inv
 have hlen:=(h.inv.ul.2 _ (cQ (L:=lsP u.l) (k:=k) (by omega))).2
 have hok:=uF (h.inv.ue _ (cQ (L:=lsP u.l) (k:=k) (by omega)))
 have hw:∀ x∈u.l,x.l.length≤1000000:=dV fun y hy=>Nat.le_trans (h.inv.ul.2 y hy).2 (by decide)
 have hx:k≤900:=by have h2:(lsP u.l).length≤16:=h.inv.ul.1;omega
 have htl:ro.l.length≤900∧∀ x∈ro.l,x.l.length≤1000000:=by
  have h2:(lsP ro.l).length≤16:=h.inv.rl.1
  rw [aC] at h2
  exact ⟨by omega,dV fun y hy=>Nat.le_trans (h.inv.rl.2 y hy).2 (by decide)⟩
 replace hyes:undoD (Sta.d ⟨t,m,u,ro,false,g⟩)=((⟨t',shfL m.l (invL (lsP u.l)[k]!),(lsP u.l).take k,pushL (lsP ro.l) (lsP u.l)[k]!,false,g.l⟩:StaD),0):=hyes
 rw [hyes] at hie ⊢
 replace hrun:runE t (invL (lsP u.l)[k]!)=(t',0):=hrun
 replace hok:∀ x∈invL (lsP u.l)[k]!,okE5 x=true:=hok
 rw [hst] at hrun hlen hok hie ⊢
 obtain ⟨sl,hsl⟩:∃ sl,(u.l[k]!).l=sl:=⟨_,rfl⟩
 rw [hsl] at hrun hlen hok hie ⊢
 obtain ⟨rl,hrl⟩:∃ rl,invL sl=rl:=⟨_,rfl⟩
 have hrz:rl.length≤32:=by rw [← hrl,aD];exact hlen
 rw [hrl] at hrun hok hie ⊢
 have hms:=h.inv.shown hrun
 have hez:=h.inv.edz hok
 have hep:=iM (t:=t) h.inv.z hrun
 have hof:ofE t'=0:=pZ hv hz
 have htz:t.size≤4096:=h.inv.z
 have hml:m.l.length≤1000000:=Nat.le_trans h.inv.ml (by decide)
 have hmc:m.l.length≤m.c∧m.c≤maxLen:=⟨h.ml,h.mc⟩
 have j2:=hid hrun;have ka:=hid hms;have h0:=hid hez;have kb:=hid hep;have kc:=hid hof;have kd:=hid hml;have ke:=hid hmc;have HI:=hid hie;have h1:=hid htl;have kf:=hid hsl
 clear hrun hms hez hep hof hml hmc hie htl hyes hok hst hk' hv
 have an:=hid (show Blk w b #[.bool true,.pointer (some ⟨rb,0,none⟩),.string ⟨#[]⟩,.slice m.a m.l.length m.c,.slice u.a u.l.length u.c,.slice ro.a ro.l.length ro.c,.bool false,.slice g.a g.l.length g.c] 54 from h.blk)
 have h6:=hid (h.rows)
 have h7:=hid ((Apart.refl [b] w))
 have h8:=hid (Below.refl w.heap.size w)
 have h9:=hid (Nat.le_refl w.heap.size)
 have ao:∀ W:World,w.heap.size≤W.heap.size→∀ i∈b::T,i<W.heap.size:=fun W hWz i hi=>by simp only [List.mem_cons] at hi;rcases hi with rfl|hi;all_goals first|omega|(have:=h.tlt i hi;omega)
 have aq:=hid ao;have H:=hid h
 clear ao
 obtain ⟨bw,bx,bz,b3,b4,b5,b6,b7,b8,b9,ca,cb,cc,cd,ce,cf⟩:=an.out.all8
 have cp:=fun W (hW:Below w.heap.size w W)=>(lT u.a u.l u.c k W (h.rows.u.later hW).in hn hx hw).mono fun e w' hh=>mP (S:=b::T) hh (aq.out W hW.size)
 rw [← hn] at cp
 simp only [kf.out] at cp
 clear hn hx hw
 have ct:=fun W (hW:Below w.heap.size w W)=>mB (h.rope.later hW)
 have CT:=hid ct;have ia:=hid cp
 clear cp ct h
 go_enter func107,ntmps107
 go_wp2_with fail
 refine (ia.out _ (Below.refl _ _)).mono ?_;rintro e w1 ⟨⟨xa,xl,xc⟩,a2,c2,rfl,hxl,hsx,ib,hb⟩
 clear bw bx bz b3 b4 b5 b6 b7 b8 b9 ca cb cc cd ce cf
 have ar:=hid (an.out.onto hb)
 have ic:=hid (h6.out.later hb)
 have ie:=hid (h7.out.trans (S':=[]) (.of_below hb) (by simp))
 have au:=hid (Nat.le_trans h9.out hb.size)
 have ig:=hid (h8.out.trans (hb.mono h8.out.size))
 have kg:=hid hxl
 have ih:=hid (hsx)
 have ii:=hid (ib)
 clear hb hxl hsx ib ia an h6 h7 h9
 obtain ⟨cg,ch,cj,ck,cl,cm,cn,cu,cv,cw,cx,cy,cz,c3,c4,c5⟩:=ar.out.all8
 have k3:w.heap.size≤w1.heap.size:=au.out
 obtain ⟨ij,hwA1,kA,hbA,hzA⟩:=box1 w1 #[.slice a2 sl.length c2] 69
 have av:=hid (ar.out.onto hbA)
 have ik:=hid (ic.out.later hbA)
 have il:=hid (ih.out.later hbA)
 have aw:=hid (ii.out.later hbA)
 have im:=hid (ie.out.trans (S':=[]) (.of_below hbA) (by simp))
 have ax:=hid (Nat.le_trans au.out hbA.size)
 have io:=hid (ig.out.trans (hbA.mono ig.out.size))
 have ay:=hid kA
 have az:w1.heap.size<ij.heap.size:=by omega
 have k8:=hid az
 clear kA hbA hzA az ar ic ih ii ie au
 obtain ⟨c6,c7,c8,c9,da,db,dc,dd,de,df,dg,dh,di,dj,dk,dl⟩:=av.out.all8
 obtain ⟨dm,dn⟩:=ay.out.all1
 have ci:=nE a2 sl c2 ij aw.out.in.row (by omega)
 rw [hrl] at ci
 have CI:=hid ci
 clear ci
 go_wp2_with fail
 refine (CI.out).mono ?_;rintro e w3 ⟨ra,rc,rfl,hrr,hb⟩
 clear cg ch cj ck cl cm cn cu cv cw cx cy cz c3 c4 c5 hwA1 c6 c7 c8 c9 da db dc dd de df dg dh di dj dk dl dm dn
 have a0:=hid (av.out.onto hb)
 have a1:=hid (ay.out.onto hb)
 have ip:=hid (ik.out.later hb)
 have iq:=hid (il.out.later hb)
 have ir:=hid (aw.out.later hb)
 have it:=hid (im.out.trans (S':=[]) (.of_below hb) (by simp))
 have a3:=hid (Nat.le_trans ax.out hb.size)
 have iu:=hid (io.out.trans (hb.mono io.out.size))
 have iv:=hid (hrr.off (aq.out _ ax.out))
 clear hb hrr CI av ay ik il aw im ax
 obtain ⟨dp,dq,dr,ds,dt,du,dv,dw,dx,dy,dz,d0,d1,d2,d3,d4⟩:=a0.out.all8
 obtain ⟨d5,d6⟩:=a1.out.all1
 have k4:w.heap.size≤w3.heap.size:=a3.out
 obtain ⟨ac,hwA3,kA,hbA,hzA⟩:=box1 w3 #[.slice ra rl.length rc] 69
 have af:=hid (a0.out.onto hbA)
 have a4:=hid (a1.out.onto hbA)
 have iw:=hid (ip.out.later hbA)
 have ix:=hid (iq.out.later hbA)
 have iy:=hid (ir.out.later hbA)
 have a5:=hid (iv.out.later hbA)
 have iz:=hid (it.out.trans (S':=[]) (.of_below hbA) (by simp))
 have i0:=hid (Nat.le_trans a3.out hbA.size)
 have a6:=hid (iu.out.trans (hbA.mono iu.out.size))
 have ag:=hid kA
 have a7:w3.heap.size<ac.heap.size:=by omega
 have k9:=hid a7
 clear kA hbA hzA a7 a0 a1 ip iq ir iv it a3
 obtain ⟨d7,d8,d9,ea,eb,ec,ed,ee,ef,eg,eh,ei,ej,ek,el,em⟩:=af.out.all8
 obtain ⟨en,eo⟩:=a4.out.all1
 obtain ⟨ep,eq⟩:=ag.out.all1
 have cr:=fun W (hW:Below ac.heap.size ac W)=>gK t ra rl rc W (a5.out.later hW).in.row (by omega) (by omega) h0.out
 rw [j2.out] at cr
 have CR:=hid cr
 clear cr
 have hfs:∀ W,Below ac.heap.size ac W→W.cell? ⟨b,1,none⟩=some (.pointer (some ⟨rb,0,none⟩))∧W.cell? ⟨w3.heap.size,0,none⟩=some (.slice ra rl.length rc):=fun W h=>⟨(af.out.onto h).cell 1 _ rfl,(ag.out.onto h).cell 0 _ rfl⟩
 have FS:=hid hfs
 clear hfs
 go_wp2_with fail
 clear dp dq dr ds dt du dv dw dx dy dz d0 d1 d2 d3 d4 d5 d6 hwA3 d7 d8 d9 ea eb ec ed ee ef eg eh ei ej ek el em en eo ep eq
 refine wp_region_held_drew (S:=(fun W:World=>W.cell? ⟨b,1,none⟩=some (.pointer (some ⟨rb,0,none⟩))∧W.cell? ⟨w3.heap.size,0,none⟩=some (.slice ra rl.length rc))) (by kernel_rfl) (FS.out _ (Below.refl _ _).drew) (fun hHeld=>?_)
 refine sqt 0 ?_
 refine sqt 1 ?_
 refine sqt 2 ?_
 refine sqt 3 ?_
 refine sqt 5 ?_
 refine sqr 4 fun K hK=>?_
 go_simp
 (go_at_call 19;refine (CT.out _ a6.out.drew).mono ?_;rintro e y1 ⟨rfl,i1⟩;have ad:Below ac.heap.size ac y1:=(Below.refl _ _).drew.trans i1)
 try go_wp2_with fail
 refine hK.out _ _ ?_ (fun hHeld=>?_)
 ·exact FS.out _ ad
 clear hK K
 try simp only [Act.put,sqp]
 refine sqr 6 fun K hK=>?_
 go_simp
 (go_at_call 90;refine (CR.out _ ad).mono ?_;rintro e y2 ⟨rfl,i2⟩;have ab:Below ac.heap.size ac y2:=ad.trans (i2.mono ad.size))
 try go_wp2_with fail
 refine hK.out _ _ ?_ (fun hHeld=>?_)
 ·exact FS.out _ ab
 clear hK K
 try simp only [Act.put,sqp]
 refine sqt 7 ?_
 refine sqt 8 ?_
 refine sqt 9 ?_
 refine sqt 10 ?_
 refine sqt 11 ?_
 refine wpAnyH_done (by kernel_rfl) ?_ _
 have a8:=hid (af.out.onto ab)
 have a9:=hid (a4.out.onto ab)
 have ba:=hid (ag.out.onto ab)
 have i3:=hid (iw.out.later ab)
 have i4:=hid (ix.out.later ab)
 have i5:=hid (iy.out.later ab)
 have i6:=hid (a5.out.later ab)
 have i7:=hid (iz.out.trans (S':=[]) (.of_below ab) (by simp))
 have i8:=hid (Nat.le_trans i0.out ab.size)
 have i9:=hid (a6.out.trans (ab.mono a6.out.size))
 clear i1 ad i2 ab CT CR FS af a4 ag iw ix iy a5 iz i0
 obtain ⟨er,es,et,eu,ev,ew,ex,ey,e0,e3,e4,e5,e6,e7,e8,e9⟩:=a8.out.all8
 obtain ⟨fa,fb⟩:=a9.out.all1
 obtain ⟨fc,fd⟩:=ba.out.all1
 have co:=(BX t' (by unfold maxLen;omega) y2).mono fun e w' h=>h.yes kc.out
 have CO:=hid co
 clear co
 go_wp2_with fail
 refine (CO.out).mono ?_;rintro e w6 ⟨rb',p',L',rfl,hR,hb⟩
 clear er es et eu ev ew ex ey e0 e3 e4 e5 e6 e7 e8 e9 fa fb fc fd
 have bb:=hid (a8.out.onto hb)
 have ae:=hid (a9.out.onto hb)
 have bc:=hid (ba.out.onto hb)
 have bd:=hid (i3.out.later hb)
 have ja:=hid (i4.out.later hb)
 have be:=hid (i5.out.later hb)
 have jb:=hid (i6.out.later hb)
 have jc:=hid (i7.out.trans (S':=[]) (.of_below hb) (by simp))
 have bf:=hid (Nat.le_trans i8.out hb.size)
 have jd:=hid (i9.out.trans (hb.mono i9.out.size))
 have je:=hid (hR)
 clear hb hR CO a8 a9 ba i3 i4 i5 i6 i7 i8
 obtain ⟨fe,ff,fg,fh,fi,ah,fj,fk,fm,fn,fo,fp,fq,fr,fs,ft⟩:=bb.out.all8
 obtain ⟨fu,fv⟩:=ae.out.all1
 obtain ⟨fw,fx⟩:=bc.out.all1
 have cq:=fun W (hW:Below w6.heap.size w6 W)=>(gJ ro.a ro.l ro.c ⟨a2,sl,c2⟩ W (bd.out.r.later hW).in (be.out.later hW).in h1.out.1 h1.out.2 (by show sl.length≤1000000;omega)).mono fun e w' hh=>iA (S:=b::T) hh (aq.out W (Nat.le_trans bf.out hW.size))
 have CQ:=hid cq
 clear cq
 have q5:w6.drew.cell? ⟨b,5,none⟩=some (.slice ro.a ro.l.length ro.c):=ah
 go_wp2_with fail
 clear fe ff fg fh fi ah fj fk fm fn fo fp fq fr fs ft fu fv fw fx
 refine wp_region_held_drew (S:=(fun W:World=>W.cell? ⟨w1.heap.size,0,none⟩=some (.slice a2 sl.length c2))) (by kernel_rfl) (ae.out.cell 0 _ rfl) (fun hHeld=>?_)
 refine sqt 0 ?_
 refine sqt 1 ?_
 refine sqt 2 ?_
 refine sqt 3 ?_
 refine sqt 4 ?_
 refine sqt 6 ?_
 refine sqr 5 fun K hK=>?_
 go_simp
 skip
 try go_wp2_with fail
 refine hK.out _ _ ?_ (fun hHeld=>?_)
 ·exact hHeld
 clear hK K
 try simp only [Act.put,sqp]
 refine sqr 7 fun K hK=>?_
 go_simp
 (go_at_call 139;refine (CQ.out _ (Below.refl _ _).drew).mono ?_;rintro e y3 ⟨⟨za,zl,zc⟩,rfl,hzl,hsz,jf⟩;have aa:Below w6.heap.size w6 y3:=(Below.refl _ _).drew.trans jf)
 try go_wp2_with fail
 refine hK.out _ _ ?_ (fun hHeld=>?_)
 ·exact (ae.out.onto aa).cell 0 _ rfl
 clear hK K
 try simp only [Act.put,sqp]
 clear q5
 have ai:=hid (bb.out.onto aa)
 have aj:=hid (ae.out.onto aa)
 have bg:=hid (bc.out.onto aa)
 have jg:=hid (bd.out.later aa)
 have jh:=hid (ja.out.later aa)
 have ji:=hid (be.out.later aa)
 have jj:=hid (jb.out.later aa)
 have jk:=hid (je.out.later aa)
 have jl:=hid (jc.out.trans (S':=[]) (.of_below aa) (by simp))
 have jm:=hid (Nat.le_trans bf.out aa.size)
 have la:=hid (jd.out.trans (aa.mono jd.out.size))
 have kh:=hid hzl;have jn:=hid hsz
 clear hzl hsz jf aa CQ bb ae bc bd ja be jb je jc bf
 obtain ⟨fy,fz,f0,f1,f2,f3,f4,f5,f6,f7,f8,f9,ga,gb,gc,gd⟩:=ai.out.all8
 obtain ⟨gf,gg⟩:=aj.out.all1
 obtain ⟨gh,gi⟩:=bg.out.all1
 refine sqt 8 ?_
 refine sqr 9 fun K hK=>?_
 go_simp
 skip
 try go_wp2_with fail
 refine hK.out _ _ ?_ (fun hHeld=>?_)
 ·exact (aj.out.other ⟨b,4,none⟩ (by show b≠w1.heap.size;omega) _).cell 0 _ rfl
 clear hK K
 try simp only [Act.put,sqp]
 refine sqt 10 ?_
 have kO:Blk (y3.setCell ⟨b,4,none⟩ (.slice xa xl.length xc)) (b) #[.bool true,.pointer (some ⟨rb,0,none⟩),.string ⟨#[]⟩,.slice m.a m.l.length m.c,.slice xa xl.length xc,.slice ro.a ro.l.length ro.c,.bool false,.slice g.a g.l.length g.c] 54:=(ai.out.set 4 _)
 have kP:Blk (y3.setCell ⟨b,4,none⟩ (.slice xa xl.length xc)) (w1.heap.size) #[.slice a2 sl.length c2] 69:=(aj.out.other ⟨b,4,none⟩ (by show b≠w1.heap.size;omega) _)
 have kQ:Blk (y3.setCell ⟨b,4,none⟩ (.slice xa xl.length xc)) (w3.heap.size) #[.slice ra rl.length rc] 69:=(bg.out.other ⟨b,4,none⟩ (by show b≠w3.heap.size;omega) _)
 have ap0:Apart [b] y3 (y3.setCell ⟨b,4,none⟩ (.slice xa xl.length xc)):=(Apart.refl [b] y3).setCell (p:=⟨b,4,none⟩) (.inl (by simp)) _
 have ap:Apart (b::T) y3 (y3.setCell ⟨b,4,none⟩ (.slice xa xl.length xc)):=(Apart.refl (b::T) y3).setCell (p:=⟨b,4,none⟩) (.inl (by simp)) _
 have rS:=jg.out.apart ap
 have rX:=jh.out.apart ap
 have rE:=ji.out.apart ap
 have rQ:=jj.out.apart ap
 have rN:=RopeW.apart jk.out ai.out rfl ap0
 have rZ:=jn.out.apart ap
 have hB:=((jl.out.setCell (p:=⟨b,4,none⟩) (by simp) _):Apart [b] w (y3.setCell ⟨b,4,none⟩ (.slice xa xl.length xc)))
 have hz:(y3.setCell ⟨b,4,none⟩ (.slice xa xl.length xc)).heap.size=y3.heap.size:=by simp
 obtain ⟨v8,bh⟩:∃ V,(y3.setCell ⟨b,4,none⟩ (.slice xa xl.length xc))=V:=⟨_,rfl⟩
 rw [bh] at kO kP kQ rS rX rE rQ rN rZ hB hz
 rw [bh]
 have ak:=hid kO
 have al:=hid kP
 have bi:=hid kQ
 have jo:=hid rS
 have jp:=hid rX
 have jq:=hid rE
 have jr:=hid rQ
 have js:=hid rN
 have jt:=hid rZ
 have ju:=hid hB
 have jv:=hid (Nat.le_trans jm.out (Nat.le_of_eq hz.symm))
 clear kO kP kQ rS rX rE rQ rN rZ hB hz ap ai aj bg jg jh ji jj jk jn jl jm
 obtain ⟨gj,gk,gm,gn,gp,gq,gs,gt,gu,gv,gw,gx,gy,gz,g0,g1⟩:=ak.out.all8
 obtain ⟨g2,g3⟩:=al.out.all1
 obtain ⟨g4,g5⟩:=bi.out.all1
 refine sqr 11 fun K hK=>?_
 go_simp
 skip
 try go_wp2_with fail
 refine hK.out _ _ ?_ (fun hHeld=>?_)
 ·exact (al.out.other ⟨b,5,none⟩ (by show b≠w1.heap.size;omega) _).cell 0 _ rfl
 clear hK K
 try simp only [Act.put,sqp]
 refine wpAnyH_done (by kernel_rfl) ?_ _
 have kO:Blk (v8.setCell ⟨b,5,none⟩ (.slice za zl.length zc)) (b) #[.bool true,.pointer (some ⟨rb,0,none⟩),.string ⟨#[]⟩,.slice m.a m.l.length m.c,.slice xa xl.length xc,.slice za zl.length zc,.bool false,.slice g.a g.l.length g.c] 54:=(ak.out.set 5 _)
 have kP:Blk (v8.setCell ⟨b,5,none⟩ (.slice za zl.length zc)) (w1.heap.size) #[.slice a2 sl.length c2] 69:=(al.out.other ⟨b,5,none⟩ (by show b≠w1.heap.size;omega) _)
 have kQ:Blk (v8.setCell ⟨b,5,none⟩ (.slice za zl.length zc)) (w3.heap.size) #[.slice ra rl.length rc] 69:=(bi.out.other ⟨b,5,none⟩ (by show b≠w3.heap.size;omega) _)
 have ap0:Apart [b] v8 (v8.setCell ⟨b,5,none⟩ (.slice za zl.length zc)):=(Apart.refl [b] v8).setCell (p:=⟨b,5,none⟩) (.inl (by simp)) _
 have ap:Apart (b::T) v8 (v8.setCell ⟨b,5,none⟩ (.slice za zl.length zc)):=(Apart.refl (b::T) v8).setCell (p:=⟨b,5,none⟩) (.inl (by simp)) _
 have rS:=jo.out.apart ap
 have rX:=jp.out.apart ap
 have rE:=jq.out.apart ap
 have rQ:=jr.out.apart ap
 have rN:=RopeW.apart js.out ak.out rfl ap0
 have rZ:=jt.out.apart ap
 have hB:=((ju.out.setCell (p:=⟨b,5,none⟩) (by simp) _):Apart [b] w (v8.setCell ⟨b,5,none⟩ (.slice za zl.length zc)))
 have hz:(v8.setCell ⟨b,5,none⟩ (.slice za zl.length zc)).heap.size=v8.heap.size:=by simp
 obtain ⟨v9,bj⟩:∃ V,(v8.setCell ⟨b,5,none⟩ (.slice za zl.length zc))=V:=⟨_,rfl⟩
 rw [bj] at kO kP kQ rS rX rE rQ rN rZ hB hz
 rw [bj]
 have am:=hid kO
 have bk:=hid kP
 have bl:=hid kQ
 have bm:=hid rS
 have jw:=hid rX
 have jx:=hid rE
 have bn:=hid rQ
 have jy:=hid rN
 have jz:=hid rZ
 have bo:=hid hB
 have j0:=hid (Nat.le_trans jv.out (Nat.le_of_eq hz.symm))
 clear kO kP kQ rS rX rE rQ rN rZ hB hz ap ak al bi jo jp jq jr js jt ju jv
 obtain ⟨g6,g7,g8,g9,hc,hd,he,hf,hg,hj,hk,hl,hm,ho,hp,hq⟩:=am.out.all8
 obtain ⟨hr,hs⟩:=bk.out.all1
 obtain ⟨ht,hu⟩:=bl.out.all1
 have csh:=fX (made:=true) (r:=some ⟨rb,0,none⟩) (t:=⟨#[]⟩) (m:=m) (u:=⟨xa,xl,xc⟩) (ro:=⟨za,zl,zc⟩) (o:=false) (g:=g) am.out (fun i hi=>Nat.lt_of_lt_of_le (H.out.tlt i hi) bo.out.size) bm.out.m kd.out ke.out (some ⟨rb',0,none⟩) ⟨ra,rl,rc⟩ bn.out (by show rl.length≤100000;omega) h0.out kb.out ka.out
 have ki:=hid csh
 clear csh
 go_wp2_with fail
 refine (ki.out).mono ?_;rintro e wZ ⟨rfl,⟨ma,ml,mc⟩,bp,bq,j1,br,ha⟩
 clear fy fz f0 f1 f2 f3 f4 f5 f6 f7 f8 f9 ga gb gc gd gf gg gh gi bh gj gk gm gn gp gq gs gt gu gv gw gx gy gz g0 g1 g2 g3 g4 g5 bj g6 g7 g8 g9 hc hd he hf hg hj hk hl hm ho hp hq hr hs ht hu
 have bs:=hid (j1)
 have j3:=hid (bk.out.apart ha (by simp only [List.mem_singleton];omega))
 have j4:=hid (bl.out.apart ha (by simp only [List.mem_singleton];omega))
 have j5:=hid (bm.out.apart (ha.more (by simp)))
 have j6:=hid (jw.out.apart (ha.more (by simp)))
 have k5:=hid (jx.out.apart (ha.more (by simp)))
 have k6:=hid (bn.out.apart (ha.more (by simp)))
 have j7:=hid (RopeW.apart jy.out am.out rfl ha)
 have j8:=hid (jz.out.apart (ha.more (by simp)))
 have bu:=hid (bo.out.trans ha (by simp))
 have k7:=hid (Nat.le_trans j0.out ha.size)
 have bv:=hid (And.intro bp bq)
 have j9:=hid (br)
 clear ha bp bq j1 br am bk bl bm jw jx bn jy jz bo j0
 obtain ⟨kj,kk,kl,km,kn,ko,kp,kq,kr,ks,kt,ku,kv,kw,kx,ky⟩:=bs.out.all8
 obtain ⟨kz,k0⟩:=j3.out.all1
 obtain ⟨k1,k2⟩:=j4.out.all1
 go_wp2
 go_ret
 have h3:ml=shfL m.l rl:=bv.out.1
 have h4:lsP xl=_:=kg.out
 have h5:lsP zl=_:=kh.out
 refine ⟨⟨t',⟨ma,ml,mc⟩,⟨xa,xl,xc⟩,⟨za,zl,zc⟩,false,g⟩,rb',p',L',rfl,⟨bs.out,j7.out,⟨j9.out,j6.out,j8.out,j5.out.g⟩,bv.out.2.1,bv.out.2.2,?_,fun i hi=>Nat.lt_of_lt_of_le (H.out.tlt i hi) bu.out.size⟩,?_,bu.out⟩
 ·show InvS (⟨t',ml,lsP xl,lsP zl,false,g.l⟩:StaD)
  rw [h3,h4,h5]
  exact HI.out
 ·show (⟨t',ml,lsP xl,lsP zl,false,g.l⟩:StaD)=_
  rw [h3,h4,h5]
set_option maxRecDepth 100000 in
set_option maxHeartbeats 800000 in
theorem mN {m:KPc} {u ro:SPc} {g:EPc} (h:IsEd T w b ⟨t,m,u,ro,true,g⟩ rb p L):Calls prog 107 #[.pointer (some ⟨b,0,none⟩),.pointer (some ⟨b,5,none⟩),.pointer (some ⟨b,4,none⟩),.func (.func 108) #[] #[]] w (RetEd T w b ((Sta.d ⟨t,m,u,ro,true,g⟩),11)):=by
 have hbl:b<w.heap.size:=h.lt
 have ac:=hid (show Blk w b #[.bool true,.pointer (some ⟨rb,0,none⟩),.string ⟨#[]⟩,.slice m.a m.l.length m.c,.slice u.a u.l.length u.c,.slice ro.a ro.l.length ro.c,.bool true,.slice g.a g.l.length g.c] 54 from h.blk)
 have ad:=hid (h.rows)
 have aa:=hid ((Apart.refl [b] w))
 have ax:=hid (Below.refl w.heap.size w)
 have ay:=hid (Nat.le_refl w.heap.size)
 have ab:∀ W:World,w.heap.size≤W.heap.size→∀ i∈b::T,i<W.heap.size:=fun W hWz i hi=>by simp only [List.mem_cons] at hi;rcases hi with rfl|hi;all_goals first|omega|(have:=h.tlt i hi;omega)
 have az:=hid ab;have H:=hid h
 clear ab
 obtain ⟨ae,af,ag,ah,ai,aj,ak,al,am,an,ao,aq,ar,au,av,aw⟩:=ac.out.all8
 clear h
 go_enter func107,ntmps107
 go_wp2
 go_ret
 exact ⟨⟨t,m,u,ro,true,g⟩,rb,p,L,rfl,⟨ac.out,H.out.rope.apart H.out.blk rfl aa.out,ad.out,H.out.ml,H.out.mc,H.out.inv,fun i hi=>Nat.lt_of_lt_of_le (H.out.tlt i hi) (aa.out).size⟩,rfl,aa.out⟩
set_option maxRecDepth 100000 in
set_option maxHeartbeats 800000 in
theorem mK {m:KPc} {u ro:SPc} {g:EPc} (h:IsEd T w b ⟨t,m,u,ro,false,g⟩ rb p L) (h0:ro.l.length=0):Calls prog 107 #[.pointer (some ⟨b,0,none⟩),.pointer (some ⟨b,5,none⟩),.pointer (some ⟨b,4,none⟩),.func (.func 108) #[] #[]] w (RetEd T w b ((Sta.d ⟨t,m,u,ro,false,g⟩),10)):=by
 have hbl:b<w.heap.size:=h.lt
 have aa:=hid (show Blk w b #[.bool true,.pointer (some ⟨rb,0,none⟩),.string ⟨#[]⟩,.slice m.a m.l.length m.c,.slice u.a u.l.length u.c,.slice ro.a ro.l.length ro.c,.bool false,.slice g.a g.l.length g.c] 54 from h.blk)
 have av:=hid (h.rows)
 have aw:=hid ((Apart.refl [b] w))
 have ax:=hid (Below.refl w.heap.size w)
 have ay:=hid (Nat.le_refl w.heap.size)
 have ab:∀ W:World,w.heap.size≤W.heap.size→∀ i∈b::T,i<W.heap.size:=fun W hWz i hi=>by simp only [List.mem_cons] at hi;rcases hi with rfl|hi;all_goals first|omega|(have:=h.tlt i hi;omega)
 have bi:=hid ab;have H:=hid h
 clear ab
 obtain ⟨ac,ad,ae,af,ag,ah,ai,aj,ak,al,am,an,ao,aq,ar,au⟩:=aa.out.all8
 have c0:ro.l.length=0:=h0
 have cp:=fun W=>lM ro.a ro.c W
 have az:=hid (show ∀ W,Calls prog 138 #[.slice ro.a ro.l.length ro.c] W _ from fun W=>by rw [h0];exact cp W)
 clear cp h c0 h0
 go_enter func107,ntmps107
 go_wp2_with fail
 refine (az.out _).mono ?_;rintro e w1 ⟨rfl,hb⟩
 clear ac ad ae af ag ah ai aj ak al am an ao aq ar au
 have a1:=hid (aa.out.onto hb)
 have bj:=hid (av.out.later hb)
 have bk:=hid (aw.out.trans (S':=[]) (.of_below hb) (by simp))
 have bl:=hid (Nat.le_trans ay.out hb.size)
 have a0:=hid (ax.out.trans (hb.mono ax.out.size))
 clear hb az aa av aw ay
 obtain ⟨a2,a3,a4,a5,a6,a7,a8,a9,ba,bb,bc,bd,be,bf,bg,bh⟩:=a1.out.all8
 go_wp2
 go_ret
 have hbw:=a0.out.alloc a0.out.size (.cells #[.slice none 0 0] 69)
 exact ⟨⟨t,m,u,ro,false,g⟩,rb,p,L,rfl,H.out.later hbw,rfl,.of_below hbw⟩
set_option maxRecDepth 100000 in
set_option maxHeartbeats 1600000 in
theorem nZ {m:KPc} {u ro:SPc} {g:EPc} (h:IsEd T w b ⟨t,m,u,ro,false,g⟩ rb p L) (k:Nat) (hn:ro.l.length=k+1):Calls prog 107 #[.pointer (some ⟨b,0,none⟩),.pointer (some ⟨b,5,none⟩),.pointer (some ⟨b,4,none⟩),.func (.func 108) #[] #[]] w (RetEd T w b (redoD (Sta.d ⟨t,m,u,ro,false,g⟩))):=by
 have hbl:b<w.heap.size:=h.lt
 have hk':(lsP ro.l).length=k+1:=by rw [aC];exact hn
 have hst:(lsP ro.l)[k]! = (ro.l[k]!).l:=bZ ro.l k (by omega)
 obtain ⟨t',hrun,hv,hz⟩:=uP h.inv hk'
 have hyes:=rI (s:=Sta.d ⟨t,m,u,ro,false,g⟩) rfl hk' hrun
 have hie:=KI h.inv
 have hlen:=(h.inv.rl.2 _ (cQ (L:=lsP ro.l) (k:=k) (by omega))).2
 have hok:=h.inv.re _ (cQ (L:=lsP ro.l) (k:=k) (by omega))
 have hr:∀ x∈ro.l,x.l.length≤1000000:=dV fun y hy=>Nat.le_trans (h.inv.rl.2 y hy).2 (by decide)
 have hs:k≤900:=by have h2:(lsP ro.l).length≤16:=h.inv.rl.1;omega
 have htl:u.l.length≤900∧∀ x∈u.l,x.l.length≤1000000:=by
  have h2:(lsP u.l).length≤16:=h.inv.ul.1
  rw [aC] at h2
  exact ⟨by omega,dV fun y hy=>Nat.le_trans (h.inv.ul.2 y hy).2 (by decide)⟩
 replace hyes:redoD (Sta.d ⟨t,m,u,ro,false,g⟩)=((⟨t',shfL m.l (lsP ro.l)[k]!,pushL (lsP u.l) (lsP ro.l)[k]!,(lsP ro.l).take k,false,g.l⟩:StaD),0):=hyes
 rw [hyes] at hie ⊢
 replace hrun:runE t ((lsP ro.l)[k]!)=(t',0):=hrun
 replace hok:∀ x∈(lsP ro.l)[k]!,okE5 x=true:=hok
 rw [hst] at hrun hlen hok hie ⊢
 obtain ⟨sl,hsl⟩:∃ sl,(ro.l[k]!).l=sl:=⟨_,rfl⟩
 rw [hsl] at hrun hlen hok hie ⊢
 have hms:=h.inv.shown hrun
 have hez:=h.inv.edz hok
 have hep:=iM (t:=t) h.inv.z hrun
 have hof:ofE t'=0:=pZ hv hz
 have htz:t.size≤4096:=h.inv.z
 have hml:m.l.length≤1000000:=Nat.le_trans h.inv.ml (by decide)
 have hmc:m.l.length≤m.c∧m.c≤maxLen:=⟨h.ml,h.mc⟩
 have ju:=hid hrun;have j2:=hid hms;have ht:=hid hez;have j3:=hid hep;have j4:=hid hof;have j5:=hid hml;have j6:=hid hmc;have HI:=hid hie;have hu:=hid htl;have j7:=hid hsl
 clear hrun hms hez hep hof hml hmc hie htl hyes hok hst hk' hv
 have an:=hid (show Blk w b #[.bool true,.pointer (some ⟨rb,0,none⟩),.string ⟨#[]⟩,.slice m.a m.l.length m.c,.slice u.a u.l.length u.c,.slice ro.a ro.l.length ro.c,.bool false,.slice g.a g.l.length g.c] 54 from h.blk)
 have hw:=hid (h.rows)
 have hx:=hid ((Apart.refl [b] w))
 have h0:=hid (Below.refl w.heap.size w)
 have h1:=hid (Nat.le_refl w.heap.size)
 have ao:∀ W:World,w.heap.size≤W.heap.size→∀ i∈b::T,i<W.heap.size:=fun W hWz i hi=>by simp only [List.mem_cons] at hi;rcases hi with rfl|hi;all_goals first|omega|(have:=h.tlt i hi;omega)
 have h6:=hid ao;have H:=hid h
 clear ao
 obtain ⟨bs,bu,bv,bw,bx,bz,b3,b4,b5,b6,b7,b8,b9,ca,cb,cc⟩:=an.out.all8
 have cp:=fun W (hW:Below w.heap.size w W)=>(lT ro.a ro.l ro.c k W (h.rows.r.later hW).in hn hs hr).mono fun e w' hh=>mP (S:=b::T) hh (h6.out W hW.size)
 rw [← hn] at cp
 simp only [j7.out] at cp
 clear hn hs hr
 have ct:=fun W (hW:Below w.heap.size w W)=>mB (h.rope.later hW)
 have CT:=hid ct;have h7:=hid cp
 clear cp ct h
 go_enter func107,ntmps107
 go_wp2_with fail
 refine (h7.out _ (Below.refl _ _)).mono ?_;rintro e w1 ⟨⟨xa,xl,xc⟩,a2,c2,rfl,hxl,hsx,h8,hb⟩
 clear bs bu bv bw bx bz b3 b4 b5 b6 b7 b8 b9 ca cb cc
 have aq:=hid (an.out.onto hb)
 have h9:=hid (hw.out.later hb)
 have ia:=hid (hx.out.trans (S':=[]) (.of_below hb) (by simp))
 have ar:=hid (Nat.le_trans h1.out hb.size)
 have ib:=hid (h0.out.trans (hb.mono h0.out.size))
 have j8:=hid hxl
 have ic:=hid (hsx)
 have ie:=hid (h8)
 clear hb hxl hsx h8 h7 an hw hx h1
 obtain ⟨cd,ce,cf,cg,ch,ci,cj,ck,cl,cm,cn,cu,cv,cw,cx,cy⟩:=aq.out.all8
 have kv:w.heap.size≤w1.heap.size:=ar.out
 obtain ⟨ig,hwA1,kA,hbA,hzA⟩:=box1 w1 #[.slice a2 sl.length c2] 69
 have au:=hid (aq.out.onto hbA)
 have ih:=hid (h9.out.later hbA)
 have ii:=hid (ic.out.later hbA)
 have ij:=hid (ie.out.later hbA)
 have ik:=hid (ia.out.trans (S':=[]) (.of_below hbA) (by simp))
 have il:=hid (Nat.le_trans ar.out hbA.size)
 have im:=hid (ib.out.trans (hbA.mono ib.out.size))
 have av:=hid kA
 have aw:w1.heap.size<ig.heap.size:=by omega
 have kz:=hid aw
 clear kA hbA hzA aw aq h9 ic ie ia ar
 obtain ⟨cz,c3,c4,c5,c6,c7,c8,c9,da,db,dc,dd,de,df,dg,dh⟩:=au.out.all8
 obtain ⟨di,dj⟩:=av.out.all1
 have CI:=hid (RG a2 sl.length c2 ig)
 go_wp2_with fail
 refine (CI.out).mono ?_;rintro e w3 ⟨rfl,hb⟩
 clear cd ce cf cg ch ci cj ck cl cm cn cu cv cw cx cy hwA1 cz c3 c4 c5 c6 c7 c8 c9 da db dc dd de df dg dh di dj
 have ax:=hid (au.out.onto hb)
 have ay:=hid (av.out.onto hb)
 have io:=hid (ih.out.later hb)
 have ip:=hid (ii.out.later hb)
 have iq:=hid (ij.out.later hb)
 have ir:=hid (ik.out.trans (S':=[]) (.of_below hb) (by simp))
 have az:=hid (Nat.le_trans il.out hb.size)
 have it:=hid (im.out.trans (hb.mono im.out.size))
 clear hb CI au av ih ii ij ik il
 obtain ⟨dk,dl,dm,dn,dp,dq,dr,ds,dt,du,dv,dw,dx,dy,dz,d0⟩:=ax.out.all8
 obtain ⟨d1,d2⟩:=ay.out.all1
 have kw:w.heap.size≤w3.heap.size:=az.out
 obtain ⟨ac,hwA3,kA,hbA,hzA⟩:=box1 w3 #[.slice a2 sl.length c2] 69
 have af:=hid (ax.out.onto hbA)
 have a0:=hid (ay.out.onto hbA)
 have iu:=hid (io.out.later hbA)
 have iv:=hid (ip.out.later hbA)
 have a1:=hid (iq.out.later hbA)
 have iw:=hid (ir.out.trans (S':=[]) (.of_below hbA) (by simp))
 have ix:=hid (Nat.le_trans az.out hbA.size)
 have a3:=hid (it.out.trans (hbA.mono it.out.size))
 have ag:=hid kA
 have a4:w3.heap.size<ac.heap.size:=by omega
 have k0:=hid a4
 clear kA hbA hzA a4 ax ay io ip iq ir az
 obtain ⟨d3,d4,d5,d6,d7,d8,d9,ea,eb,ec,ed,ee,ef,eg,eh,ei⟩:=af.out.all8
 obtain ⟨ej,ek⟩:=a0.out.all1
 obtain ⟨el,em⟩:=ag.out.all1
 have cr:=fun W (hW:Below ac.heap.size ac W)=>gK t a2 sl c2 W (a1.out.later hW).in.row (by omega) (by omega) ht.out
 rw [ju.out] at cr
 have CR:=hid cr
 clear cr
 have hfs:∀ W,Below ac.heap.size ac W→W.cell? ⟨b,1,none⟩=some (.pointer (some ⟨rb,0,none⟩))∧W.cell? ⟨w3.heap.size,0,none⟩=some (.slice a2 sl.length c2):=fun W h=>⟨(af.out.onto h).cell 1 _ rfl,(ag.out.onto h).cell 0 _ rfl⟩
 have FS:=hid hfs
 clear hfs
 go_wp2_with fail
 clear dk dl dm dn dp dq dr ds dt du dv dw dx dy dz d0 d1 d2 hwA3 d3 d4 d5 d6 d7 d8 d9 ea eb ec ed ee ef eg eh ei ej ek el em
 refine wp_region_held_drew (S:=(fun W:World=>W.cell? ⟨b,1,none⟩=some (.pointer (some ⟨rb,0,none⟩))∧W.cell? ⟨w3.heap.size,0,none⟩=some (.slice a2 sl.length c2))) (by kernel_rfl) (FS.out _ (Below.refl _ _).drew) (fun hHeld=>?_)
 refine sqt 0 ?_
 refine sqt 1 ?_
 refine sqt 2 ?_
 refine sqt 3 ?_
 refine sqt 5 ?_
 refine sqr 4 fun K hK=>?_
 go_simp
 (go_at_call 19;refine (CT.out _ a3.out.drew).mono ?_;rintro e y1 ⟨rfl,iy⟩;have ad:Below ac.heap.size ac y1:=(Below.refl _ _).drew.trans iy)
 try go_wp2_with fail
 refine hK.out _ _ ?_ (fun hHeld=>?_)
 ·exact FS.out _ ad
 clear hK K
 try simp only [Act.put,sqp]
 refine sqr 6 fun K hK=>?_
 go_simp
 (go_at_call 90;refine (CR.out _ ad).mono ?_;rintro e y2 ⟨rfl,iz⟩;have ab:Below ac.heap.size ac y2:=ad.trans (iz.mono ad.size))
 try go_wp2_with fail
 refine hK.out _ _ ?_ (fun hHeld=>?_)
 ·exact FS.out _ ab
 clear hK K
 try simp only [Act.put,sqp]
 refine sqt 7 ?_
 refine sqt 8 ?_
 refine sqt 9 ?_
 refine sqt 10 ?_
 refine sqt 11 ?_
 refine wpAnyH_done (by kernel_rfl) ?_ _
 have a5:=hid (af.out.onto ab)
 have a6:=hid (a0.out.onto ab)
 have a7:=hid (ag.out.onto ab)
 have i0:=hid (iu.out.later ab)
 have i1:=hid (iv.out.later ab)
 have i2:=hid (a1.out.later ab)
 have i3:=hid (iw.out.trans (S':=[]) (.of_below ab) (by simp))
 have i4:=hid (Nat.le_trans ix.out ab.size)
 have i5:=hid (a3.out.trans (ab.mono a3.out.size))
 clear iy ad iz ab CT CR FS af a0 ag iu iv a1 iw ix
 obtain ⟨en,eo,ep,eq,er,es,et,eu,ev,ew,ex,ey,e0,e3,e4,e5⟩:=a5.out.all8
 obtain ⟨e6,e7⟩:=a6.out.all1
 obtain ⟨e8,e9⟩:=a7.out.all1
 have co:=(BX t' (by unfold maxLen;omega) y2).mono fun e w' h=>h.yes j4.out
 have CO:=hid co
 clear co
 go_wp2_with fail
 refine (CO.out).mono ?_;rintro e w6 ⟨rb',p',L',rfl,hR,hb⟩
 clear en eo ep eq er es et eu ev ew ex ey e0 e3 e4 e5 e6 e7 e8 e9
 have a8:=hid (a5.out.onto hb)
 have ae:=hid (a6.out.onto hb)
 have a9:=hid (a7.out.onto hb)
 have ba:=hid (i0.out.later hb)
 have i6:=hid (i1.out.later hb)
 have bb:=hid (i2.out.later hb)
 have i7:=hid (i3.out.trans (S':=[]) (.of_below hb) (by simp))
 have bc:=hid (Nat.le_trans i4.out hb.size)
 have i8:=hid (i5.out.trans (hb.mono i5.out.size))
 have i9:=hid (hR)
 clear hb hR CO a5 a6 a7 i0 i1 i2 i3 i4
 obtain ⟨fa,fb,fc,fd,ah,fe,ff,fg,fh,fi,fj,fk,fm,fn,fo,fp⟩:=a8.out.all8
 obtain ⟨fq,fr⟩:=ae.out.all1
 obtain ⟨fs,ft⟩:=a9.out.all1
 have cq:=fun W (hW:Below w6.heap.size w6 W)=>(gJ u.a u.l u.c ⟨a2,sl,c2⟩ W (ba.out.u.later hW).in (bb.out.later hW).in hu.out.1 hu.out.2 (by show sl.length≤1000000;omega)).mono fun e w' hh=>iA (S:=b::T) hh (h6.out W (Nat.le_trans bc.out hW.size))
 have CQ:=hid cq
 clear cq
 have q5:w6.drew.cell? ⟨b,4,none⟩=some (.slice u.a u.l.length u.c):=ah
 go_wp2_with fail
 clear fa fb fc fd ah fe ff fg fh fi fj fk fm fn fo fp fq fr fs ft
 refine wp_region_held_drew (S:=(fun W:World=>W.cell? ⟨w1.heap.size,0,none⟩=some (.slice a2 sl.length c2))) (by kernel_rfl) (ae.out.cell 0 _ rfl) (fun hHeld=>?_)
 refine sqt 0 ?_
 refine sqt 1 ?_
 refine sqt 2 ?_
 refine sqt 3 ?_
 refine sqt 4 ?_
 refine sqt 6 ?_
 refine sqr 5 fun K hK=>?_
 go_simp
 skip
 try go_wp2_with fail
 refine hK.out _ _ ?_ (fun hHeld=>?_)
 ·exact hHeld
 clear hK K
 try simp only [Act.put,sqp]
 refine sqr 7 fun K hK=>?_
 go_simp
 (go_at_call 139;refine (CQ.out _ (Below.refl _ _).drew).mono ?_;rintro e y3 ⟨⟨za,zl,zc⟩,rfl,hzl,hsz,ja⟩;have aa:Below w6.heap.size w6 y3:=(Below.refl _ _).drew.trans ja)
 try go_wp2_with fail
 refine hK.out _ _ ?_ (fun hHeld=>?_)
 ·exact (ae.out.onto aa).cell 0 _ rfl
 clear hK K
 try simp only [Act.put,sqp]
 clear q5
 have ai:=hid (a8.out.onto aa)
 have aj:=hid (ae.out.onto aa)
 have bd:=hid (a9.out.onto aa)
 have jb:=hid (ba.out.later aa)
 have jc:=hid (i6.out.later aa)
 have jd:=hid (bb.out.later aa)
 have je:=hid (i9.out.later aa)
 have jf:=hid (i7.out.trans (S':=[]) (.of_below aa) (by simp))
 have jg:=hid (Nat.le_trans bc.out aa.size)
 have k1:=hid (i8.out.trans (aa.mono i8.out.size))
 have j9:=hid hzl;have jh:=hid hsz
 clear hzl hsz ja aa CQ a8 ae a9 ba i6 bb i9 i7 bc
 obtain ⟨fu,fv,fw,fx,fy,fz,f0,f1,f2,f3,f4,f5,f6,f7,f8,f9⟩:=ai.out.all8
 obtain ⟨ga,gb⟩:=aj.out.all1
 obtain ⟨gc,gd⟩:=bd.out.all1
 refine sqt 8 ?_
 refine sqr 9 fun K hK=>?_
 go_simp
 skip
 try go_wp2_with fail
 refine hK.out _ _ ?_ (fun hHeld=>?_)
 ·exact (aj.out.other ⟨b,5,none⟩ (by show b≠w1.heap.size;omega) _).cell 0 _ rfl
 clear hK K
 try simp only [Act.put,sqp]
 refine sqt 10 ?_
 have kO:Blk (y3.setCell ⟨b,5,none⟩ (.slice xa xl.length xc)) (b) #[.bool true,.pointer (some ⟨rb,0,none⟩),.string ⟨#[]⟩,.slice m.a m.l.length m.c,.slice u.a u.l.length u.c,.slice xa xl.length xc,.bool false,.slice g.a g.l.length g.c] 54:=(ai.out.set 5 _)
 have kP:Blk (y3.setCell ⟨b,5,none⟩ (.slice xa xl.length xc)) (w1.heap.size) #[.slice a2 sl.length c2] 69:=(aj.out.other ⟨b,5,none⟩ (by show b≠w1.heap.size;omega) _)
 have kQ:Blk (y3.setCell ⟨b,5,none⟩ (.slice xa xl.length xc)) (w3.heap.size) #[.slice a2 sl.length c2] 69:=(bd.out.other ⟨b,5,none⟩ (by show b≠w3.heap.size;omega) _)
 have ap0:Apart [b] y3 (y3.setCell ⟨b,5,none⟩ (.slice xa xl.length xc)):=(Apart.refl [b] y3).setCell (p:=⟨b,5,none⟩) (.inl (by simp)) _
 have ap:Apart (b::T) y3 (y3.setCell ⟨b,5,none⟩ (.slice xa xl.length xc)):=(Apart.refl (b::T) y3).setCell (p:=⟨b,5,none⟩) (.inl (by simp)) _
 have rS:=jb.out.apart ap
 have rX:=jc.out.apart ap
 have rE:=jd.out.apart ap
 have rN:=RopeW.apart je.out ai.out rfl ap0
 have rZ:=jh.out.apart ap
 have hB:=((jf.out.setCell (p:=⟨b,5,none⟩) (by simp) _):Apart [b] w (y3.setCell ⟨b,5,none⟩ (.slice xa xl.length xc)))
 have hz:(y3.setCell ⟨b,5,none⟩ (.slice xa xl.length xc)).heap.size=y3.heap.size:=by simp
 obtain ⟨v8,be⟩:∃ V,(y3.setCell ⟨b,5,none⟩ (.slice xa xl.length xc))=V:=⟨_,rfl⟩
 rw [be] at kO kP kQ rS rX rE rN rZ hB hz
 rw [be]
 have ak:=hid kO
 have al:=hid kP
 have bf:=hid kQ
 have ji:=hid rS
 have jj:=hid rX
 have jk:=hid rE
 have jl:=hid rN
 have jm:=hid rZ
 have jn:=hid hB
 have jo:=hid (Nat.le_trans jg.out (Nat.le_of_eq hz.symm))
 clear kO kP kQ rS rX rE rN rZ hB hz ap ai aj bd jb jc jd je jh jf jg
 obtain ⟨gf,gg,gh,gi,gj,gk,gm,gn,gp,gq,gs,gt,gu,gv,gw,gx⟩:=ak.out.all8
 obtain ⟨gy,gz⟩:=al.out.all1
 obtain ⟨g0,g1⟩:=bf.out.all1
 refine sqr 11 fun K hK=>?_
 go_simp
 skip
 try go_wp2_with fail
 refine hK.out _ _ ?_ (fun hHeld=>?_)
 ·exact (al.out.other ⟨b,4,none⟩ (by show b≠w1.heap.size;omega) _).cell 0 _ rfl
 clear hK K
 try simp only [Act.put,sqp]
 refine wpAnyH_done (by kernel_rfl) ?_ _
 have kO:Blk (v8.setCell ⟨b,4,none⟩ (.slice za zl.length zc)) (b) #[.bool true,.pointer (some ⟨rb,0,none⟩),.string ⟨#[]⟩,.slice m.a m.l.length m.c,.slice za zl.length zc,.slice xa xl.length xc,.bool false,.slice g.a g.l.length g.c] 54:=(ak.out.set 4 _)
 have kP:Blk (v8.setCell ⟨b,4,none⟩ (.slice za zl.length zc)) (w1.heap.size) #[.slice a2 sl.length c2] 69:=(al.out.other ⟨b,4,none⟩ (by show b≠w1.heap.size;omega) _)
 have kQ:Blk (v8.setCell ⟨b,4,none⟩ (.slice za zl.length zc)) (w3.heap.size) #[.slice a2 sl.length c2] 69:=(bf.out.other ⟨b,4,none⟩ (by show b≠w3.heap.size;omega) _)
 have ap0:Apart [b] v8 (v8.setCell ⟨b,4,none⟩ (.slice za zl.length zc)):=(Apart.refl [b] v8).setCell (p:=⟨b,4,none⟩) (.inl (by simp)) _
 have ap:Apart (b::T) v8 (v8.setCell ⟨b,4,none⟩ (.slice za zl.length zc)):=(Apart.refl (b::T) v8).setCell (p:=⟨b,4,none⟩) (.inl (by simp)) _
 have rS:=ji.out.apart ap
 have rX:=jj.out.apart ap
 have rE:=jk.out.apart ap
 have rN:=RopeW.apart jl.out ak.out rfl ap0
 have rZ:=jm.out.apart ap
 have hB:=((jn.out.setCell (p:=⟨b,4,none⟩) (by simp) _):Apart [b] w (v8.setCell ⟨b,4,none⟩ (.slice za zl.length zc)))
 have hz:(v8.setCell ⟨b,4,none⟩ (.slice za zl.length zc)).heap.size=v8.heap.size:=by simp
 obtain ⟨v9,bg⟩:∃ V,(v8.setCell ⟨b,4,none⟩ (.slice za zl.length zc))=V:=⟨_,rfl⟩
 rw [bg] at kO kP kQ rS rX rE rN rZ hB hz
 rw [bg]
 have am:=hid kO
 have bh:=hid kP
 have bi:=hid kQ
 have bj:=hid rS
 have jp:=hid rX
 have bk:=hid rE
 have jq:=hid rN
 have jr:=hid rZ
 have bl:=hid hB
 have js:=hid (Nat.le_trans jo.out (Nat.le_of_eq hz.symm))
 clear kO kP kQ rS rX rE rN rZ hB hz ap ak al bf ji jj jk jl jm jn jo
 obtain ⟨g2,g3,g4,g5,g6,g7,g8,g9,hc,hd,he,hf,hg,hj,hk,hl⟩:=am.out.all8
 obtain ⟨hm,ho⟩:=bh.out.all1
 obtain ⟨hp,hq⟩:=bi.out.all1
 have csh:=fX (made:=true) (r:=some ⟨rb,0,none⟩) (t:=⟨#[]⟩) (m:=m) (u:=⟨za,zl,zc⟩) (ro:=⟨xa,xl,xc⟩) (o:=false) (g:=g) am.out (fun i hi=>Nat.lt_of_lt_of_le (H.out.tlt i hi) bl.out.size) bj.out.m j5.out j6.out (some ⟨rb',0,none⟩) ⟨a2,sl,c2⟩ bk.out (by show sl.length≤100000;omega) ht.out j3.out j2.out
 have ka:=hid csh
 clear csh
 go_wp2_with fail
 refine (ka.out).mono ?_;rintro e wZ ⟨rfl,⟨ma,ml,mc⟩,bm,bn,jt,bo,ha⟩
 clear fu fv fw fx fy fz f0 f1 f2 f3 f4 f5 f6 f7 f8 f9 ga gb gc gd be gf gg gh gi gj gk gm gn gp gq gs gt gu gv gw gx gy gz g0 g1 bg g2 g3 g4 g5 g6 g7 g8 g9 hc hd he hf hg hj hk hl hm ho hp hq
 have bp:=hid (jt)
 have jv:=hid (bh.out.apart ha (by simp only [List.mem_singleton];omega))
 have jw:=hid (bi.out.apart ha (by simp only [List.mem_singleton];omega))
 have jx:=hid (bj.out.apart (ha.more (by simp)))
 have jy:=hid (jp.out.apart (ha.more (by simp)))
 have kx:=hid (bk.out.apart (ha.more (by simp)))
 have jz:=hid (RopeW.apart jq.out am.out rfl ha)
 have j0:=hid (jr.out.apart (ha.more (by simp)))
 have bq:=hid (bl.out.trans ha (by simp))
 have ky:=hid (Nat.le_trans js.out ha.size)
 have br:=hid (And.intro bm bn)
 have j1:=hid (bo)
 clear ha bm bn jt bo am bh bi bj jp bk jq jr bl js
 obtain ⟨kb,kc,kd,ke,kf,kg,kh,ki,kj,kk,kl,km,kn,ko,kp,kq⟩:=bp.out.all8
 obtain ⟨kr,ks⟩:=jv.out.all1
 obtain ⟨kt,ku⟩:=jw.out.all1
 go_wp2
 go_ret
 have h3:ml=shfL m.l sl:=br.out.1
 have h4:lsP xl=_:=j8.out
 have h5:lsP zl=_:=j9.out
 refine ⟨⟨t',⟨ma,ml,mc⟩,⟨za,zl,zc⟩,⟨xa,xl,xc⟩,false,g⟩,rb',p',L',rfl,⟨bp.out,jz.out,⟨j1.out,j0.out,jy.out,jx.out.g⟩,br.out.2.1,br.out.2.2,?_,fun i hi=>Nat.lt_of_lt_of_le (H.out.tlt i hi) bq.out.size⟩,?_,bq.out⟩
 ·show InvS (⟨t',ml,lsP zl,lsP xl,false,g.l⟩:StaD)
  rw [h3,h4,h5]
  exact HI.out
 ·show (⟨t',ml,lsP zl,lsP xl,false,g.l⟩:StaD)=_
  rw [h3,h4,h5]
theorem wT {s:Sta} (h:IsEd T w b s rb p L):Calls prog 107 #[.pointer (some ⟨b,0,none⟩),.pointer (some ⟨b,4,none⟩),.pointer (some ⟨b,5,none⟩),.func (.func 88) #[] #[]] w (RetEd T w b (undoD s.d)):=by
 obtain ⟨t,m,u,ro,so,g⟩:=s
 cases so with
 | true =>
  have e:undoD (Sta.d ⟨t,m,u,ro,true,g⟩)=(Sta.d ⟨t,m,u,ro,true,g⟩,11):=by unfold undoD;exact if_pos rfl
  rw [e]
  exact mM h
 | false =>
  cases hn:u.l.length with
  | zero =>
   have e:undoD (Sta.d ⟨t,m,u,ro,false,g⟩)=(Sta.d ⟨t,m,u,ro,false,g⟩,10):=by unfold undoD;exact (if_neg (fun h=>by cases h)).trans (if_pos (show (lsP u.l).length=0 by rw [aC];exact hn))
   rw [e]
   exact mJ h hn
  | succ k=>exact nF h k hn
set_option maxRecDepth 100000 in
set_option maxHeartbeats 800000 in
theorem NZ {s:Sta} (h:IsEd T w b s rb p L) (k i n:Int) (x:ByteArray):Calls prog 64 #[.pointer (some ⟨b,0,none⟩),(.agg #[.int .i64 k,.int .i64 i,.int .i64 n,.string x])] w (RetEd T w b (undoD s.d)):=by
 obtain ⟨wX,hwX,kE,aa,hz⟩:=box1 w #[.int .i64 k,.int .i64 i,.int .i64 n,.string x] 36
 have ct:=fun W (hW:Below w.heap.size w W)=>wT (h.later hW)
 obtain ⟨R,hR⟩:∃ R,undoD s.d=R:=⟨_,rfl⟩
 rw [hR] at ct ⊢
 obtain ⟨Rs,Re⟩:=R
 have CT:=hid ct;have ab:=hid aa
 clear ct hR kE aa hz h
 go_enter func64,ntmps64
 go_wp2_with fail
 refine wp_region_held_drew (S:=(fun _:World=>True)) (by kernel_rfl) True.intro (fun hHeld=>?_)
 refine sqt 0 ?_
 refine sqt 1 ?_
 refine sqt 2 ?_
 refine sqt 3 ?_
 refine sqt 4 ?_
 refine sqt 5 ?_
 refine sqt 6 ?_
 refine sqt 7 ?_
 refine sqt 8 ?_
 refine sqr 9 fun K hK=>?_
 go_simp
 (go_at_call 107;refine (CT.out _ (ab.out.drew)).mono ?_;rintro e w1 ⟨s1,rb1,p1,L1,rfl,ac,ad,ae⟩;have HQ:=hid (And.intro ac (And.intro ad ae));clear ac ad ae)
 try go_wp2_with fail
 refine hK.out _ _ ?_ (fun hHeld=>?_)
 ·exact True.intro
 clear hK K
 try simp only [Act.put,sqp]
 refine sqt 10 ?_
 refine wpAnyH_done (by kernel_rfl) ?_ _
 go_wp2
 go_ret
 exact ⟨s1,rb1,p1,L1,rfl,HQ.out.1,HQ.out.2.1,(Apart.of_below (S:=[b]) ab.out.drew).trans HQ.out.2.2 (fun x hx=>.inl hx)⟩
theorem vY {s:Sta} (h:IsEd T w b s rb p L):Calls prog 107 #[.pointer (some ⟨b,0,none⟩),.pointer (some ⟨b,5,none⟩),.pointer (some ⟨b,4,none⟩),.func (.func 108) #[] #[]] w (RetEd T w b (redoD s.d)):=by
 obtain ⟨t,m,u,ro,so,g⟩:=s
 cases so with
 | true =>
  have e:redoD (Sta.d ⟨t,m,u,ro,true,g⟩)=(Sta.d ⟨t,m,u,ro,true,g⟩,11):=by unfold redoD;exact if_pos rfl
  rw [e]
  exact mN h
 | false =>
  cases hn:ro.l.length with
  | zero =>
   have e:redoD (Sta.d ⟨t,m,u,ro,false,g⟩)=(Sta.d ⟨t,m,u,ro,false,g⟩,10):=by unfold redoD;exact (if_neg (fun h=>by cases h)).trans (if_pos (show (lsP ro.l).length=0 by rw [aC];exact hn))
   rw [e]
   exact mK h hn
  | succ k=>exact nZ h k hn
set_option maxRecDepth 100000 in
set_option maxHeartbeats 800000 in
theorem NL {s:Sta} (h:IsEd T w b s rb p L) (k i n:Int) (x:ByteArray):Calls prog 65 #[.pointer (some ⟨b,0,none⟩),(.agg #[.int .i64 k,.int .i64 i,.int .i64 n,.string x])] w (RetEd T w b (redoD s.d)):=by
 obtain ⟨wX,hwX,kE,aa,hz⟩:=box1 w #[.int .i64 k,.int .i64 i,.int .i64 n,.string x] 36
 have ct:=fun W (hW:Below w.heap.size w W)=>vY (h.later hW)
 obtain ⟨R,hR⟩:∃ R,redoD s.d=R:=⟨_,rfl⟩
 rw [hR] at ct ⊢
 obtain ⟨Rs,Re⟩:=R
 have CT:=hid ct;have ab:=hid aa
 clear ct hR kE aa hz h
 go_enter func65,ntmps65
 go_wp2_with fail
 refine wp_region_held_drew (S:=(fun _:World=>True)) (by kernel_rfl) True.intro (fun hHeld=>?_)
 refine sqt 0 ?_
 refine sqt 1 ?_
 refine sqt 2 ?_
 refine sqt 3 ?_
 refine sqt 4 ?_
 refine sqt 5 ?_
 refine sqt 6 ?_
 refine sqt 7 ?_
 refine sqt 8 ?_
 refine sqr 9 fun K hK=>?_
 go_simp
 (go_at_call 107;refine (CT.out _ (ab.out.drew)).mono ?_;rintro e w1 ⟨s1,rb1,p1,L1,rfl,ac,ad,ae⟩;have HQ:=hid (And.intro ac (And.intro ad ae));clear ac ad ae)
 try go_wp2_with fail
 refine hK.out _ _ ?_ (fun hHeld=>?_)
 ·exact True.intro
 clear hK K
 try simp only [Act.put,sqp]
 refine sqt 10 ?_
 refine wpAnyH_done (by kernel_rfl) ?_ _
 go_wp2
 go_ret
 exact ⟨s1,rb1,p1,L1,rfl,HQ.out.1,HQ.out.2.1,(Apart.of_below (S:=[b]) ab.out.drew).trans HQ.out.2.2 (fun x hx=>.inl hx)⟩
set_option maxRecDepth 100000 in
set_option maxHeartbeats 400000 in
theorem DP (w:World):Calls prog 30 #[.int .i64 1] w fun e w'=>e=.returned (.func (.func 60) #[] #[])∧w=w':=by
 go_enter func30,ntmps30
 go_wp2
 go_ret
 exact ⟨rfl,rfl⟩
set_option maxRecDepth 100000 in
set_option maxHeartbeats 400000 in
theorem DV (w:World):Calls prog 30 #[.int .i64 2] w fun e w'=>e=.returned (.func (.func 61) #[] #[])∧w=w':=by
 go_enter func30,ntmps30
 go_wp2
 go_ret
 exact ⟨rfl,rfl⟩
set_option maxRecDepth 100000 in
set_option maxHeartbeats 400000 in
theorem EE (w:World):Calls prog 30 #[.int .i64 3] w fun e w'=>e=.returned (.func (.func 62) #[] #[])∧w=w':=by
 go_enter func30,ntmps30
 go_wp2
 go_ret
 exact ⟨rfl,rfl⟩
set_option maxRecDepth 100000 in
set_option maxHeartbeats 400000 in
theorem DC (w:World):Calls prog 30 #[.int .i64 4] w fun e w'=>e=.returned (.func (.func 63) #[] #[])∧w=w':=by
 go_enter func30,ntmps30
 go_wp2
 go_ret
 exact ⟨rfl,rfl⟩
set_option maxRecDepth 100000 in
set_option maxHeartbeats 400000 in
theorem DU (w:World):Calls prog 30 #[.int .i64 5] w fun e w'=>e=.returned (.func (.func 64) #[] #[])∧w=w':=by
 go_enter func30,ntmps30
 go_wp2
 go_ret
 exact ⟨rfl,rfl⟩
set_option maxRecDepth 100000 in
set_option maxHeartbeats 400000 in
theorem DD (w:World):Calls prog 30 #[.int .i64 6] w fun e w'=>e=.returned (.func (.func 65) #[] #[])∧w=w':=by
 go_enter func30,ntmps30
 go_wp2
 go_ret
 exact ⟨rfl,rfl⟩
set_option maxRecDepth 100000 in
set_option maxHeartbeats 400000 in
theorem AJ (w:World):Calls prog 30 #[.int .i64 7] w fun e w'=>e=.returned (.func (.func 66) #[] #[])∧w=w':=by
 go_enter func30,ntmps30
 go_wp2
 go_ret
 exact ⟨rfl,rfl⟩
set_option maxRecDepth 100000 in
set_option maxHeartbeats 400000 in
theorem EL (w:World):Calls prog 30 #[.int .i64 8] w fun e w'=>e=.returned (.func (.func 67) #[] #[])∧w=w':=by
 go_enter func30,ntmps30
 go_wp2
 go_ret
 exact ⟨rfl,rfl⟩
set_option maxRecDepth 100000 in
set_option maxHeartbeats 400000 in
theorem tM (k:Int) (hk:¬ (1≤k∧k≤8)) (w:World):Calls prog 30 #[.int .i64 k] w fun e w'=>e=.returned .nilFunc∧w=w':=by
 have q1:(k == 1)=false:=beq_eq_false_iff_ne.2 (by omega)
 have q2:(k == 2)=false:=beq_eq_false_iff_ne.2 (by omega)
 have q3:(k == 3)=false:=beq_eq_false_iff_ne.2 (by omega)
 have q4:(k == 4)=false:=beq_eq_false_iff_ne.2 (by omega)
 have q5:(k == 5)=false:=beq_eq_false_iff_ne.2 (by omega)
 have q6:(k == 6)=false:=beq_eq_false_iff_ne.2 (by omega)
 have q7:(k == 7)=false:=beq_eq_false_iff_ne.2 (by omega)
 have q8:(k == 8)=false:=beq_eq_false_iff_ne.2 (by omega)
 go_enter func30,ntmps30
 go_wp2
 go_ret
 exact ⟨rfl,rfl⟩
theorem QX (w:World):(binOp .eql 60 (.func (.func 60) #[] #[]) .nilFunc).run prog w=.ok (.bool false) w:=by kernel_rfl
theorem PW (w:World):(binOp .eql 60 (.func (.func 61) #[] #[]) .nilFunc).run prog w=.ok (.bool false) w:=by kernel_rfl
theorem QO (w:World):(binOp .eql 60 (.func (.func 62) #[] #[]) .nilFunc).run prog w=.ok (.bool false) w:=by kernel_rfl
theorem PZ (w:World):(binOp .eql 60 (.func (.func 63) #[] #[]) .nilFunc).run prog w=.ok (.bool false) w:=by kernel_rfl
theorem QI (w:World):(binOp .eql 60 (.func (.func 64) #[] #[]) .nilFunc).run prog w=.ok (.bool false) w:=by kernel_rfl
theorem PJ (w:World):(binOp .eql 60 (.func (.func 65) #[] #[]) .nilFunc).run prog w=.ok (.bool false) w:=by kernel_rfl
theorem PO (w:World):(binOp .eql 60 (.func (.func 66) #[] #[]) .nilFunc).run prog w=.ok (.bool false) w:=by kernel_rfl
theorem QR (w:World):(binOp .eql 60 (.func (.func 67) #[] #[]) .nilFunc).run prog w=.ok (.bool false) w:=by kernel_rfl
theorem QD (w:World):(binOp .eql 60 .nilFunc .nilFunc).run prog w=.ok (.bool true) w:=by kernel_rfl
set_option maxRecDepth 100000 in
set_option maxHeartbeats 800000 in
theorem fG {s:Sta} (h:IsEd T w b s rb p L) (k:Int) {F:FuncId} (ent:∀ (args:Array Value) (w:World),(callFunc F args).run prog w=.ok (.enter F args) w)
 (cm:∀ w:World,Calls prog 30 #[.int .i64 k] w fun e w'=>e=.returned (.func (.func F) #[] #[])∧w=w')
 (cq:∀ w:World,(binOp .eql 60 (.func (.func F) #[] #[]) .nilFunc).run prog w=.ok (.bool false) w)
 (i n:Int) (x:ByteArray) {R:StaD×Int} (hc:∀ W,Below w.heap.size w W→Calls prog F #[.pointer (some ⟨b,0,none⟩),(.agg #[.int .i64 k,.int .i64 i,.int .i64 n,.string x])] W (RetEd T W b R)) :
 Calls prog 12 #[.pointer (some ⟨b,0,none⟩),(.agg #[.int .i64 k,.int .i64 i,.int .i64 n,.string x])] w (RetEd T w b R):=by
 obtain ⟨Rs,Re⟩:=R
 obtain ⟨wX,hwX,kE,aa,hz⟩:=box1 w #[.int .i64 k,.int .i64 i,.int .i64 n,.string x] 36
 have cn:=fun W (hW:Below wX.heap.size wX W)=>oI ((h.later aa).later hW).blk
 have cf:=GV true (some ⟨rb,0,none⟩) ⟨#[]⟩ s.m.a s.m.l.length s.m.c s.u.a s.u.l.length s.u.c s.r.a s.r.l.length s.r.c s.o s.g.a s.g.l.length s.g.c
 have CN:=hid cn;have CM:=hid cm;have CC:=hid hc;have ac:=hid aa;have KE:=hid kE
 obtain ⟨z0,z1,z2,z3,-,-,-,-⟩:=kE.four
 clear cn cm kE aa hz h hc
 go_enter func12,ntmps12
 go_wp2_with fail
 refine (CM.out _).mono ?_;rintro e w1 ⟨rfl,rfl⟩
 go_wp2_with fail
 refine (CN.out _ (Below.refl _ _)).mono ?_;rintro e w1 ⟨rfl,ab⟩
 have ad:=hid (ac.out.trans (ab.mono ac.out.size))
 clear z0 z1 z2 z3 hwX
 obtain ⟨z0,z1,z2,z3,-,-,-,-⟩:=(KE.out.onto ab).four
 clear ab
 go_wp2_with fail
 refine (CC.out _ ad.out).mono ?_;rintro e w2 ⟨s1,rb1,p1,L1,rfl,ae,af,ag⟩
 have HQ:=hid (And.intro ae (And.intro af ag))
 clear ae af ag z0 z1 z2 z3
 go_wp2
 go_ret
 exact ⟨s1,rb1,p1,L1,rfl,HQ.out.1,HQ.out.2.1,(Apart.of_below (S:=[b]) ad.out).trans HQ.out.2.2 (fun x hx=>.inl hx)⟩
set_option maxRecDepth 100000 in
set_option maxHeartbeats 800000 in
theorem ND {s:Sta} (h:IsEd T w b s rb p L) (k i n:Int) (x:ByteArray) (hk:¬ (1≤k∧k≤8)) :
 Calls prog 12 #[.pointer (some ⟨b,0,none⟩),(.agg #[.int .i64 k,.int .i64 i,.int .i64 n,.string x])] w (RetEd T w b (s.d,2)):=by
 obtain ⟨wX,hwX,kE,aa,hz⟩:=box1 w #[.int .i64 k,.int .i64 i,.int .i64 n,.string x] 36
 have cn:=fun W (hW:Below wX.heap.size wX W)=>oI ((h.later aa).later hW).blk
 have cf:=GV true (some ⟨rb,0,none⟩) ⟨#[]⟩ s.m.a s.m.l.length s.m.c s.u.a s.u.l.length s.u.c s.r.a s.r.l.length s.r.c s.o s.g.a s.g.l.length s.g.c
 have cq:=QD
 have CN:=hid cn;have CM:=hid (tM k hk);have ab:=hid aa;have H:=hid h
 obtain ⟨z0,z1,z2,z3,-,-,-,-⟩:=kE.four
 clear cn kE aa hz h hk
 go_enter func12,ntmps12
 go_wp2_with fail
 refine (CM.out _).mono ?_;rintro e w1 ⟨rfl,rfl⟩
 go_wp2_with fail
 refine (CN.out _ (Below.refl _ _)).mono ?_;rintro e w1 ⟨rfl,ac⟩
 have ad:=hid (ab.out.trans (ac.mono ab.out.size))
 clear z0 z1 z2 z3 hwX ac
 go_wp2
 go_ret
 exact ⟨s,rb,p,L,rfl,H.out.later ad.out,rfl,.of_below ad.out⟩
set_option maxRecDepth 100000 in
theorem gZ {s:Sta} (h:IsEd T w b s rb p L) (k i n:Int) (x:ByteArray) (hi:i64P i) (hx:x.size≤1000000) :
 Calls prog 12 #[.pointer (some ⟨b,0,none⟩),(.agg #[.int .i64 k,.int .i64 i,.int .i64 n,.string x])] w (RetEd T w b (doD s.d k i n x)):=by
 by_cases hk:1≤k∧k≤8
 case neg =>
  have e:doD s.d k i n x=(s.d,2):=by
   unfold doD
   rw [if_neg (by omega),if_neg (by omega),if_neg (by omega),if_neg (by omega),if_neg (by omega),if_neg (by omega),if_neg (by omega),if_neg (by omega)]
  rw [e]
  exact ND h k i n x hk
 obtain ⟨t,m,u,ro,so,g⟩:=s
 have hxm:x.size≤maxLen:=by unfold maxLen;omega
 rcases (show k=1∨k=2∨k=3∨k=4∨k=5∨k=6∨k=7∨k=8 by omega) with rfl|rfl|rfl|rfl|rfl|rfl|rfl|rfl
 ·show Calls _ _ _ w (RetEd T w b (insD _ i x))
  refine fG h 1 (fun _ _=>by rfl) DP QX i n x fun W hW=>?_
  by_cases h1:insE t i x=0
  ·exact sW (h.later hW) 1 i n x hx hi h1
  ·have e:insD (Sta.d ⟨t,m,u,ro,so,g⟩) i x=(Sta.d ⟨t,m,u,ro,so,g⟩,insE t i x):=by unfold insD;exact if_pos h1
   rw [e]
   exact xC (h.later hW) 1 i n x hx hi h1
 ·show Calls _ _ _ w (RetEd T w b (delD _ i n))
  refine fG h 2 (fun _ _=>by rfl) DV PW i n x fun W hW=>?_
  by_cases h1:delE t i n=0
  ·exact tB (h.later hW) 2 i n x hi h1
  ·have e:delD (Sta.d ⟨t,m,u,ro,so,g⟩) i n=(Sta.d ⟨t,m,u,ro,so,g⟩,delE t i n):=by unfold delD;exact if_pos h1
   rw [e]
   exact wU (h.later hW) 2 i n x hi h1
 ·show Calls _ _ _ w (RetEd T w b (markD _ i x))
  refine fG h 3 (fun _ _=>by rfl) EE QO i n x fun W hW=>?_
  have h':=h.later hW
  unfold markD
  by_cases h1:markB x.data.toList=false
  ·rw [if_pos h1];exact uS h' 3 i n x hxm h1
  rw [if_neg h1]
  have h1:=aN h1
  by_cases h2:i<0∨(t.size:Int)<i
  ·rw [if_pos (show i<0∨((Sta.d ⟨t,m,u,ro,so,g⟩).t.size:Int)<i from h2)]
   rcases h2 with h2|h2
   ·exact sT h' 3 i n x hxm h1 h2
   ·exact pP h' 3 i n x hxm h1 h2
  rw [if_neg (show ¬ (i<0∨((Sta.d ⟨t,m,u,ro,so,g⟩).t.size:Int)<i) from h2)]
  have h3:0≤i∧i≤t.size:=by omega
  by_cases h4:edgeB t.data.toList i=false
  ·rw [if_pos (show edgeB (Sta.d ⟨t,m,u,ro,so,g⟩).t.data.toList i=false from h4)];exact sU h' 3 i n x hxm h1 h3 h4
  rw [if_neg (show ¬ edgeB (Sta.d ⟨t,m,u,ro,so,g⟩).t.data.toList i=false from h4)]
  have h4:=aN h4
  unfold withMk
  by_cases h5:(setM m.l ⟨x,i⟩).2=0
  ·have e:(setM (Sta.d ⟨t,m,u,ro,so,g⟩).m ⟨x,i⟩).2=0:=h5
   rw [if_pos e,e]
   exact yH h' 3 i n x hxm h1 h3 h4 h5
  ·rw [if_neg (show ¬ (setM (Sta.d ⟨t,m,u,ro,so,g⟩).m ⟨x,i⟩).2=0 from h5)]
   exact yZ h' 3 i n x hxm h1 h3 h4 h5
 ·show Calls _ _ _ w (RetEd T w b (unmarkD _ x))
  refine fG h 4 (fun _ _=>by rfl) DC PZ i n x fun W hW=>?_
  have h':=h.later hW
  unfold unmarkD withMk
  by_cases h5:(drpM m.l x).2=0
  ·have e:(drpM (Sta.d ⟨t,m,u,ro,so,g⟩).m x).2=0:=h5
   rw [if_pos e,e]
   exact tC h' 4 i n x h5
  ·rw [if_neg (show ¬ (drpM (Sta.d ⟨t,m,u,ro,so,g⟩).m x).2=0 from h5)]
   exact sY h' 4 i n x h5
 ·exact fG h 5 (fun _ _=>by rfl) DU QI i n x fun W hW=>NZ (h.later hW) 5 i n x
 ·exact fG h 6 (fun _ _=>by rfl) DD PJ i n x fun W hW=>NL (h.later hW) 6 i n x
 ·show Calls _ _ _ w (RetEd T w b (beginD _))
  refine fG h 7 (fun _ _=>by rfl) AJ PO i n x fun W hW=>?_
  cases so with
  | true=>exact yT (h.later hW) 7 i n x
  | false=>exact tZ (h.later hW) 7 i n x
 ·show Calls _ _ _ w (RetEd T w b (endD _))
  refine fG h 8 (fun _ _=>by rfl) EL QR i n x fun W hW=>?_
  cases so with
  | false=>exact IM (h.later hW) 8 i n x
  | true =>
   by_cases hg:g.l.length=0
   ·have e:endD (Sta.d ⟨t,m,u,ro,true,g⟩)=(⟨t,m.l,lsP u.l,lsP ro.l,false,[]⟩,0):=by unfold endD;rw [if_neg (fun h=>by cases h),show (Sta.d ⟨t,m,u,ro,true,g⟩).g.length=0 from hg];rfl
    rw [e]
    exact xE (h.later hW) 8 i n x hg
   ·have e:endD (Sta.d ⟨t,m,u,ro,true,g⟩)=(⟨t,m.l,pushL (lsP u.l) g.l,lsP ro.l,false,[]⟩,0):=by unfold endD;rw [if_neg (fun h=>by cases h),if_neg (show ¬ (Sta.d ⟨t,m,u,ro,true,g⟩).g.length=0 from hg)];rfl
    rw [e]
    exact yY (h.later hW) 8 i n x hg
end Go.Proofs.YtfiobemeogaaiaaGreat
namespace Go.Proofs.YtfiobemeogaaiaaGreat
open Go.Proofs.Tryz
open Lib (hid)
open Go.RowKit
set_option linter.unusedVariables false
set_option linter.unusedSimpArgs false
theorem OwnK.off {base:Nat} {x:KPc} (h:OwnK w base x) (hS:∀ i∈S,i<base):KPo S w x∧x.l.length≤x.c∧x.c≤maxLen:=by
 obtain ⟨a,c,ev,hr⟩:=tQ h
 obtain ⟨xa,xl,xc⟩:=x
 injection ev with e1 e2 e3
 simp only at e1 e3
 subst e1
 subst e3
 exact ⟨⟨hr.row.more fun b hb=>⟨hb.2,fun g=>by have:=hS b g;have:=hb.1;omega⟩,hr.nil⟩,hr.le,hr.cap⟩
theorem OwnE.off {base:Nat} {x:EPc} (h:OwnE w base x) (hS:∀ i∈S,i<base):EPo S w x:=by
 obtain ⟨a,c,ev,hr⟩:=dD h
 obtain ⟨xa,xl,xc⟩:=x
 injection ev with e1 e2 e3
 simp only at e1 e3
 subst e1
 subst e3
 exact hr.off hS
theorem CopS.off {base:Nat} {x:SPc} (h:CopS w base x) (hs:SPcs w x) (hS:∀ i∈S,i<base):SPo S w x:=by
 rcases h with h|⟨g,h1,h2,h3,h4⟩
 ·exact ⟨fun k hk=>absurd hk (by rw [h];simp),fun y hy=>absurd hy (by rw [h];simp),hs.nil,hs.le,hs.cap⟩
 ·refine ⟨fun k hk=>?_,fun y hy=>(h4 y hy).off fun i hi=>by have:=hS i hi;omega,hs.nil,hs.le,hs.cap⟩
  obtain ⟨ad,e,hb,q⟩:=hs.row k hk
  refine ⟨ad,e,⟨hb,fun gi=>?_⟩,q⟩
  rw [h1] at e
  cases e
  have:=hS _ gi
  simp only at this
  omega
theorem CopI.off {s s':Sta} {b1 b2 b3:Nat} (h:CopI w s s' b1 b2 b3 w') (hS:∀ i∈S,i<w.heap.size):StaO S w' s'∧s'.m.l.length≤s'.m.c∧s'.m.c≤maxLen:=by
 have l1:=h.l1;have l2:=h.l2;have l3:=h.l3
 have hm:=OwnK.off h.m hS
 exact ⟨⟨hm.1,h.u.off h.us fun i hi=>by have:=hS i hi;omega,h.r.off h.rs fun i hi=>by have:=hS i hi;omega,OwnE.off h.g fun i hi=>by have:=hS i hi;omega⟩,hm.2⟩
structure StaF (s:Sta):Prop where
 m:s.m.l.length≤1000
 u:s.u.l.length≤1000
 r:s.r.l.length≤1000
 g:s.g.l.length≤1000
 z:∀ x∈s.u.l++s.r.l,x.l.length≤1000000
theorem InvS.few {s:Sta} (h:InvS s.d):StaF s:=by
 have h1:s.m.l.length≤16:=h.ml
 have h2:(lsP s.u.l).length≤16:=h.ul.1
 have h3:(lsP s.r.l).length≤16:=h.rl.1
 have h4:s.g.l.length≤32:=h.gl
 rw [aC] at h2 h3
 refine ⟨by omega,by omega,by omega,by omega,fun x hx=>?_⟩
 rcases List.mem_append.1 hx with hx|hx
 ·exact Nat.le_trans (dV (fun y hy=>(h.ul.2 y hy).2) x hx) (by decide)
 ·exact Nat.le_trans (dV (fun y hy=>(h.rl.2 y hy).2) x hx) (by decide)
set_option maxRecDepth 100000 in
set_option maxHeartbeats 1600000 in
theorem LA {e:Option Addr} {made:Bool} {r:Option Addr} {s:Sta} (hn:Nw w e (edN made r ⟨#[]⟩ s.m.a s.m.l.length s.m.c s.u.a s.u.l.length s.u.c s.r.a s.r.l.length s.r.c s.o s.g.a s.g.l.length s.g.c)) (hr:RopeW w r p L s.t) (hin:StaIn w s) (hf:StaF s) (S:List Nat) (hS:InS S w) :
 Calls prog 17 #[.pointer e] w fun x w'=>∃ s':Sta,x=.returned s'.v∧s'.d=s.d∧StaO S w' s'∧Below w.heap.size w w':=by
 obtain ⟨wX,hwX,kC,d0,hz⟩:=box1 w #[.string ⟨#[]⟩,.slice none 0 0,.slice none 0 0,.slice none 0 0,.bool false,.slice none 0 0] 31
 have ag:=hid (kC)
 have aa:=hid (d0)
 have d7:=hid (Nat.le_refl wX.heap.size)
 have hsx:∀ W:World,wX.heap.size≤W.heap.size→∀ i∈(w.heap.size::S),i<W.heap.size:=fun W h i hi=>by
  rcases List.mem_cons.1 hi with rfl|hi
  ·omega
  ·have:=hS i hi;omega
 have cn:=fun W (hW:Below w.heap.size w W)=>hn.out W hW
 have cf:=IH made r ⟨#[]⟩ s.m.a s.m.l.length s.m.c s.u.a s.u.l.length s.u.c s.r.a s.r.l.length s.r.c s.o s.g.a s.g.l.length s.g.c
 have cc:=fun W (hW:Below w.heap.size w W)=>tW ⟨⟨#[]⟩,s.m,s.u,s.r,s.o,s.g⟩ W ⟨(hin.later hW).m,(hin.later hW).u,(hin.later hW).r,(hin.later hW).g⟩ hf.m hf.u hf.r hf.g hf.z
 have cr:=fun W (hW:Below w.heap.size w W)=>zV (hn.later hW)
 have ct:=fun W (hW:Below w.heap.size w W)=>mB (hr.later hW)
 have CN:=hid cn;have CC:=hid cc;have CR:=hid cr;have CT:=hid ct;have ef:=hid hsx
 have hzl:w.heap.size<wX.heap.size:=by omega
 clear cn cc cr ct hsx d0 kC hz hn hr hin hf hS
 obtain ⟨aw,ax,ay,az,a0,a1,a2,a3,a4,a5,a6,a7⟩:=ag.out.all6
 go_enter func17,ntmps17
 go_wp2_with fail
 refine (CN.out _ aa.out).mono ?_;rintro e w1 ⟨rfl,hb⟩
 clear aw ax ay az a0 a1 a2 a3 a4 a5 a6 a7
 have ah:=hid (ag.out.onto hb)
 have ab:=hid (aa.out.trans (hb.mono aa.out.size))
 have ai:=hid (Nat.le_trans d7.out hb.size)
 clear hb ag aa d7
 obtain ⟨a8,a9,ba,bb,bc,bd,be,bf,bg,bh,bi,bj⟩:=ah.out.all6
 clear hwX
 go_wp2_with fail
 refine (CC.out _ ab.out).mono ?_;rintro e w2 ⟨⟨t1,m1,u1,r1,o1,g1⟩,b1,b2,b3,rfl,hci⟩
 clear a8 a9 ba bb bc bd be bf bg bh bi bj
 have hb:=hci.bel
 have hof:=hci.off (S:=w.heap.size::S) (ef.out _ ai.out)
 have hd:=hci.d
 unfold Sta.d at hd
 injection hd with d1 d2 d3 d4 d5 d6
 simp only at d1 d2 d3 d4 d5 d6
 subst d1
 subst d5
 have HD:=hid (And.intro d2 (And.intro d3 (And.intro d4 d6)))
 clear hci d2 d3 d4 d6
 have aj:=hid (ah.out.onto hb)
 have ak:=hid (ab.out.trans (hb.mono ab.out.size))
 have al:=hid (Nat.le_trans ai.out hb.size)
 have ac:=hid hof.1
 clear hb hof ah ab ai
 obtain ⟨bk,bl,bm,bn,bo,bp,bq,br,bs,bu,bv,bw⟩:=aj.out.all6
 replace ac:=hid (ac.out.wide (S':=(w.heap.size::w2.heap.size::S)) (fun i hi=>by simp only [List.mem_cons] at hi;rcases hi with rfl|rfl|hi;exact .inl (by simp);exact .inr (Nat.le_refl _);exact .inl (by simp [hi])))
 have fp:wX.heap.size≤w2.heap.size:=al.out
 obtain ⟨eg,hwA2,kA,hbA,hzA⟩:=box1 w2 #[.string ⟨#[]⟩,.slice m1.a m1.l.length m1.c,.slice u1.a u1.l.length u1.c,.slice r1.a r1.l.length r1.c,.bool s.o,.slice g1.a g1.l.length g1.c] 31
 have am:=hid (aj.out.onto hbA)
 have d8:=hid (ac.out.later hbA)
 have ad:=hid (ak.out.trans (hbA.mono ak.out.size))
 have d9:=hid (Nat.le_trans al.out hbA.size)
 have an:=hid kA
 have ao:w2.heap.size<eg.heap.size:=by omega
 have fq:=hid ao
 clear kA hbA hzA ao aj ac ak al
 obtain ⟨bx,bz,b4,b5,b6,b7,b8,b9,ca,cb,cd,ce⟩:=am.out.all6
 obtain ⟨cg,ch,ci,cj,ck,cl,cm,co,cp,cq,cu,cv⟩:=an.out.all6
 go_wp2_with fail
 refine (CR.out _ ad.out).mono ?_;rintro e w4 ⟨rfl,hb⟩
 clear bk bl bm bn bo bp bq br bs bu bv bw hwA2 bx bz b4 b5 b6 b7 b8 b9 ca cb cd ce cg ch ci cj ck cl cm co cp cq cu cv
 have aq:=hid (am.out.onto hb)
 have ar:=hid (an.out.onto hb)
 have ea:=hid (d8.out.later hb)
 have ae:=hid (ad.out.trans (hb.mono ad.out.size))
 have eb:=hid (Nat.le_trans d9.out hb.size)
 clear hb am an d8 ad d9
 obtain ⟨cw,cx,cy,cz,c3,c4,c5,c6,c7,c8,c9,da⟩:=aq.out.all6
 obtain ⟨db,dc,dd,de,df,dg,dh,di,dj,dk,dl,dm⟩:=ar.out.all6
 go_wp2_with fail
 refine (CT.out _ ae.out).mono ?_;rintro e w5 ⟨rfl,hb⟩
 clear cw cx cy cz c3 c4 c5 c6 c7 c8 c9 da db dc dd de df dg dh di dj dk dl dm
 have au:=hid (aq.out.onto hb)
 have av:=hid (ar.out.onto hb)
 have ec:=hid (ea.out.later hb)
 have ed:=hid (ae.out.trans (hb.mono ae.out.size))
 have ee:=hid (Nat.le_trans eb.out hb.size)
 clear hb aq ar ea ae eb
 obtain ⟨el,em,en,eo,ep,eq,er,es,et,eu,ev,ew⟩:=au.out.all6
 obtain ⟨ex,ey,e0,e3,e4,e5,e6,e7,e8,e9,fa,fb⟩:=av.out.all6
 have kD:Blk (w5.setCell ⟨w2.heap.size,0,none⟩ (.string s.t)) (w2.heap.size) #[.string s.t,.slice m1.a m1.l.length m1.c,.slice u1.a u1.l.length u1.c,.slice r1.a r1.l.length r1.c,.bool s.o,.slice g1.a g1.l.length g1.c] 31:=(av.out.set 0 _)
 have kC:Blk (w5.setCell ⟨w2.heap.size,0,none⟩ (.string s.t)) (w.heap.size) #[.string ⟨#[]⟩,.slice none 0 0,.slice none 0 0,.slice none 0 0,.bool false,.slice none 0 0] 31:=(au.out.other ⟨w2.heap.size,0,none⟩ (by show w2.heap.size≠w.heap.size;omega) _)
 have ap:Apart (w.heap.size::w2.heap.size::S) w5 (w5.setCell ⟨w2.heap.size,0,none⟩ (.string s.t)):=(Apart.refl (w.heap.size::w2.heap.size::S) w5).setCell (p:=⟨w2.heap.size,0,none⟩) (.inl (by simp)) _
 have rF:=ec.out.apart ap
 have hB:=((ed.out.setCell (p:=⟨w2.heap.size,0,none⟩) (by show w.heap.size≤w2.heap.size;omega) _):Below w.heap.size w (w5.setCell ⟨w2.heap.size,0,none⟩ (.string s.t)))
 have hz:(w5.setCell ⟨w2.heap.size,0,none⟩ (.string s.t)).heap.size=w5.heap.size:=by simp
 obtain ⟨v6,eh⟩:∃ V,(w5.setCell ⟨w2.heap.size,0,none⟩ (.string s.t))=V:=⟨_,rfl⟩
 rw [eh] at kC kD rF hB hz
 have ei:=hid kC
 have ej:=hid kD
 have af:=hid rF
 have ek:=hid hB
 have fr:=hid (Nat.le_trans ee.out (Nat.le_of_eq hz.symm))
 clear kC kD rF hB hz ap au av ec ed ee
 obtain ⟨dn,dp,dq,dr,ds,dt,fc,fd,fe,ff,fg,fh⟩:=ei.out.all6
 obtain ⟨du,dv,dw,dx,dy,dz,fi,fj,fk,fm,fn,fo⟩:=ej.out.all6
 go_wp2
 refine bodyPost_ret (v:=Sta.v ⟨s.t,m1,u1,r1,s.o,g1⟩) (by simp [results,results17,go_sem,dn,dp,dq,dr,ds,dt,du,dv,dw,dx,dy,dz]) rfl ?_
 have hD:=HD.out
 refine ⟨⟨s.t,m1,u1,r1,s.o,g1⟩,rfl,?_,?_,?_⟩
 ·unfold Sta.d
  simp only [hD.1,hD.2.1,hD.2.2.1,hD.2.2.2]
 ·refine StaO.wide (S:=(w.heap.size::w2.heap.size::S)) (s:=⟨s.t,m1,u1,r1,s.o,g1⟩) (StaO.apart (w:=v6) ⟨af.out.m,af.out.u,af.out.r,af.out.g⟩ ?_) (fun i hi=>.inl (by simp [hi]))
  iterate 6 refine Apart.setCell ?_ (.inl (by simp)) _
  exact Apart.refl _ _
 ·iterate 6 refine Below.setCell ?_ (by show w.heap.size≤w.heap.size;omega) _
  exact ek.out
set_option maxRecDepth 100000 in
set_option maxHeartbeats 1600000 in
theorem DG (s:Sta) (w:World) (hin:StaIn w s) (hz2:StaZ s) (hri:rightP s=false) :
 Calls prog 22 #[s.v] w fun e w'=>e=.returned (.tuple #[.pointer none,.int .i64 5])∧Below w.heap.size w w':=by
 obtain ⟨wX,hwX,kA,ao,hz⟩:=box1 w #[.string s.t,.slice s.m.a s.m.l.length s.m.c,.slice s.u.a s.u.l.length s.u.c,.slice s.r.a s.r.l.length s.r.c,.bool s.o,.slice s.g.a s.g.l.length s.g.c] 31
 have ab:=hid (kA)
 have aa:=hid (ao)
 have aq:=hid (Below.refl wX.heap.size wX)
 have ar:=hid (Nat.le_refl wX.heap.size)
 have cr:=fun W (hW:Below w.heap.size w W)=>mT s W (hin.later hW) hz2
 simp only [hri] at cr
 have CR:=hid cr
 have hzl:w.heap.size<wX.heap.size:=by omega
 clear cr kA ao hz hin hz2 hri
 obtain ⟨ac,ad,ae,af,ag,ah,ai,aj,ak,al,am,an⟩:=ab.out.all6
 go_enter func22,ntmps22
 go_wp2_with fail
 refine (CR.out _ aa.out).mono ?_;rintro e w1 ⟨rfl,hb⟩
 clear ac ad ae af ag ah ai aj ak al am an
 have au:=hid (ab.out.onto hb)
 have av:=hid (aa.out.trans (hb.mono aa.out.size))
 have a8:=hid (Nat.le_trans ar.out hb.size)
 have a9:=hid (aq.out.trans (hb.mono aq.out.size))
 clear hb ab aa ar
 obtain ⟨aw,ax,ay,az,a0,a1,a2,a3,a4,a5,a6,a7⟩:=au.out.all6
 go_wp2
 go_ret2
 exact ⟨rfl,av.out⟩
set_option maxRecDepth 100000 in
set_option maxHeartbeats 1600000 in
theorem mS {T:List Nat} (s:Sta) (w:World) (hT:InS T w) (hin:StaIn w s) (hz2:StaZ s) (hri:rightP s=true) :
 Calls prog 22 #[s.v] w fun e w'=>∃ (b:Nat) (s':Sta) (rb:Nat) (p:Option Addr) (L:List ByteArray),e=.returned (.tuple #[.pointer (some ⟨b,0,none⟩),.int .i64 0])∧IsEd T w' b s' rb p L∧s'.d=s.d∧w.heap.size≤b∧Below w.heap.size w w':=by
 have hinv:=(zB s).1 hri
 have hf:=hinv.few
 have hof:ofE s.t=0:=pZ hinv.v hinv.z
 have HI:=hid hinv;have HT:=hid hT
 clear hinv hT
 obtain ⟨wX,hwX,kA,bv,hz⟩:=box1 w #[.string s.t,.slice s.m.a s.m.l.length s.m.c,.slice s.u.a s.u.l.length s.u.c,.slice s.r.a s.r.l.length s.r.c,.bool s.o,.slice s.g.a s.g.l.length s.g.c] 31
 have ai:=hid (kA)
 have ae:=hid (bv)
 have bw:=hid (Below.refl wX.heap.size wX)
 have bx:=hid (Nat.le_refl wX.heap.size)
 have cr:=fun W (hW:Below w.heap.size w W)=>mT s W (hin.later hW) hz2
 simp only [hri] at cr
 have co:=fun W=>(BX s.t (by have:=hz2.t;unfold maxLen;omega) W).mono fun e w' h=>h.yes hof
 have cc:=fun W (hW:Below w.heap.size w W)=>tW s W (hin.later hW) hf.m hf.u hf.r hf.g hf.z
 have CO:=hid co;have CC:=hid cc
 clear co cc hof hf
 have CR:=hid cr
 have hzl:w.heap.size<wX.heap.size:=by omega
 clear cr kA bv hz hin hz2 hri
 obtain ⟨au,av,aw,ax,ay,az,a0,a1,a2,a3,a4,a5⟩:=ai.out.all6
 go_enter func22,ntmps22
 go_wp2_with fail
 refine (CR.out _ ae.out).mono ?_;rintro e w1 ⟨rfl,hb⟩
 clear au av aw ax ay az a0 a1 a2 a3 a4 a5
 have aj:=hid (ai.out.onto hb)
 have ak:=hid (ae.out.trans (hb.mono ae.out.size))
 have bz:=hid (Nat.le_trans bx.out hb.size)
 have b4:=hid (bw.out.trans (hb.mono bw.out.size))
 clear hb ai ae bx
 obtain ⟨a6,a7,a8,a9,ba,bb,bc,bd,be,bf,bg,bh⟩:=aj.out.all6
 clear hwX
 go_wp2_with fail
 refine (CO.out _).mono ?_;rintro e w2 ⟨rb,p,L,rfl,hR,hb⟩
 clear a6 a7 a8 a9 ba bb bc bd be bf bg bh
 have af:=hid (aj.out.onto hb)
 have ab:=hid (ak.out.trans (hb.mono ak.out.size))
 have b5:=hid (Nat.le_trans bz.out hb.size)
 have b6:=hid (b4.out.trans (hb.mono b4.out.size))
 have cf:=hid hR
 clear hb hR aj ak bz
 obtain ⟨bi,bj,bk,bl,bm,bn,bo,bp,bq,br,bs,bu⟩:=af.out.all6
 go_wp2_with fail
 refine (CC.out _ ab.out).mono ?_;rintro e w3 ⟨⟨t1,m1,u1,r1,o1,g1⟩,b1,b2,b3,rfl,hci⟩
 clear bi bj bk bl bm bn bo bp bq br bs bu
 have hb:=hci.bel
 have hof:=hci.off (S:=w.heap.size::T) (fun i hi=>by rcases List.mem_cons.1 hi with rfl|hi;exact af.out.lt;exact Nat.lt_of_lt_of_le (HT.out i hi) ab.out.size)
 have hd:=hci.d
 unfold Sta.d at hd
 injection hd with d1 d2 d3 d4 d5 d6
 simp only at d1 d2 d3 d4 d5 d6
 subst d1
 subst d5
 have HD:=hid (And.intro d2 (And.intro d3 (And.intro d4 d6)))
 have ad:=hid hb
 clear hci d2 d3 d4 d6
 have al:=hid (af.out.onto hb)
 have am:=hid (ab.out.trans (hb.mono ab.out.size))
 have an:=hid (Nat.le_trans b5.out hb.size)
 have b7:=hid (b6.out.trans (hb.mono b6.out.size))
 have ag:=hid hof.1
 have b8:=hid hof.2
 clear hb hof af ab b5
 obtain ⟨ck,cl,cm,cn,cp,cq,ct,cu,cv,cw,cx,cy⟩:=al.out.all6
 replace ag:=hid (ag.out.wide (S':=w.heap.size::w3.heap.size::T) (wide2 (Nat.le_refl _)))
 have el:wX.heap.size≤w3.heap.size:=an.out
 obtain ⟨aa,hwA3,kA,hbA,hzA⟩:=box1 w3 #[.string s.t,.slice m1.a m1.l.length m1.c,.slice u1.a u1.l.length u1.c,.slice r1.a r1.l.length r1.c,.bool s.o,.slice g1.a g1.l.length g1.c] 31
 have ao:=hid (al.out.onto hbA)
 have b9:=hid (ag.out.later hbA)
 have ca:=hid (am.out.trans (hbA.mono am.out.size))
 have cb:=hid (Nat.le_trans an.out hbA.size)
 have em:=hid (b7.out.trans (hbA.mono b7.out.size))
 have aq:=hid kA
 have ar:w3.heap.size<aa.heap.size:=by omega
 have en:=hid ar
 clear kA hbA hzA ar al ag am an
 obtain ⟨cz,c3,c4,c5,c6,c7,c8,c9,da,db,dc,dd⟩:=ao.out.all6
 obtain ⟨de,df,dg,dh,di,dj,dk,dl,dm,dn,dp,dq⟩:=aq.out.all6
 have ce:=hid (show Below w2.heap.size w2 aa by rw [← hwA3];exact ad.out.alloc ad.out.size _)
 have kD:Blk (aa.setCell ⟨w3.heap.size,0,none⟩ (.string ⟨#[]⟩)) (w3.heap.size) #[.string ⟨#[]⟩,.slice m1.a m1.l.length m1.c,.slice u1.a u1.l.length u1.c,.slice r1.a r1.l.length r1.c,.bool s.o,.slice g1.a g1.l.length g1.c] 31:=(aq.out.set 0 _)
 have kA:Blk (aa.setCell ⟨w3.heap.size,0,none⟩ (.string ⟨#[]⟩)) (w.heap.size) #[.string s.t,.slice s.m.a s.m.l.length s.m.c,.slice s.u.a s.u.l.length s.u.c,.slice s.r.a s.r.l.length s.r.c,.bool s.o,.slice s.g.a s.g.l.length s.g.c] 31:=(ao.out.other ⟨w3.heap.size,0,none⟩ (by show w3.heap.size≠w.heap.size;omega) _)
 have ap:Apart (w.heap.size::w3.heap.size::T) aa (aa.setCell ⟨w3.heap.size,0,none⟩ (.string ⟨#[]⟩)):=(Apart.refl (w.heap.size::w3.heap.size::T) aa).setCell (p:=⟨w3.heap.size,0,none⟩) (.inl (by simp)) _
 have rF:=b9.out.apart ap
 have hB:=((ca.out.setCell (p:=⟨w3.heap.size,0,none⟩) (by show w.heap.size≤w3.heap.size;omega) _):Below w.heap.size w (aa.setCell ⟨w3.heap.size,0,none⟩ (.string ⟨#[]⟩)))
 have hz:(aa.setCell ⟨w3.heap.size,0,none⟩ (.string ⟨#[]⟩)).heap.size=aa.heap.size:=by simp
 obtain ⟨v5,cd⟩:∃ V,(aa.setCell ⟨w3.heap.size,0,none⟩ (.string ⟨#[]⟩))=V:=⟨_,rfl⟩
 rw [cd] at kA kD rF hB hz
 have cg:=hid kA
 have ch:=hid kD
 have ci:=hid rF
 have ac:=hid hB
 have eo:=hid (Nat.le_trans cb.out (Nat.le_of_eq hz.symm))
 clear kA kD rF hB hz ap ao aq b9 ca cb
 obtain ⟨dr,ds,dt,du,dv,dw,dx,dy,dz,d0,d7,d8⟩:=cg.out.all6
 obtain ⟨d9,ea,eb,ec,ed,ee,ef,eg,eh,ei,ej,ek⟩:=ch.out.all6
 have cj:=hid (cf.out.later (show Below w2.heap.size w2 v5 by rw [← cd];exact ce.out.setCell (p:=⟨w3.heap.size,0,none⟩) ad.out.size _))
 obtain ⟨wE,hwE,kE,hbE,hzE⟩:=box1 v5 #[.bool true,.pointer (some ⟨rb,0,none⟩),.string ⟨#[]⟩,.slice m1.a m1.l.length m1.c,.slice u1.a u1.l.length u1.c,.slice r1.a r1.l.length r1.c,.bool s.o,.slice g1.a g1.l.length g1.c] 54
 have KE:=hid kE;have ah:=hid hbE
 clear kE hbE hzE
 go_wp2
 go_ret2
 have hD:=HD.out
 refine ⟨v5.heap.size,⟨s.t,m1,u1,r1,s.o,g1⟩,rb,p,L,rfl,⟨KE.out,cj.out.later ah.out,(ci.out.wide (S':=v5.heap.size::T) (fun i hi=>by rcases List.mem_cons.1 hi with rfl|hi;exact .inr (Nat.le_refl _);exact .inl (by simp [hi]))).later ah.out |> fun h=>⟨h.m,h.u,h.r,h.g⟩,b8.out.1,b8.out.2,?_,fun i hi=>Nat.lt_of_lt_of_le (HT.out i hi) (ac.out.trans (ah.out.mono ac.out.size)).size⟩,?_,ac.out.size,ac.out.trans (ah.out.mono ac.out.size)⟩
 ·rw [show Sta.d ⟨s.t,m1,u1,r1,s.o,g1⟩=s.d by unfold Sta.d;simp only [hD.1,hD.2.1,hD.2.2.1,hD.2.2.2]]
  exact HI.out
 ·unfold Sta.d
  simp only [hD.1,hD.2.1,hD.2.2.1,hD.2.2.2]
def staZ:Sta:=⟨⟨#[]⟩,⟨none,[],0⟩,⟨none,[],0⟩,⟨none,[],0⟩,false,⟨none,[],0⟩⟩
theorem QQ:staZ.d=stD0:=rfl
theorem OE (w:World):StaIn w staZ:=⟨KPcs.empty w,SPcs.empty w,SPcs.empty w,EPcs.empty w⟩
theorem PY:StaZ staZ:=⟨by decide,by decide,fun x hx=>absurd hx (by simp [staZ]),by decide,by decide,fun x hx=>by
 have:x=⟨none,[],0⟩:=by simpa [Sta.rows,staZ] using hx
 subst this
 exact ⟨by decide,fun y hy=>absurd hy (by simp)⟩⟩
theorem AK:rightP staZ=true:=(zB staZ).2 OC
set_option maxRecDepth 100000 in
set_option maxHeartbeats 800000 in
theorem QT (w:World):Calls prog 10 #[] w fun e w'=>∃ (b:Nat) (s':Sta) (rb:Nat) (p:Option Addr) (L:List ByteArray),e=.returned (.pointer (some ⟨b,0,none⟩))∧IsEd [] w' b s' rb p L∧s'.d=stD0∧w.heap.size≤b∧Below w.heap.size w w':=by
 have cl:=mS (T:=[]) staZ w (fun i hi=>absurd hi (by simp)) (OE w) PY AK
 rw [QQ] at cl
 have CL:=hid (show Calls prog 22 #[.agg #[.string ⟨#[]⟩,.slice none 0 0,.slice none 0 0,.slice none 0 0,.bool false,.slice none 0 0]] w _ from cl)
 clear cl
 go_enter func10,ntmps10
 go_wp2_with fail
 refine CL.out.mono ?_;rintro e w1 ⟨b,s1,rb,p,L,rfl,hi,hd,hb,hbel⟩
 have H:=hid (And.intro hi (And.intro hd (And.intro hb hbel)))
 clear hi hd hb hbel
 go_wp2
 go_ret
 exact ⟨b,s1,rb,p,L,rfl,H.out.1,H.out.2.1,H.out.2.2.1,H.out.2.2.2⟩
def lvA:StaD×Int:=doD stD0 1 0 0 sAb
def lvB:StaD×Int:=doD lvA.1 2 0 1 ⟨#[]⟩
def lvC:StaD×Int:=doD lvB.1 5 0 0 ⟨#[]⟩
theorem RE:lvA.2=0:=by decide +kernel
theorem RF:lvB.2=0:=by decide +kernel
theorem RC:lvC.2=0:=by decide +kernel
theorem RJ:lvC.1.t=sAb:=by decide +kernel
theorem RH:lvC.1.u.length=1:=by decide +kernel
theorem RL:lvC.1.r.length=1:=by decide +kernel
theorem IsEd.nw {T:List Nat} {s:Sta} (h:IsEd T w b s rb p L):Nw w (some ⟨b,0,none⟩) (edN true (some ⟨rb,0,none⟩) ⟨#[]⟩ s.m.a s.m.l.length s.m.c s.u.a s.u.l.length s.u.c s.r.a s.r.l.length s.r.c s.o s.g.a s.g.l.length s.g.c):=Nw.some h.blk
theorem IsEd.state {T:List Nat} {s:Sta} (h:IsEd T w b s rb p L) (S:List Nat) (hS:InS S w) :
 Calls prog 17 #[.pointer (some ⟨b,0,none⟩)] w fun x w'=>∃ s':Sta,x=.returned s'.v∧s'.d=s.d∧StaO S w' s'∧Below w.heap.size w w':=LA h.nw h.rope h.rows.in h.inv.few S hS
theorem lR {w1 W:World} (hb:Below w.heap.size w w1) (hlt:w.heap.size≤b) (ha:Apart [b] w1 W):Below w.heap.size w W:=
 hb.trans (ha.to_below (fun x hx=>by rw [List.mem_singleton.1 hx];exact hlt) hb.size)
set_option maxRecDepth 100000 in
set_option maxHeartbeats 1600000 in
theorem dN (w:World):Calls prog 9 #[] w fun e w'=>e=.returned (.bool true)∧Below w.heap.size w w':=by
 have CN:=hid (QT w)
 go_enter func9,ntmps9
 go_wp2_with fail
 refine CN.out.mono ?_;rintro e w1 ⟨b,s1,r1,p1,L1,rfl,hi,hd,hb,hbel⟩
 have c1:=gZ hi 1 0 0 sAb (by unfold i64P;omega) (by decide)
 rw [hd,show doD stD0 1 0 0 sAb=lvA from rfl] at c1
 unfold RetEd at c1
 rw [RE] at c1
 have C1:=hid (show Calls prog 12 #[.pointer (some ⟨b,0,none⟩),.agg #[.int .i64 1,.int .i64 0,.int .i64 0,.string ⟨#[97,98]⟩]] w1 _ from c1)
 have HB:=hid (And.intro hb hbel)
 clear c1 hi hd hb hbel
 go_wp2_with fail
 refine C1.out.mono ?_;rintro e w2 ⟨s2,r2,p2,L2,rfl,hi,hd,ha⟩
 have c1:=gZ hi 2 0 1 ⟨#[]⟩ (by unfold i64P;omega) (by decide)
 rw [hd,show doD lvA.1 2 0 1 ⟨#[]⟩=lvB from rfl] at c1
 unfold RetEd at c1
 rw [RF] at c1
 have C2:=hid (show Calls prog 12 #[.pointer (some ⟨b,0,none⟩),.agg #[.int .i64 2,.int .i64 0,.int .i64 1,.string ⟨#[]⟩]] w2 _ from c1)
 have af:=hid (lR HB.out.2 HB.out.1 ha)
 clear c1 hi hd ha C1
 go_wp2_with fail
 refine C2.out.mono ?_;rintro e w3 ⟨s3,r3,p3,L3,rfl,hi,hd,ha⟩
 have c1:=gZ hi 5 0 0 ⟨#[]⟩ (by unfold i64P;omega) (by decide)
 rw [hd,show doD lvB.1 5 0 0 ⟨#[]⟩=lvC from rfl] at c1
 unfold RetEd at c1
 rw [RC] at c1
 have C3:=hid (show Calls prog 12 #[.pointer (some ⟨b,0,none⟩),.agg #[.int .i64 5,.int .i64 0,.int .i64 0,.string ⟨#[]⟩]] w3 _ from c1)
 have ag:=hid (lR af.out HB.out.1 ha)
 clear c1 hi hd ha C2
 go_wp2_with fail
 refine C3.out.mono ?_;rintro e w4 ⟨s4,r4,p4,L4,rfl,hi,hd,ha⟩
 have CS:=hid (hi.state [] (fun i hi=>absurd hi (by simp)))
 have ab:=hid (lR ag.out HB.out.1 ha)
 have HD:=hid hd
 clear hi hd ha C3
 go_wp2_with fail
 refine CS.out.mono ?_;rintro e w5 ⟨s5,rfl,ac,ah,ad⟩
 have ae:=hid (ab.out.trans (ad.mono ab.out.size))
 have aa:s5.d=lvC.1:=ac.trans HD.out
 have e1:s5.t=⟨#[97,98]⟩:=(congrArg StaD.t aa).trans RJ
 have e2:s5.u.l.length=1:=by rw [← aC];exact (congrArg (fun x=>x.u.length) aa).trans RH
 have e3:s5.r.l.length=1:=by rw [← aC];exact (congrArg (fun x=>x.r.length) aa).trans RL
 obtain ⟨t5,m5,⟨ua,ul,uc⟩,⟨ra,rl,rc⟩,o5,g5⟩:=s5
 replace e1:t5=⟨#[97,98]⟩:=e1
 subst e1
 dsimp only at e2 e3
 clear ac ah ad aa CS HD
 go_wp2
 go_ret
 exact ⟨by first|rfl|simp,ae.out.alloc ae.out.size _⟩
def fewO (l:List Opr):Bool:=decide (l.length≤60) && l.all fun x=>decide (x.s.size≤600)
theorem nS {l:List Opr}:fewO l=true↔l.length≤60∧∀ x∈l,x.s.size≤600:=by unfold fewO;simp
set_option maxRecDepth 100000 in
set_option maxHeartbeats 1600000 in
theorem fE (a:Option Addr) (l:List Opr) (c:Nat) (w:World) (hr:Oprs w (·<w.heap.size) a l) (hl:l.length≤maxLen) :
 Calls prog 8 #[.slice a l.length c] w fun e w'=>e=.returned (.bool (fewO l))∧w=w':=by
 obtain ⟨n,hn⟩:∃ n,l.length=n:=⟨_,rfl⟩
 unfold maxLen at hl
 by_cases h1:60<n
 ·have e:fewO l=false:=by unfold fewO;rw [decide_eq_false (by omega)];rfl
  have t1:(60:Int)<(n:Int):=by omega
  rw [e,hn]
  clear e hr hl hn
  go_enter func8,ntmps8
  go_wp2
  go_ret
  exact ⟨rfl,rfl⟩
 ·have t1:¬ (60:Int)<(n:Int):=by omega
  obtain ⟨R,hR⟩:∃ R,fewO l=R:=⟨_,rfl⟩
  have HR:=hid hr;have HN:=hid hn;have HQ:=hid hR
  rw [hn,hR]
  clear hr hn hR hl
  go_enter func8,ntmps8
  go_wp2
  go_loopw [3] (fun i wr=>∃ k:Nat,k≤n∧i=.int .i64 k∧(∀ x∈l.take k,x.s.size≤600)∧w=wr) (fun i _=>n - (intOf i).toNat)
  case atStart=>exact ⟨0,Nat.zero_le _,rfl,fun x hx=>absurd hx (by simp),rfl⟩
  case round =>
   obtain ⟨k,hk,rfl,hall,rfl⟩:=hrel
   by_cases hlt:k<n
   ·have hkl:k<l.length:=by rw [HN.out];exact hlt
    obtain ⟨ad,rfl,hab,q0,q1,q2,q3⟩:=HR.out k hkl
    have b0:(0:Int)≤(k:Int):=by omega
    have b1:(k:Int)<(n:Int):=by omega
    obtain ⟨y,hy⟩:∃ y,l[k]=y:=⟨_,rfl⟩
    rw [hy] at q0 q1 q2 q3
    by_cases h6:600<y.s.size
    ·have t2:(600:Int)<(y.s.size:Int):=by omega
     have e:R=false:=by
      rw [← HQ.out]
      cases hf:fewO l
      ·rfl
      ·have:=(nS.1 hf).2 (l[k]) (List.getElem_mem hkl)
       rw [hy] at this
       omega
     subst e
     clear hall hab hy q0 q1 q2
     go_wp2
     go_ret
     exact ⟨rfl,rfl⟩
    ·have t2:¬ (600:Int)<(y.s.size:Int):=by omega
     have HA:=hid (show ∀ x∈l.take (k+1),x.s.size≤600 from fun x hx=>by
      rw [List.take_add_one,List.getElem?_eq_getElem hkl,hy] at hx
      rcases List.mem_append.1 hx with hx|hx
      ·exact hall x hx
      ·have:x=y:=by simpa using hx
       rw [this];omega)
     clear hall hab hy q0 q1 q2
     go_wp2
     go_roundw
     case rel=>exact ⟨k+1,by omega,by go_num,HA.out,by trivial⟩
     case measure=>simp [intOf];omega
   ·obtain rfl:k=n:=by omega
    rw [List.take_of_length_le (by rw [HN.out];exact Nat.le_refl _)] at hall
    have e:R=true:=by rw [← HQ.out];exact nS.2 ⟨by rw [HN.out];omega,hall⟩
    subst e
    clear hall
    go_wp2
    go_ret
    exact ⟨rfl,rfl⟩
theorem mZ (a b:Sta) (w:World) (ha:StaIn w a) (hb:StaIn w b) (fa:StaF a) (fb:StaF b):Calls prog 16 #[a.v,b.v] w (RetB (sameD a.d b.d) w):=
 AP a.t b.t _ _ _ _ _ _ _ _ _ _ _ _ a.o b.o _ _ _ _ w
  (fun W hW=>xO a.m.a b.m.a a.m.l b.m.l a.m.c b.m.c _ _ W (ha.later hW).m.row (hb.later hW).m.row (fun _ h=>h) (fun _ h=>h) (Nat.le_trans fa.m (by decide)) (Nat.le_trans fb.m (by decide)))
  (fun W hW=>lK a.u.a b.u.a a.u.l b.u.l a.u.c b.u.c W (ha.later hW).u (hb.later hW).u (fun x hx=>fa.z x (by simp [hx])) (fun x hx=>fb.z x (by simp [hx])))
  (fun W hW=>lK a.r.a b.r.a a.r.l b.r.l a.r.c b.r.c W (ha.later hW).r (hb.later hW).r (fun x hx=>fa.z x (by simp [hx])) (fun x hx=>fb.z x (by simp [hx])))
  (fun W hW=>mR a.g.a b.g.a a.g.l b.g.l a.g.c b.g.c W (ha.later hW).g.row (hb.later hW).g.row (Nat.le_trans fa.g (by decide)) (Nat.le_trans fb.g (by decide)))
abbrev Sta.cells (s:Sta):Array Value:=#[.string s.t,.slice s.m.a s.m.l.length s.m.c,.slice s.u.a s.u.l.length s.u.c,.slice s.r.a s.r.l.length s.r.c,.bool s.o,.slice s.g.a s.g.l.length s.g.c]
theorem InvS.of_d {s s':Sta} (h:InvS s.d) (e:s'.d=s.d):InvS s'.d:=by rw [e];exact h
theorem GC {W:World} {a:Option Addr} {l:List Opr} (hr:Oprs w (·<w.heap.size) a l) (hb:Below w.heap.size w W) {k:Nat} (hk:k<l.length):∃ ad,a=some ad∧W.cell? (ad.add (k * 4))=some (.int .i64 l[k].k)∧W.cell? ⟨(ad.add (k * 4)).block,(ad.add (k * 4)).off+1,none⟩=some (.int .i64 l[k].a)∧W.cell? ⟨(ad.add (k * 4)).block,(ad.add (k * 4)).off+2,none⟩=some (.int .i64 l[k].n)∧W.cell? ⟨(ad.add (k * 4)).block,(ad.add (k * 4)).off+3,none⟩=some (.string l[k].s):=by
 obtain ⟨ad,e,-,q0,q1,q2,q3⟩:=(hr.below (fun _ h=>h) hb) k hk
 exact ⟨ad,e,q0,q1,q2,q3⟩
theorem wH {x:Opr} (h:x.fits):i64P x.a:=h.2.1
theorem KnotW.offs {B:Nat→Prop} {cs:Array Value} (hb:Blk w b cs 31) {v:ByteArray} (h0:cs[0]? = some (.string v)):∀ {h k:Nat} {L:List ByteArray},KnotW w B h k L→KnotW w (fun i=>B i∧i≠b) h k L
 | 0,k,L,⟨hk,s,e,hf,hB⟩=>⟨⟨hk,fun g=>by
  subst g
  have:=hB.symm.trans hb
  cases this⟩,s,e,hf,hB⟩
 | h+1,k,L,⟨hk,K,g,c,h2,h3,h4,h5,e,h6,h7,h8⟩=>⟨⟨hk,fun g=>by
  subst g
  have:=h8.symm.trans hb
  cases this⟩,K,g,c,h2,h3,h4,fun x hx=>(h5 x hx).offs hb h0,e,⟨h6,fun q=>by
  subst q
  have h9:=h7.2 0 (by rw [aI];omega)
  have h10:=hb.cell 0 _ h0
  rw [Nat.zero_add] at h9
  have h11:=h10.symm.trans h9
  simp [ptrs] at h11⟩,h7,h8⟩
theorem RopeW.aparts {r:Option Addr} {s:ByteArray} (h:RopeW w r p L s) {cs:Array Value} (hb:Blk w b cs 31) {v:ByteArray} (h0:cs[0]? = some (.string v)) (ha:Apart [b] w w'):RopeW w' r p L s:=by
 have hn:∀ i,i<w.heap.size→i≠b→w'.heap[i]? = w.heap[i]? :=fun i hi hne=>ha.block i hi (by simpa using hne)
 refine ⟨⟨?_,h.x.tight,h.x.txt,h.x.small⟩,?_⟩
 ·rcases h.x.t with t|⟨k,hh,e,hk⟩
  ·exact .inl t
  ·exact .inr ⟨k,hh,e,(((hk.offs hb h0).keep ha.size fun i hi=>hn i hi.1.1 hi.2).weak fun i hi=>hi.1.on ha.size)⟩
 ·rcases h.at' with t|⟨k,e,hl,hc⟩
  ·exact .inl t
  ·refine .inr ⟨k,e,Nat.lt_of_lt_of_le hl ha.size,?_⟩
   have hne:k≠b:=fun g=>by
    subst g
    have:=(hb.cell 0 _ h0).symm.trans hc
    cases this
   exact (World.cell?_of_block (w:=w) (hn k hl hne)).trans hc
theorem IsEd.aside {T:List Nat} {s:Sta} (h:IsEd T w b s rb p L) (hx:x∈T) (hxb:b≠x) {cs:Array Value} (hk:Blk w x cs 31) {v:ByteArray} (h0:cs[0]? = some (.string v)) (ha:Apart [x] w w'):IsEd T w' b s rb p L:=
 ⟨h.blk.apart ha (by simpa using hxb),h.rope.aparts hk h0 ha,h.rows.apart (ha.more fun i hi=>by rw [List.mem_singleton.1 hi];exact List.mem_cons_of_mem _ hx),h.ml,h.mc,h.inv,fun i hi=>Nat.lt_of_lt_of_le (h.tlt i hi) ha.size⟩
theorem IsEd.with {T:List Nat} {s:Sta} (h:IsEd T w b s rb p L) (hb:Below w.heap.size w w') (hx:w.heap.size≤x) (hx2:x<w'.heap.size):IsEd (x::T) w' b s rb p L:=
 ⟨h.blk.onto hb,h.rope.later hb,(h.rows.wide fun i hi=>by simp only [List.mem_cons] at hi ⊢;rcases hi with h|rfl|h;exact .inl (.inl h);exact .inr hx;exact .inl (.inr h)).later hb,h.ml,h.mc,h.inv,fun i hi=>by
  rcases List.mem_cons.1 hi with rfl|hi
  ·exact hx2
  ·exact Nat.lt_of_lt_of_le (h.tlt i hi) hb.size⟩
theorem RB (h1:b<w.heap.size) (h2:x<w.heap.size):InS [b,x] w.drew:=fun i hi=>by
 simp only [List.mem_cons,List.not_mem_nil,or_false] at hi
 rcases hi with rfl|rfl <;> assumption
theorem OY {o:Obj} (h1:b<w.heap.size) (h2:x<w.heap.size):InS [b,x,w.heap.size] (w.drew.alloc o):=fun i hi=>by
 simp only [List.mem_cons,List.not_mem_nil,or_false] at hi
 rw [World.size_alloc]
 show i<w.heap.size+1
 rcases hi with rfl|rfl|rfl <;> omega
end Go.Proofs.YtfiobemeogaaiaaGreat
