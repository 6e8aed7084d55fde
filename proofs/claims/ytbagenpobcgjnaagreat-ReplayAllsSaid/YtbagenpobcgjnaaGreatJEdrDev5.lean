/-
  Joined: EdrDev5, EdrDev6, EdrDev7, RplDev, LawEdr, RplEnd, RplRun, LawEdr2, LawEdr3, RplRef.
-/
import Derived.Test.YtbagenpobcgjnaaGreatJSq
import Derived.Test.YtbagenpobcgjnaaGreatJEdrMath
import Derived.Test.YtbagenpobcgjnaaGreatJEdrRef3
open And renaming intro->zj
open Array renaming replicate_succ->Ay,replicate_zero->Az
open Go renaming Addr->Aa,Boxed->zk,Calls->zi,TypeId->Ae,Value->zq,World->zd,binOp->zv,bodyPost_ret->Ag,callFunc->Ai,callsIn_of_wp_marks->Au,callsIn_wide->Ak,maxLen->Ab,results->Aj,results_none->Ao,undef->zm,wpAnyH_done->zy,wp_region_held_drew->zx
open Go.Act renaming put->zo
open Go.Ending renaming returned->zp
open Go.IntKind renaming i64->yy
open Go.Lib renaming hid->yv
open Go.Value renaming agg->zs,bool->zf,int->yx,pointer->yz,slice->yw,string->ze,tuple->zw
open Go.World renaming putObj_heap_other->Am,putObj_size->Ar,setCell->zg,size_setCell->Aq
open List renaming append_toArray->A3,cons_append->A5,length_cons->Aw,length_nil->Ax,mem_append->Al,mem_cons->zn,mem_cons_of_mem->zt,mem_singleton->An,nil_append->A4,not_mem_nil->zz,push_toArray->A0,size_toArray->Av
open Nat renaming le_of_eq->Ad,le_refl->zr,le_trans->zh,lt_of_lt_of_le->zu
open True renaming intro->Ah
variable {t:ByteArray} {L:List ByteArray} {S:List Nat} {b be l rb:Nat} {p:Option Go.Addr} {A w:Go.World}
namespace Go.Proofs.YtbagenpobcgjnaaGreat
open Go.Proofs.Tryz
set_option maxRecDepth 100000
open Lib (hid)
variable {T : List Nat}
open Go.RowKit
set_option linter.unusedVariables false
set_option linter.unusedSimpArgs false
set_option maxHeartbeats 400000 in
theorem SP (a:Option Aa) (n c:Nat) (w:zd):zi prog 154 #[oz a n c] w fun e w'=>e=zp (oz a n c)∧Below w w w':=by
 obtain ⟨W,hW,k0,k1,hb,hz⟩:=vk w #[yw a n c] #[yw a n c] 54 54;clear hW k0 k1 hb hz W;go_enter func154,ntmps154;go_wp2;refine Ag (results_cell_row (P:=prog) (fn:=Tryz.f154) (p:=2) (ty:=54) rfl _ _ (w+1) 54 _ (0,0) _ rfl (by have h:=l6.new (w.alloc (.cells #[yw a n c] 54)) #[yw a n c] 54;rw [World.size_alloc] at h;exact h) underlying54 rfl lg) rfl ?_;exact ⟨rfl,qj _ _ _⟩
set_option maxHeartbeats 800000 in
theorem nE {m:qv} {u ro:pa} {g:mo} (h:nz T w b ⟨t,m,u,ro,true,g⟩ rb p L):zi prog 153 #[yz (some ⟨b,0,none⟩),yz (some ⟨b,4,none⟩),yz (some ⟨b,5,none⟩),.func (.func 87) #[] #[]] w (nk T w b ((lz.d ⟨t,m,u,ro,true,g⟩),11)):=by
 have hbl:b<w:=h.lt;have ac:=yv (show l6 w b #[zf true,yz (some ⟨rb,0,none⟩),ze ⟨#[]⟩,yw m.a m.l.length m.c,yw u.a u.l.length u.c,yw ro.a ro.l.length ro.c,zf true,yw g.a g.l.length g.c] 100 from h.blk);have ad:=yv (h.rows);have aa:=yv ((lu.refl [b] w));have ax:=yv (Below.refl w w);have ay:=yv (zr w);have ab:∀ W:zd,w.heap.size≤W→∀ i∈b::T,i<W:=fun W hWz i hi=>by simp only [zn] at hi;rcases hi with rfl|hi;all_goals first|omega|(have:=h.tlt i hi;omega)
 have az:=yv ab;have H:=yv h;clear ab;obtain ⟨ae,af,ag,ah,ai,aj,ak,al,am,an,ao,aq,ar,au,av,aw⟩:=ac.out.all8;clear h;go_enter func153,ntmps153;go_wp2;go_ret;exact ⟨⟨t,m,u,ro,true,g⟩,rb,p,L,rfl,⟨ac.out,H.out.rope.apart H.out.blk rfl aa.out,ad.out,H.out.ml,H.out.mc,H.out.inv,fun i hi=>zu (H.out.tlt i hi) (aa.out).size⟩,rfl,aa.out⟩
set_option maxHeartbeats 800000 in
theorem nI {m:qv} {u ro:pa} {g:mo} (h:nz T w b ⟨t,m,u,ro,false,g⟩ rb p L) (h0:u.l.length=0):zi prog 153 #[yz (some ⟨b,0,none⟩),yz (some ⟨b,4,none⟩),yz (some ⟨b,5,none⟩),.func (.func 87) #[] #[]] w (nk T w b ((lz.d ⟨t,m,u,ro,false,g⟩),10)):=by
 have hbl:b<w:=h.lt;have aa:=yv (show l6 w b #[zf true,yz (some ⟨rb,0,none⟩),ze ⟨#[]⟩,yw m.a m.l.length m.c,yw u.a u.l.length u.c,yw ro.a ro.l.length ro.c,zf false,yw g.a g.l.length g.c] 100 from h.blk);have av:=yv (h.rows);have aw:=yv ((lu.refl [b] w));have ax:=yv (Below.refl w w);have ay:=yv (zr w);have ab:∀ W:zd,w.heap.size≤W→∀ i∈b::T,i<W:=fun W hWz i hi=>by simp only [zn] at hi;rcases hi with rfl|hi;all_goals first|omega|(have:=h.tlt i hi;omega)
 have bi:=yv ab;have H:=yv h;clear ab;obtain ⟨ac,ad,ae,af,ag,ah,ai,aj,ak,al,am,an,ao,aq,ar,au⟩:=aa.out.all8;have c0:u.l.length=0:=h0;have cp:=fun W=>mG u.a u.c W;have az:=yv (show ∀ W,zi prog 183 #[yw u.a u.l.length u.c] W _ from fun W=>by rw [h0];exact cp W);clear cp h c0 h0;go_enter func153,ntmps153;go_wp2_with fail;refine (az.out _).mono ?_;rintro e w1 ⟨rfl,hb⟩;clear ac ad ae af ag ah ai aj ak al am an ao aq ar au;have a1:=yv (aa.out.onto hb);have bj:=yv (av.out.later hb);have bk:=yv (aw.out.trans (S':=[]) (.of_below hb) lh);have bl:=yv (zh ay.out hb.size);have a0:=yv (ax.out.trans (hb.mono ax.out.size));clear hb az aa av aw ay;obtain ⟨a2,a3,a4,a5,a6,a7,a8,a9,ba,bb,bc,bd,be,bf,bg,bh⟩:=a1.out.all8;go_wp2;go_ret;have hbw:=a0.out.alloc a0.out.size (.cells #[yw none 0 0] 54);exact ⟨⟨t,m,u,ro,false,g⟩,rb,p,L,rfl,H.out.later hbw,rfl,.of_below hbw⟩
set_option maxHeartbeats 1600000 in
theorem oY {m:qv} {u ro:pa} {g:mo} (h:nz T w b ⟨t,m,u,ro,false,g⟩ rb p L) (k:Nat) (hn:u.l.length=k+1):zi prog 153 #[yz (some ⟨b,0,none⟩),yz (some ⟨b,4,none⟩),yz (some ⟨b,5,none⟩),.func (.func 87) #[] #[]] w (nk T w b (pt (lz.d ⟨t,m,u,ro,false,g⟩))):=by
 have hbl:b<w:=h.lt;have hk':(mf u.l).length=k+1:=by rw [aC];exact hn
 have hst:(mf u.l)[k]! = (u.l[k]!).l:=cJ u.l k lf;obtain ⟨t',hrun,hv,hz⟩:=tW h.inv rfl hk';have hyes:=tC (s:=lz.d ⟨t,m,u,ro,false,g⟩) rfl hk' hrun;have hie:=uP h.inv;have hlen:=(h.inv.ul.2 _ (cZ (L:=mf u.l) (k:=k) lf)).2;have hok:=tX (h.inv.ue _ (cZ (L:=mf u.l) (k:=k) lf));have h0:∀ x∈u.l,x.l.length≤1000000:=bL fun y hy=>zh (h.inv.ul.2 y hy).2 li;have h1:k≤900:=by have h2:(mf u.l).length≤16:=h.inv.ul.1;omega
 have htl:ro.l.length≤900∧∀ x∈ro.l,x.l.length≤1000000:=by
  have h2:(mf ro.l).length≤16:=h.inv.rl.1;rw [aC] at h2;exact ⟨lf,bL fun y hy=>zh (h.inv.rl.2 y hy).2 li⟩
 replace hyes:pt (lz.d ⟨t,m,u,ro,false,g⟩)=((⟨t',rq m.l (me (mf u.l)[k]!),(mf u.l).take k,np (mf ro.l) (mf u.l)[k]!,false,g.l⟩:mb),0):=hyes;rw [hyes] at hie ⊢;replace hrun:mu t (me (mf u.l)[k]!)=(t',0):=hrun;replace hok:∀ x∈me (mf u.l)[k]!,pb x=true:=hok;rw [hst] at hrun hlen hok hie ⊢;obtain ⟨sl,hsl⟩:∃ sl,(u.l[k]!).l=sl:=⟨_,rfl⟩;rw [hsl] at hrun hlen hok hie ⊢;obtain ⟨rl,hrl⟩:∃ rl,me sl=rl:=⟨_,rfl⟩;have hrz:rl.length≤32:=by rw [← hrl,aD];exact hlen
 rw [hrl] at hrun hok hie ⊢;have hms:=h.inv.shown hrun;have hez:=h.inv.edz hok;have hep:=iX (t:=t) h.inv.z hrun;have hof:ofE t'=0:=qN hv hz;have htz:t.size≤4096:=h.inv.z;have hml:m.l.length≤1000000:=zh h.inv.ml li;have hmc:m.l.length≤m.c∧m.c≤Ab:=⟨h.ml,h.mc⟩;have j4:=yv hrun;have kc:=yv hms;have h6:=yv hez;have kd:=yv hep;have ke:=yv hof;have kf:=yv hml;have kg:=yv hmc;have HI:=yv hie;have h7:=yv htl;have kh:=yv hsl;clear hrun hms hez hep hof hml hmc hie htl hyes hok hst hk' hv;have an:=yv (show l6 w b #[zf true,yz (some ⟨rb,0,none⟩),ze ⟨#[]⟩,yw m.a m.l.length m.c,yw u.a u.l.length u.c,yw ro.a ro.l.length ro.c,zf false,yw g.a g.l.length g.c] 100 from h.blk);have h8:=yv (h.rows);have h9:=yv ((lu.refl [b] w));have ia:=yv (Below.refl w w);have ib:=yv (zr w);have ao:∀ W:zd,w.heap.size≤W→∀ i∈b::T,i<W:=fun W hWz i hi=>by simp only [zn] at hi;rcases hi with rfl|hi;all_goals first|omega|(have:=h.tlt i hi;omega)
 have aq:=yv ao;have H:=yv h;clear ao;obtain ⟨bw,bx,bz,b3,b4,b5,b6,b7,b8,b9,ca,cb,cc,cd,ce,cf⟩:=an.out.all8;have cp:=fun W (hW:Below w w W)=>(lK u.a u.l u.c k W (h.rows.u.later hW).in hn h1 h0).mono fun e w' hh=>nT (S:=b::T) hh (aq.out W hW.size);rw [← hn] at cp;simp only [kh.out] at cp;clear hn h1 h0;have ct:=fun W (hW:Below w w W)=>nD (h.rope.later hW);have CT:=yv ct;have ic:=yv cp;clear cp ct h;go_enter func153,ntmps153;go_wp2_with fail;refine (ic.out _ (Below.refl _ _)).mono ?_;rintro e w1 ⟨⟨xa,xl,xc⟩,a2,c2,rfl,hxl,hsx,ie,hb⟩;clear bw bx bz b3 b4 b5 b6 b7 b8 b9 ca cb cc cd ce cf;have ar:=yv (an.out.onto hb);have ig:=yv (h8.out.later hb);have ih:=yv (h9.out.trans (S':=[]) (.of_below hb) lh);have au:=yv (zh ib.out hb.size);have ii:=yv (ia.out.trans (hb.mono ia.out.size));have ki:=yv hxl;have ij:=yv (hsx);have ik:=yv (ie);clear hb hxl hsx ie ic an h8 h9 ib;obtain ⟨cg,ch,cj,ck,cl,cm,cn,cu,cv,cw,cx,cy,cz,c3,c4,c5⟩:=ar.out.all8;have k5:w.heap.size≤w1:=au.out;obtain ⟨il,hwA1,kA,hbA,hzA⟩:=nu w1 #[yw a2 sl.length c2] 54;have av:=yv (ar.out.onto hbA);have im:=yv (ig.out.later hbA);have io:=yv (ij.out.later hbA);have aw:=yv (ik.out.later hbA);have ip:=yv (ih.out.trans (S':=[]) (.of_below hbA) lh);have ax:=yv (zh au.out hbA.size);have iq:=yv (ii.out.trans (hbA.mono ii.out.size));have ay:=yv kA;have az:w1.heap.size<il:=lf;have la:=yv az;clear kA hbA hzA az ar ig ij ik ih au;obtain ⟨c6,c7,c8,c9,da,db,dc,dd,de,df,dg,dh,di,dj,dk,dl⟩:=av.out.all8;obtain ⟨dm,dn⟩:=ay.out.all1;have ci:=oS a2 sl c2 il aw.out.in.row lf;rw [hrl] at ci;have CI:=yv ci;clear ci;go_wp2_with fail;refine (CI.out).mono ?_;rintro e w3 ⟨ra,rc,rfl,hrr,hb⟩;clear cg ch cj ck cl cm cn cu cv cw cx cy cz c3 c4 c5 hwA1 c6 c7 c8 c9 da db dc dd de df dg dh di dj dk dl dm dn;have a0:=yv (av.out.onto hb);have a1:=yv (ay.out.onto hb);have ir:=yv (im.out.later hb);have it:=yv (io.out.later hb);have iu:=yv (aw.out.later hb);have iv:=yv (ip.out.trans (S':=[]) (.of_below hb) lh);have a3:=yv (zh ax.out hb.size);have iw:=yv (iq.out.trans (hb.mono iq.out.size));have ix:=yv (hrr.off (aq.out _ ax.out));clear hb hrr CI av ay im io aw ip ax;obtain ⟨dp,dq,dr,ds,dt,du,dv,dw,dx,dy,dz,d0,d1,d2,d3,d4⟩:=a0.out.all8;obtain ⟨d5,d6⟩:=a1.out.all1;have k6:w.heap.size≤w3:=a3.out;obtain ⟨ac,hwA3,kA,hbA,hzA⟩:=nu w3 #[yw ra rl.length rc] 54;have af:=yv (a0.out.onto hbA);have a4:=yv (a1.out.onto hbA);have iy:=yv (ir.out.later hbA);have iz:=yv (it.out.later hbA);have i0:=yv (iu.out.later hbA);have a5:=yv (ix.out.later hbA);have i1:=yv (iv.out.trans (S':=[]) (.of_below hbA) lh);have i2:=yv (zh a3.out hbA.size);have a6:=yv (iw.out.trans (hbA.mono iw.out.size));have ag:=yv kA;have a7:w3.heap.size<ac:=lf;have lb:=yv a7;clear kA hbA hzA a7 a0 a1 ir it iu ix iv a3;obtain ⟨d7,d8,d9,ea,eb,ec,ed,ee,ef,eg,eh,ei,ej,ek,el,em⟩:=af.out.all8;obtain ⟨en,eo⟩:=a4.out.all1;obtain ⟨ep,er⟩:=ag.out.all1;have cr:=fun W (hW:Below ac ac W)=>hP t ra rl rc W (a5.out.later hW).in.row lf lf h6.out;rw [j4.out] at cr;have CR:=yv cr;clear cr;have hfs:∀ W,Below ac ac W→W ⟨b,1,none⟩=some (yz (some ⟨rb,0,none⟩))∧W ⟨w3,0,none⟩=some (yw ra rl.length rc):=fun W h=>⟨(af.out.onto h).cell 1 _ rfl,(ag.out.onto h).cell 0 _ rfl⟩;have FS:=yv hfs;clear hfs;go_wp2_with fail;clear dp dq dr ds dt du dv dw dx dy dz d0 d1 d2 d3 d4 d5 d6 hwA3 d7 d8 d9 ea eb ec ed ee ef eg eh ei ej ek el em en eo ep er;refine zx (S:=(fun W:zd=>W ⟨b,1,none⟩=some (yz (some ⟨rb,0,none⟩))∧W ⟨w3,0,none⟩=some (yw ra rl.length rc))) lg (FS.out _ (Below.refl _ _).drew) (fun hHeld=>?_);refine ly 0 ?_;refine ly 1 ?_;refine ly 2 ?_;refine ly 3 ?_;refine ly 5 ?_;refine m8 4 fun K hK=>?_;go_simp
 (go_at_call 59;refine (CT.out _ a6.out.drew).mono ?_;rintro e y1 ⟨rfl,i3⟩;have ad:Below ac ac y1:=(Below.refl _ _).drew.trans i3)
 try go_wp2_with fail
 refine hK.out _ _ ?_ (fun hHeld=>?_)
 ·exact FS.out _ ad
 clear hK K
 try simp only [zo,mj]
 refine m8 6 fun K hK=>?_;go_simp
 (go_at_call 89;refine (CR.out _ ad).mono ?_;rintro e y2 ⟨rfl,i4⟩;have ab:Below ac ac y2:=ad.trans (i4.mono ad.size))
 try go_wp2_with fail
 refine hK.out _ _ ?_ (fun hHeld=>?_)
 ·exact FS.out _ ab
 clear hK K
 try simp only [zo,mj]
 refine ly 7 ?_;refine ly 8 ?_;refine ly 9 ?_;refine ly 10 ?_;refine ly 11 ?_;refine zy lg ?_ _;have a8:=yv (af.out.onto ab);have a9:=yv (a4.out.onto ab);have ba:=yv (ag.out.onto ab);have i5:=yv (iy.out.later ab);have i6:=yv (iz.out.later ab);have i7:=yv (i0.out.later ab);have i8:=yv (a5.out.later ab);have i9:=yv (i1.out.trans (S':=[]) (.of_below ab) lh);have ja:=yv (zh i2.out ab.size);have jb:=yv (a6.out.trans (ab.mono a6.out.size));clear i3 ad i4 ab CT CR FS af a4 ag iy iz i0 a5 i1 i2;obtain ⟨es,et,eu,ev,ew,ey,e0,e3,e4,e5,e6,e7,e8,e9,fa,fb⟩:=a8.out.all8;obtain ⟨fc,fd⟩:=a9.out.all1;obtain ⟨fe,ff⟩:=ba.out.all1;have co:=(EI t' ln y2).mono fun e w' h=>h.yes ke.out;have CO:=yv co;clear co;go_wp2_with fail;refine (CO.out).mono ?_;rintro e w6 ⟨rb',p',L',rfl,hR,hb⟩;clear es et eu ev ew ey e0 e3 e4 e5 e6 e7 e8 e9 fa fb fc fd fe ff;have bb:=yv (a8.out.onto hb);have ae:=yv (a9.out.onto hb);have bc:=yv (ba.out.onto hb);have bd:=yv (i5.out.later hb);have jc:=yv (i6.out.later hb);have be:=yv (i7.out.later hb);have jd:=yv (i8.out.later hb);have je:=yv (i9.out.trans (S':=[]) (.of_below hb) lh);have bf:=yv (zh ja.out hb.size);have jf:=yv (jb.out.trans (hb.mono jb.out.size));have jg:=yv (hR);clear hb hR CO a8 a9 ba i5 i6 i7 i8 i9 ja;obtain ⟨fg,fh,fi,fj,fk,ah,fm,fn,fo,fp,fq,fr,fs,ft,fu,fv⟩:=bb.out.all8;obtain ⟨fw,fx⟩:=ae.out.all1;obtain ⟨fy,fz⟩:=bc.out.all1;have cq:=fun W (hW:Below w6 w6 W)=>(gP ro.a ro.l ro.c ⟨a2,sl,c2⟩ W (bd.out.r.later hW).in (be.out.later hW).in h7.out.1 h7.out.2 (by show sl.length≤1000000;omega)).mono fun e w' hh=>iP (S:=b::T) hh (aq.out W (zh bf.out hW.size));have CQ:=yv cq;clear cq;have q5:w6.drew ⟨b,5,none⟩=some (yw ro.a ro.l.length ro.c):=ah;go_wp2_with fail;clear fg fh fi fj fk ah fm fn fo fp fq fr fs ft fu fv fw fx fy fz;refine zx (S:=(fun W:zd=>W ⟨w1,0,none⟩=some (yw a2 sl.length c2))) lg (ae.out.cell 0 _ rfl) (fun hHeld=>?_);refine ly 0 ?_;refine ly 1 ?_;refine ly 2 ?_;refine ly 3 ?_;refine ly 4 ?_;refine ly 6 ?_;refine m8 5 fun K hK=>?_;go_simp;skip
 try go_wp2_with fail
 refine hK.out _ _ ?_ (fun hHeld=>?_)
 ·exact hHeld
 clear hK K
 try simp only [zo,mj]
 refine m8 7 fun K hK=>?_;go_simp
 (go_at_call 184;refine (CQ.out _ (Below.refl _ _).drew).mono ?_;rintro e y3 ⟨⟨za,zl,zc⟩,rfl,hzl,hsz,jh⟩;have aa:Below w6 w6 y3:=(Below.refl _ _).drew.trans jh)
 try go_wp2_with fail
 refine hK.out _ _ ?_ (fun hHeld=>?_)
 ·exact (ae.out.onto aa).cell 0 _ rfl
 clear hK K
 try simp only [zo,mj]
 clear q5;have ai:=yv (bb.out.onto aa);have aj:=yv (ae.out.onto aa);have bg:=yv (bc.out.onto aa);have ji:=yv (bd.out.later aa);have jj:=yv (jc.out.later aa);have jk:=yv (be.out.later aa);have jl:=yv (jd.out.later aa);have jm:=yv (jg.out.later aa);have jn:=yv (je.out.trans (S':=[]) (.of_below aa) lh);have jo:=yv (zh bf.out aa.size);have lc:=yv (jf.out.trans (aa.mono jf.out.size));have kj:=yv hzl;have jp:=yv hsz;clear hzl hsz jh aa CQ bb ae bc bd jc be jd jg je bf;obtain ⟨f0,f1,f2,f3,f4,f5,f6,f7,f8,f9,ga,gb,gc,gd,gf,gg⟩:=ai.out.all8;obtain ⟨gh,gi⟩:=aj.out.all1;obtain ⟨gj,gk⟩:=bg.out.all1;refine ly 8 ?_;refine m8 9 fun K hK=>?_;go_simp;skip
 try go_wp2_with fail
 refine hK.out _ _ ?_ (fun hHeld=>?_)
 ·exact (aj.out.other ⟨b,4,none⟩ (by show b≠w1;omega) _).cell 0 _ rfl
 clear hK K
 try simp only [zo,mj]
 refine ly 10 ?_;have kO:l6 (y3.setCell ⟨b,4,none⟩ (yw xa xl.length xc)) (b) #[zf true,yz (some ⟨rb,0,none⟩),ze ⟨#[]⟩,yw m.a m.l.length m.c,yw xa xl.length xc,yw ro.a ro.l.length ro.c,zf false,yw g.a g.l.length g.c] 100:=(ai.out.set 4 _);have kP:l6 (y3.setCell ⟨b,4,none⟩ (yw xa xl.length xc)) (w1) #[yw a2 sl.length c2] 54:=(aj.out.other ⟨b,4,none⟩ (by show b≠w1;omega) _);have kQ:l6 (y3.setCell ⟨b,4,none⟩ (yw xa xl.length xc)) (w3) #[yw ra rl.length rc] 54:=(bg.out.other ⟨b,4,none⟩ (by show b≠w3;omega) _);have ap0:lu [b] y3 (y3.setCell ⟨b,4,none⟩ (yw xa xl.length xc)):=(lu.refl [b] y3).setCell (p:=⟨b,4,none⟩) (.inl lh) _;have ap:lu (b::T) y3 (y3.setCell ⟨b,4,none⟩ (yw xa xl.length xc)):=(lu.refl (b::T) y3).setCell (p:=⟨b,4,none⟩) (.inl lh) _;have rS:=ji.out.apart ap;have rX:=jj.out.apart ap;have rE:=jk.out.apart ap;have rQ:=jl.out.apart ap;have rN:=n7.apart jm.out ai.out rfl ap0;have rZ:=jp.out.apart ap;have hB:=((jn.out.setCell (p:=⟨b,4,none⟩) lh _):lu [b] w (y3.setCell ⟨b,4,none⟩ (yw xa xl.length xc)));have hz:(y3.setCell ⟨b,4,none⟩ (yw xa xl.length xc)).heap.size=y3:=lh;obtain ⟨v8,bh⟩:∃ V,(y3.setCell ⟨b,4,none⟩ (yw xa xl.length xc))=V:=⟨_,rfl⟩;rw [bh] at kO kP kQ rS rX rE rQ rN rZ hB hz;rw [bh];have ak:=yv kO;have al:=yv kP;have bi:=yv kQ;have jq:=yv rS;have jr:=yv rX;have js:=yv rE;have jt:=yv rQ;have ju:=yv rN;have jv:=yv rZ;have jw:=yv hB;have jx:=yv (zh jo.out (Ad hz.symm));clear kO kP kQ rS rX rE rQ rN rZ hB hz ap ai aj bg ji jj jk jl jm jp jn jo;obtain ⟨gm,gn,gp,gq,gs,gt,gu,gv,gw,gx,gy,gz,g0,g1,g2,g3⟩:=ak.out.all8;obtain ⟨g4,g5⟩:=al.out.all1;obtain ⟨g6,g7⟩:=bi.out.all1;refine m8 11 fun K hK=>?_;go_simp;skip
 try go_wp2_with fail
 refine hK.out _ _ ?_ (fun hHeld=>?_)
 ·exact (al.out.other ⟨b,5,none⟩ (by show b≠w1;omega) _).cell 0 _ rfl
 clear hK K
 try simp only [zo,mj]
 refine zy lg ?_ _;have kO:l6 (v8.setCell ⟨b,5,none⟩ (yw za zl.length zc)) (b) #[zf true,yz (some ⟨rb,0,none⟩),ze ⟨#[]⟩,yw m.a m.l.length m.c,yw xa xl.length xc,yw za zl.length zc,zf false,yw g.a g.l.length g.c] 100:=(ak.out.set 5 _);have kP:l6 (v8.setCell ⟨b,5,none⟩ (yw za zl.length zc)) (w1) #[yw a2 sl.length c2] 54:=(al.out.other ⟨b,5,none⟩ (by show b≠w1;omega) _);have kQ:l6 (v8.setCell ⟨b,5,none⟩ (yw za zl.length zc)) (w3) #[yw ra rl.length rc] 54:=(bi.out.other ⟨b,5,none⟩ (by show b≠w3;omega) _);have ap0:lu [b] v8 (v8.setCell ⟨b,5,none⟩ (yw za zl.length zc)):=(lu.refl [b] v8).setCell (p:=⟨b,5,none⟩) (.inl lh) _;have ap:lu (b::T) v8 (v8.setCell ⟨b,5,none⟩ (yw za zl.length zc)):=(lu.refl (b::T) v8).setCell (p:=⟨b,5,none⟩) (.inl lh) _;have rS:=jq.out.apart ap;have rX:=jr.out.apart ap;have rE:=js.out.apart ap;have rQ:=jt.out.apart ap;have rN:=n7.apart ju.out ak.out rfl ap0;have rZ:=jv.out.apart ap;have hB:=((jw.out.setCell (p:=⟨b,5,none⟩) lh _):lu [b] w (v8.setCell ⟨b,5,none⟩ (yw za zl.length zc)));have hz:(v8.setCell ⟨b,5,none⟩ (yw za zl.length zc)).heap.size=v8:=lh;obtain ⟨v9,bj⟩:∃ V,(v8.setCell ⟨b,5,none⟩ (yw za zl.length zc))=V:=⟨_,rfl⟩;rw [bj] at kO kP kQ rS rX rE rQ rN rZ hB hz;rw [bj];have am:=yv kO;have bk:=yv kP;have bl:=yv kQ;have bm:=yv rS;have jy:=yv rX;have jz:=yv rE;have bn:=yv rQ;have j0:=yv rN;have j1:=yv rZ;have bo:=yv hB;have j2:=yv (zh jx.out (Ad hz.symm));clear kO kP kQ rS rX rE rQ rN rZ hB hz ap ak al bi jq jr js jt ju jv jw jx;obtain ⟨g8,g9,hc,hd,he,hf,hg,hj,hk,hl,hm,ho,hp,hq,hr,hs⟩:=am.out.all8;obtain ⟨ht,hu⟩:=bk.out.all1;obtain ⟨hw,hx⟩:=bl.out.all1;have csh:=mW (made:=true) (r:=some ⟨rb,0,none⟩) (t:=⟨#[]⟩) (m:=m) (u:=⟨xa,xl,xc⟩) (ro:=⟨za,zl,zc⟩) (o:=false) (g:=g) am.out (fun i hi=>zu (H.out.tlt i hi) bo.out.size) bm.out.m kf.out kg.out (some ⟨rb',0,none⟩) ⟨ra,rl,rc⟩ bn.out (by show rl.length≤100000;omega) h6.out kd.out kc.out;have kk:=yv csh;clear csh;go_wp2_with fail;refine (kk.out).mono ?_;rintro e wZ ⟨rfl,⟨ma,ml,mc⟩,bp,bq,j3,br,ha⟩;clear f0 f1 f2 f3 f4 f5 f6 f7 f8 f9 ga gb gc gd gf gg gh gi gj gk bh gm gn gp gq gs gt gu gv gw gx gy gz g0 g1 g2 g3 g4 g5 g6 g7 bj g8 g9 hc hd he hf hg hj hk hl hm ho hp hq hr hs ht hu hw hx;have bs:=yv (j3);have j5:=yv (bk.out.apart ha lr);have j6:=yv (bl.out.apart ha lr);have j7:=yv (bm.out.apart (ha.more lh));have j8:=yv (jy.out.apart (ha.more lh));have k7:=yv (jz.out.apart (ha.more lh));have k8:=yv (bn.out.apart (ha.more lh));have j9:=yv (n7.apart j0.out am.out rfl ha);have ka:=yv (j1.out.apart (ha.more lh));have bu:=yv (bo.out.trans ha lh);have k9:=yv (zh j2.out ha.size);have bv:=yv (zj bp bq);have kb:=yv (br);clear ha bp bq j3 br am bk bl bm jy jz bn j0 j1 bo j2;obtain ⟨kl,km,kn,ko,kp,kq,kr,ks,kt,ku,kv,kw,kx,ky,kz,k0⟩:=bs.out.all8;obtain ⟨k1,k2⟩:=j5.out.all1;obtain ⟨k3,k4⟩:=j6.out.all1;go_wp2;go_ret;have h3:ml=rq m.l rl:=bv.out.1;have h4:mf xl=_:=ki.out;have h5:mf zl=_:=kj.out;refine ⟨⟨t',⟨ma,ml,mc⟩,⟨xa,xl,xc⟩,⟨za,zl,zc⟩,false,g⟩,rb',p',L',rfl,⟨bs.out,j9.out,⟨kb.out,j8.out,ka.out,j7.out.g⟩,bv.out.2.1,bv.out.2.2,?_,fun i hi=>zu (H.out.tlt i hi) bu.out.size⟩,?_,bu.out⟩
 ·show mx (⟨t',ml,mf xl,mf zl,false,g.l⟩:mb);rw [h3,h4,h5];exact HI.out
 ·show (⟨t',ml,mf xl,mf zl,false,g.l⟩:mb)=_;rw [h3,h4,h5]
set_option maxHeartbeats 800000 in
theorem nH {m:qv} {u ro:pa} {g:mo} (h:nz T w b ⟨t,m,u,ro,true,g⟩ rb p L):zi prog 153 #[yz (some ⟨b,0,none⟩),yz (some ⟨b,5,none⟩),yz (some ⟨b,4,none⟩),.func (.func 154) #[] #[]] w (nk T w b ((lz.d ⟨t,m,u,ro,true,g⟩),11)):=by
 have hbl:b<w:=h.lt;have ac:=yv (show l6 w b #[zf true,yz (some ⟨rb,0,none⟩),ze ⟨#[]⟩,yw m.a m.l.length m.c,yw u.a u.l.length u.c,yw ro.a ro.l.length ro.c,zf true,yw g.a g.l.length g.c] 100 from h.blk);have ad:=yv (h.rows);have aa:=yv ((lu.refl [b] w));have ax:=yv (Below.refl w w);have ay:=yv (zr w);have ab:∀ W:zd,w.heap.size≤W→∀ i∈b::T,i<W:=fun W hWz i hi=>by simp only [zn] at hi;rcases hi with rfl|hi;all_goals first|omega|(have:=h.tlt i hi;omega)
 have az:=yv ab;have H:=yv h;clear ab;obtain ⟨ae,af,ag,ah,ai,aj,ak,al,am,an,ao,aq,ar,au,av,aw⟩:=ac.out.all8;clear h;go_enter func153,ntmps153;go_wp2;go_ret;exact ⟨⟨t,m,u,ro,true,g⟩,rb,p,L,rfl,⟨ac.out,H.out.rope.apart H.out.blk rfl aa.out,ad.out,H.out.ml,H.out.mc,H.out.inv,fun i hi=>zu (H.out.tlt i hi) (aa.out).size⟩,rfl,aa.out⟩
set_option maxHeartbeats 800000 in
theorem nK {m:qv} {u ro:pa} {g:mo} (h:nz T w b ⟨t,m,u,ro,false,g⟩ rb p L) (h0:ro.l.length=0):zi prog 153 #[yz (some ⟨b,0,none⟩),yz (some ⟨b,5,none⟩),yz (some ⟨b,4,none⟩),.func (.func 154) #[] #[]] w (nk T w b ((lz.d ⟨t,m,u,ro,false,g⟩),10)):=by
 have hbl:b<w:=h.lt;have aa:=yv (show l6 w b #[zf true,yz (some ⟨rb,0,none⟩),ze ⟨#[]⟩,yw m.a m.l.length m.c,yw u.a u.l.length u.c,yw ro.a ro.l.length ro.c,zf false,yw g.a g.l.length g.c] 100 from h.blk);have av:=yv (h.rows);have aw:=yv ((lu.refl [b] w));have ax:=yv (Below.refl w w);have ay:=yv (zr w);have ab:∀ W:zd,w.heap.size≤W→∀ i∈b::T,i<W:=fun W hWz i hi=>by simp only [zn] at hi;rcases hi with rfl|hi;all_goals first|omega|(have:=h.tlt i hi;omega)
 have bi:=yv ab;have H:=yv h;clear ab;obtain ⟨ac,ad,ae,af,ag,ah,ai,aj,ak,al,am,an,ao,aq,ar,au⟩:=aa.out.all8;have c0:ro.l.length=0:=h0;have cp:=fun W=>mG ro.a ro.c W;have az:=yv (show ∀ W,zi prog 183 #[yw ro.a ro.l.length ro.c] W _ from fun W=>by rw [h0];exact cp W);clear cp h c0 h0;go_enter func153,ntmps153;go_wp2_with fail;refine (az.out _).mono ?_;rintro e w1 ⟨rfl,hb⟩;clear ac ad ae af ag ah ai aj ak al am an ao aq ar au;have a1:=yv (aa.out.onto hb);have bj:=yv (av.out.later hb);have bk:=yv (aw.out.trans (S':=[]) (.of_below hb) lh);have bl:=yv (zh ay.out hb.size);have a0:=yv (ax.out.trans (hb.mono ax.out.size));clear hb az aa av aw ay;obtain ⟨a2,a3,a4,a5,a6,a7,a8,a9,ba,bb,bc,bd,be,bf,bg,bh⟩:=a1.out.all8;go_wp2;go_ret;have hbw:=a0.out.alloc a0.out.size (.cells #[yw none 0 0] 54);exact ⟨⟨t,m,u,ro,false,g⟩,rb,p,L,rfl,H.out.later hbw,rfl,.of_below hbw⟩
set_option maxHeartbeats 1600000 in
theorem oZ {m:qv} {u ro:pa} {g:mo} (h:nz T w b ⟨t,m,u,ro,false,g⟩ rb p L) (k:Nat) (hn:ro.l.length=k+1):zi prog 153 #[yz (some ⟨b,0,none⟩),yz (some ⟨b,5,none⟩),yz (some ⟨b,4,none⟩),.func (.func 154) #[] #[]] w (nk T w b (pu (lz.d ⟨t,m,u,ro,false,g⟩))):=by
 have hbl:b<w:=h.lt;have hk':(mf ro.l).length=k+1:=by rw [aC];exact hn
 have hst:(mf ro.l)[k]! = (ro.l[k]!).l:=cJ ro.l k lf;obtain ⟨t',hrun,hv,hz⟩:=wD h.inv hk';have hyes:=sD (s:=lz.d ⟨t,m,u,ro,false,g⟩) rfl hk' hrun;have hie:=wG h.inv;have hlen:=(h.inv.rl.2 _ (cZ (L:=mf ro.l) (k:=k) lf)).2;have hok:=h.inv.re _ (cZ (L:=mf ro.l) (k:=k) lf);have ht:∀ x∈ro.l,x.l.length≤1000000:=bL fun y hy=>zh (h.inv.rl.2 y hy).2 li;have hu:k≤900:=by have h2:(mf ro.l).length≤16:=h.inv.rl.1;omega
 have htl:u.l.length≤900∧∀ x∈u.l,x.l.length≤1000000:=by
  have h2:(mf u.l).length≤16:=h.inv.ul.1;rw [aC] at h2;exact ⟨lf,bL fun y hy=>zh (h.inv.ul.2 y hy).2 li⟩
 replace hyes:pu (lz.d ⟨t,m,u,ro,false,g⟩)=((⟨t',rq m.l (mf ro.l)[k]!,np (mf u.l) (mf ro.l)[k]!,(mf ro.l).take k,false,g.l⟩:mb),0):=hyes;rw [hyes] at hie ⊢;replace hrun:mu t ((mf ro.l)[k]!)=(t',0):=hrun;replace hok:∀ x∈(mf ro.l)[k]!,pb x=true:=hok;rw [hst] at hrun hlen hok hie ⊢;obtain ⟨sl,hsl⟩:∃ sl,(ro.l[k]!).l=sl:=⟨_,rfl⟩;rw [hsl] at hrun hlen hok hie ⊢;have hms:=h.inv.shown hrun;have hez:=h.inv.edz hok;have hep:=iX (t:=t) h.inv.z hrun;have hof:ofE t'=0:=qN hv hz;have htz:t.size≤4096:=h.inv.z;have hml:m.l.length≤1000000:=zh h.inv.ml li;have hmc:m.l.length≤m.c∧m.c≤Ab:=⟨h.ml,h.mc⟩;have jw:=yv hrun;have j4:=yv hms;have hw:=yv hez;have j5:=yv hep;have j6:=yv hof;have j7:=yv hml;have j8:=yv hmc;have HI:=yv hie;have hx:=yv htl;have j9:=yv hsl;clear hrun hms hez hep hof hml hmc hie htl hyes hok hst hk' hv;have an:=yv (show l6 w b #[zf true,yz (some ⟨rb,0,none⟩),ze ⟨#[]⟩,yw m.a m.l.length m.c,yw u.a u.l.length u.c,yw ro.a ro.l.length ro.c,zf false,yw g.a g.l.length g.c] 100 from h.blk);have h0:=yv (h.rows);have h1:=yv ((lu.refl [b] w));have h6:=yv (Below.refl w w);have h7:=yv (zr w);have ao:∀ W:zd,w.heap.size≤W→∀ i∈b::T,i<W:=fun W hWz i hi=>by simp only [zn] at hi;rcases hi with rfl|hi;all_goals first|omega|(have:=h.tlt i hi;omega)
 have h8:=yv ao;have H:=yv h;clear ao;obtain ⟨bs,bu,bv,bw,bx,bz,b3,b4,b5,b6,b7,b8,b9,ca,cb,cc⟩:=an.out.all8;have cp:=fun W (hW:Below w w W)=>(lK ro.a ro.l ro.c k W (h.rows.r.later hW).in hn hu ht).mono fun e w' hh=>nT (S:=b::T) hh (h8.out W hW.size);rw [← hn] at cp;simp only [j9.out] at cp;clear hn hu ht;have ct:=fun W (hW:Below w w W)=>nD (h.rope.later hW);have CT:=yv ct;have h9:=yv cp;clear cp ct h;go_enter func153,ntmps153;go_wp2_with fail;refine (h9.out _ (Below.refl _ _)).mono ?_;rintro e w1 ⟨⟨xa,xl,xc⟩,a2,c2,rfl,hxl,hsx,ia,hb⟩;clear bs bu bv bw bx bz b3 b4 b5 b6 b7 b8 b9 ca cb cc;have aq:=yv (an.out.onto hb);have ib:=yv (h0.out.later hb);have ic:=yv (h1.out.trans (S':=[]) (.of_below hb) lh);have ar:=yv (zh h7.out hb.size);have ie:=yv (h6.out.trans (hb.mono h6.out.size));have ka:=yv hxl;have ig:=yv (hsx);have ih:=yv (ia);clear hb hxl hsx ia h9 an h0 h1 h7;obtain ⟨cd,ce,cf,cg,ch,ci,cj,ck,cl,cm,cn,cu,cv,cw,cx,cy⟩:=aq.out.all8;have kx:w.heap.size≤w1:=ar.out;obtain ⟨ii,hwA1,kA,hbA,hzA⟩:=nu w1 #[yw a2 sl.length c2] 54;have au:=yv (aq.out.onto hbA);have ij:=yv (ib.out.later hbA);have ik:=yv (ig.out.later hbA);have il:=yv (ih.out.later hbA);have im:=yv (ic.out.trans (S':=[]) (.of_below hbA) lh);have io:=yv (zh ar.out hbA.size);have ip:=yv (ie.out.trans (hbA.mono ie.out.size));have av:=yv kA;have aw:w1.heap.size<ii:=lf;have k1:=yv aw;clear kA hbA hzA aw aq ib ig ih ic ar;obtain ⟨cz,c3,c4,c5,c6,c7,c8,c9,da,db,dc,dd,de,df,dg,dh⟩:=au.out.all8;obtain ⟨di,dj⟩:=av.out.all1;have CI:=yv (SP a2 sl.length c2 ii);go_wp2_with fail;refine (CI.out).mono ?_;rintro e w3 ⟨rfl,hb⟩;clear cd ce cf cg ch ci cj ck cl cm cn cu cv cw cx cy hwA1 cz c3 c4 c5 c6 c7 c8 c9 da db dc dd de df dg dh di dj;have ax:=yv (au.out.onto hb);have ay:=yv (av.out.onto hb);have iq:=yv (ij.out.later hb);have ir:=yv (ik.out.later hb);have it:=yv (il.out.later hb);have iu:=yv (im.out.trans (S':=[]) (.of_below hb) lh);have az:=yv (zh io.out hb.size);have iv:=yv (ip.out.trans (hb.mono ip.out.size));clear hb CI au av ij ik il im io;obtain ⟨dk,dl,dm,dn,dp,dq,dr,ds,dt,du,dv,dw,dx,dy,dz,d0⟩:=ax.out.all8;obtain ⟨d1,d2⟩:=ay.out.all1;have ky:w.heap.size≤w3:=az.out;obtain ⟨ac,hwA3,kA,hbA,hzA⟩:=nu w3 #[yw a2 sl.length c2] 54;have af:=yv (ax.out.onto hbA);have a0:=yv (ay.out.onto hbA);have iw:=yv (iq.out.later hbA);have ix:=yv (ir.out.later hbA);have a1:=yv (it.out.later hbA);have iy:=yv (iu.out.trans (S':=[]) (.of_below hbA) lh);have iz:=yv (zh az.out hbA.size);have a3:=yv (iv.out.trans (hbA.mono iv.out.size));have ag:=yv kA;have a4:w3.heap.size<ac:=lf;have k2:=yv a4;clear kA hbA hzA a4 ax ay iq ir it iu az;obtain ⟨d3,d4,d5,d6,d7,d8,d9,ea,eb,ec,ed,ee,ef,eg,eh,ei⟩:=af.out.all8;obtain ⟨ej,ek⟩:=a0.out.all1;obtain ⟨el,em⟩:=ag.out.all1;have cr:=fun W (hW:Below ac ac W)=>hP t a2 sl c2 W (a1.out.later hW).in.row lf lf hw.out;rw [jw.out] at cr;have CR:=yv cr;clear cr;have hfs:∀ W,Below ac ac W→W ⟨b,1,none⟩=some (yz (some ⟨rb,0,none⟩))∧W ⟨w3,0,none⟩=some (yw a2 sl.length c2):=fun W h=>⟨(af.out.onto h).cell 1 _ rfl,(ag.out.onto h).cell 0 _ rfl⟩;have FS:=yv hfs;clear hfs;go_wp2_with fail;clear dk dl dm dn dp dq dr ds dt du dv dw dx dy dz d0 d1 d2 hwA3 d3 d4 d5 d6 d7 d8 d9 ea eb ec ed ee ef eg eh ei ej ek el em;refine zx (S:=(fun W:zd=>W ⟨b,1,none⟩=some (yz (some ⟨rb,0,none⟩))∧W ⟨w3,0,none⟩=some (yw a2 sl.length c2))) lg (FS.out _ (Below.refl _ _).drew) (fun hHeld=>?_);refine ly 0 ?_;refine ly 1 ?_;refine ly 2 ?_;refine ly 3 ?_;refine ly 5 ?_;refine m8 4 fun K hK=>?_;go_simp
 (go_at_call 59;refine (CT.out _ a3.out.drew).mono ?_;rintro e y1 ⟨rfl,i0⟩;have ad:Below ac ac y1:=(Below.refl _ _).drew.trans i0)
 try go_wp2_with fail
 refine hK.out _ _ ?_ (fun hHeld=>?_)
 ·exact FS.out _ ad
 clear hK K
 try simp only [zo,mj]
 refine m8 6 fun K hK=>?_;go_simp
 (go_at_call 89;refine (CR.out _ ad).mono ?_;rintro e y2 ⟨rfl,i1⟩;have ab:Below ac ac y2:=ad.trans (i1.mono ad.size))
 try go_wp2_with fail
 refine hK.out _ _ ?_ (fun hHeld=>?_)
 ·exact FS.out _ ab
 clear hK K
 try simp only [zo,mj]
 refine ly 7 ?_;refine ly 8 ?_;refine ly 9 ?_;refine ly 10 ?_;refine ly 11 ?_;refine zy lg ?_ _;have a5:=yv (af.out.onto ab);have a6:=yv (a0.out.onto ab);have a7:=yv (ag.out.onto ab);have i2:=yv (iw.out.later ab);have i3:=yv (ix.out.later ab);have i4:=yv (a1.out.later ab);have i5:=yv (iy.out.trans (S':=[]) (.of_below ab) lh);have i6:=yv (zh iz.out ab.size);have i7:=yv (a3.out.trans (ab.mono a3.out.size));clear i0 ad i1 ab CT CR FS af a0 ag iw ix a1 iy iz;obtain ⟨en,eo,ep,er,es,et,eu,ev,ew,ey,e0,e3,e4,e5,e6,e7⟩:=a5.out.all8;obtain ⟨e8,e9⟩:=a6.out.all1;obtain ⟨fa,fb⟩:=a7.out.all1;have co:=(EI t' ln y2).mono fun e w' h=>h.yes j6.out;have CO:=yv co;clear co;go_wp2_with fail;refine (CO.out).mono ?_;rintro e w6 ⟨rb',p',L',rfl,hR,hb⟩;clear en eo ep er es et eu ev ew ey e0 e3 e4 e5 e6 e7 e8 e9 fa fb;have a8:=yv (a5.out.onto hb);have ae:=yv (a6.out.onto hb);have a9:=yv (a7.out.onto hb);have ba:=yv (i2.out.later hb);have i8:=yv (i3.out.later hb);have bb:=yv (i4.out.later hb);have i9:=yv (i5.out.trans (S':=[]) (.of_below hb) lh);have bc:=yv (zh i6.out hb.size);have ja:=yv (i7.out.trans (hb.mono i7.out.size));have jb:=yv (hR);clear hb hR CO a5 a6 a7 i2 i3 i4 i5 i6;obtain ⟨fc,fd,fe,ff,ah,fg,fh,fi,fj,fk,fm,fn,fo,fp,fq,fr⟩:=a8.out.all8;obtain ⟨fs,ft⟩:=ae.out.all1;obtain ⟨fu,fv⟩:=a9.out.all1;have cq:=fun W (hW:Below w6 w6 W)=>(gP u.a u.l u.c ⟨a2,sl,c2⟩ W (ba.out.u.later hW).in (bb.out.later hW).in hx.out.1 hx.out.2 (by show sl.length≤1000000;omega)).mono fun e w' hh=>iP (S:=b::T) hh (h8.out W (zh bc.out hW.size));have CQ:=yv cq;clear cq;have q5:w6.drew ⟨b,4,none⟩=some (yw u.a u.l.length u.c):=ah;go_wp2_with fail;clear fc fd fe ff ah fg fh fi fj fk fm fn fo fp fq fr fs ft fu fv;refine zx (S:=(fun W:zd=>W ⟨w1,0,none⟩=some (yw a2 sl.length c2))) lg (ae.out.cell 0 _ rfl) (fun hHeld=>?_);refine ly 0 ?_;refine ly 1 ?_;refine ly 2 ?_;refine ly 3 ?_;refine ly 4 ?_;refine ly 6 ?_;refine m8 5 fun K hK=>?_;go_simp;skip
 try go_wp2_with fail
 refine hK.out _ _ ?_ (fun hHeld=>?_)
 ·exact hHeld
 clear hK K
 try simp only [zo,mj]
 refine m8 7 fun K hK=>?_;go_simp
 (go_at_call 184;refine (CQ.out _ (Below.refl _ _).drew).mono ?_;rintro e y3 ⟨⟨za,zl,zc⟩,rfl,hzl,hsz,jc⟩;have aa:Below w6 w6 y3:=(Below.refl _ _).drew.trans jc)
 try go_wp2_with fail
 refine hK.out _ _ ?_ (fun hHeld=>?_)
 ·exact (ae.out.onto aa).cell 0 _ rfl
 clear hK K
 try simp only [zo,mj]
 clear q5;have ai:=yv (a8.out.onto aa);have aj:=yv (ae.out.onto aa);have bd:=yv (a9.out.onto aa);have jd:=yv (ba.out.later aa);have je:=yv (i8.out.later aa);have jf:=yv (bb.out.later aa);have jg:=yv (jb.out.later aa);have jh:=yv (i9.out.trans (S':=[]) (.of_below aa) lh);have ji:=yv (zh bc.out aa.size);have k3:=yv (ja.out.trans (aa.mono ja.out.size));have kb:=yv hzl;have jj:=yv hsz;clear hzl hsz jc aa CQ a8 ae a9 ba i8 bb jb i9 bc;obtain ⟨fw,fx,fy,fz,f0,f1,f2,f3,f4,f5,f6,f7,f8,f9,ga,gb⟩:=ai.out.all8;obtain ⟨gc,gd⟩:=aj.out.all1;obtain ⟨gf,gg⟩:=bd.out.all1;refine ly 8 ?_;refine m8 9 fun K hK=>?_;go_simp;skip
 try go_wp2_with fail
 refine hK.out _ _ ?_ (fun hHeld=>?_)
 ·exact (aj.out.other ⟨b,5,none⟩ (by show b≠w1;omega) _).cell 0 _ rfl
 clear hK K
 try simp only [zo,mj]
 refine ly 10 ?_;have kO:l6 (y3.setCell ⟨b,5,none⟩ (yw xa xl.length xc)) (b) #[zf true,yz (some ⟨rb,0,none⟩),ze ⟨#[]⟩,yw m.a m.l.length m.c,yw u.a u.l.length u.c,yw xa xl.length xc,zf false,yw g.a g.l.length g.c] 100:=(ai.out.set 5 _);have kP:l6 (y3.setCell ⟨b,5,none⟩ (yw xa xl.length xc)) (w1) #[yw a2 sl.length c2] 54:=(aj.out.other ⟨b,5,none⟩ (by show b≠w1;omega) _);have kQ:l6 (y3.setCell ⟨b,5,none⟩ (yw xa xl.length xc)) (w3) #[yw a2 sl.length c2] 54:=(bd.out.other ⟨b,5,none⟩ (by show b≠w3;omega) _);have ap0:lu [b] y3 (y3.setCell ⟨b,5,none⟩ (yw xa xl.length xc)):=(lu.refl [b] y3).setCell (p:=⟨b,5,none⟩) (.inl lh) _;have ap:lu (b::T) y3 (y3.setCell ⟨b,5,none⟩ (yw xa xl.length xc)):=(lu.refl (b::T) y3).setCell (p:=⟨b,5,none⟩) (.inl lh) _;have rS:=jd.out.apart ap;have rX:=je.out.apart ap;have rE:=jf.out.apart ap;have rN:=n7.apart jg.out ai.out rfl ap0;have rZ:=jj.out.apart ap;have hB:=((jh.out.setCell (p:=⟨b,5,none⟩) lh _):lu [b] w (y3.setCell ⟨b,5,none⟩ (yw xa xl.length xc)));have hz:(y3.setCell ⟨b,5,none⟩ (yw xa xl.length xc)).heap.size=y3:=lh;obtain ⟨v8,be⟩:∃ V,(y3.setCell ⟨b,5,none⟩ (yw xa xl.length xc))=V:=⟨_,rfl⟩;rw [be] at kO kP kQ rS rX rE rN rZ hB hz;rw [be];have ak:=yv kO;have al:=yv kP;have bf:=yv kQ;have jk:=yv rS;have jl:=yv rX;have jm:=yv rE;have jn:=yv rN;have jo:=yv rZ;have jp:=yv hB;have jq:=yv (zh ji.out (Ad hz.symm));clear kO kP kQ rS rX rE rN rZ hB hz ap ai aj bd jd je jf jg jj jh ji;obtain ⟨gh,gi,gj,gk,gm,gn,gp,gq,gs,gt,gu,gv,gw,gx,gy,gz⟩:=ak.out.all8;obtain ⟨g0,g1⟩:=al.out.all1;obtain ⟨g2,g3⟩:=bf.out.all1;refine m8 11 fun K hK=>?_;go_simp;skip
 try go_wp2_with fail
 refine hK.out _ _ ?_ (fun hHeld=>?_)
 ·exact (al.out.other ⟨b,4,none⟩ (by show b≠w1;omega) _).cell 0 _ rfl
 clear hK K
 try simp only [zo,mj]
 refine zy lg ?_ _;have kO:l6 (v8.setCell ⟨b,4,none⟩ (yw za zl.length zc)) (b) #[zf true,yz (some ⟨rb,0,none⟩),ze ⟨#[]⟩,yw m.a m.l.length m.c,yw za zl.length zc,yw xa xl.length xc,zf false,yw g.a g.l.length g.c] 100:=(ak.out.set 4 _);have kP:l6 (v8.setCell ⟨b,4,none⟩ (yw za zl.length zc)) (w1) #[yw a2 sl.length c2] 54:=(al.out.other ⟨b,4,none⟩ (by show b≠w1;omega) _);have kQ:l6 (v8.setCell ⟨b,4,none⟩ (yw za zl.length zc)) (w3) #[yw a2 sl.length c2] 54:=(bf.out.other ⟨b,4,none⟩ (by show b≠w3;omega) _);have ap0:lu [b] v8 (v8.setCell ⟨b,4,none⟩ (yw za zl.length zc)):=(lu.refl [b] v8).setCell (p:=⟨b,4,none⟩) (.inl lh) _;have ap:lu (b::T) v8 (v8.setCell ⟨b,4,none⟩ (yw za zl.length zc)):=(lu.refl (b::T) v8).setCell (p:=⟨b,4,none⟩) (.inl lh) _;have rS:=jk.out.apart ap;have rX:=jl.out.apart ap;have rE:=jm.out.apart ap;have rN:=n7.apart jn.out ak.out rfl ap0;have rZ:=jo.out.apart ap;have hB:=((jp.out.setCell (p:=⟨b,4,none⟩) lh _):lu [b] w (v8.setCell ⟨b,4,none⟩ (yw za zl.length zc)));have hz:(v8.setCell ⟨b,4,none⟩ (yw za zl.length zc)).heap.size=v8:=lh;obtain ⟨v9,bg⟩:∃ V,(v8.setCell ⟨b,4,none⟩ (yw za zl.length zc))=V:=⟨_,rfl⟩;rw [bg] at kO kP kQ rS rX rE rN rZ hB hz;rw [bg];have am:=yv kO;have bh:=yv kP;have bi:=yv kQ;have bj:=yv rS;have jr:=yv rX;have bk:=yv rE;have js:=yv rN;have jt:=yv rZ;have bl:=yv hB;have ju:=yv (zh jq.out (Ad hz.symm));clear kO kP kQ rS rX rE rN rZ hB hz ap ak al bf jk jl jm jn jo jp jq;obtain ⟨g4,g5,g6,g7,g8,g9,hc,hd,he,hf,hg,hj,hk,hl,hm,ho⟩:=am.out.all8;obtain ⟨hp,hq⟩:=bh.out.all1;obtain ⟨hr,hs⟩:=bi.out.all1;have csh:=mW (made:=true) (r:=some ⟨rb,0,none⟩) (t:=⟨#[]⟩) (m:=m) (u:=⟨za,zl,zc⟩) (ro:=⟨xa,xl,xc⟩) (o:=false) (g:=g) am.out (fun i hi=>zu (H.out.tlt i hi) bl.out.size) bj.out.m j7.out j8.out (some ⟨rb',0,none⟩) ⟨a2,sl,c2⟩ bk.out (by show sl.length≤100000;omega) hw.out j5.out j4.out;have kc:=yv csh;clear csh;go_wp2_with fail;refine (kc.out).mono ?_;rintro e wZ ⟨rfl,⟨ma,ml,mc⟩,bm,bn,jv,bo,ha⟩;clear fw fx fy fz f0 f1 f2 f3 f4 f5 f6 f7 f8 f9 ga gb gc gd gf gg be gh gi gj gk gm gn gp gq gs gt gu gv gw gx gy gz g0 g1 g2 g3 bg g4 g5 g6 g7 g8 g9 hc hd he hf hg hj hk hl hm ho hp hq hr hs;have bp:=yv (jv);have jx:=yv (bh.out.apart ha lr);have jy:=yv (bi.out.apart ha lr);have jz:=yv (bj.out.apart (ha.more lh));have j0:=yv (jr.out.apart (ha.more lh));have kz:=yv (bk.out.apart (ha.more lh));have j1:=yv (n7.apart js.out am.out rfl ha);have j2:=yv (jt.out.apart (ha.more lh));have bq:=yv (bl.out.trans ha lh);have k0:=yv (zh ju.out ha.size);have br:=yv (zj bm bn);have j3:=yv (bo);clear ha bm bn jv bo am bh bi bj jr bk js jt bl ju;obtain ⟨kd,ke,kf,kg,kh,ki,kj,kk,kl,km,kn,ko,kp,kq,kr,ks⟩:=bp.out.all8;obtain ⟨kt,ku⟩:=jx.out.all1;obtain ⟨kv,kw⟩:=jy.out.all1;go_wp2;go_ret;have h3:ml=rq m.l sl:=br.out.1;have h4:mf xl=_:=ka.out;have h5:mf zl=_:=kb.out;refine ⟨⟨t',⟨ma,ml,mc⟩,⟨za,zl,zc⟩,⟨xa,xl,xc⟩,false,g⟩,rb',p',L',rfl,⟨bp.out,j1.out,⟨j3.out,j2.out,j0.out,jz.out.g⟩,br.out.2.1,br.out.2.2,?_,fun i hi=>zu (H.out.tlt i hi) bq.out.size⟩,?_,bq.out⟩
 ·show mx (⟨t',ml,mf zl,mf xl,false,g.l⟩:mb);rw [h3,h4,h5];exact HI.out
 ·show (⟨t',ml,mf zl,mf xl,false,g.l⟩:mb)=_;rw [h3,h4,h5]
theorem uY {s:lz} (h:nz T w b s rb p L):zi prog 153 #[yz (some ⟨b,0,none⟩),yz (some ⟨b,4,none⟩),yz (some ⟨b,5,none⟩),.func (.func 87) #[] #[]] w (nk T w b (pt s.d)):=by
 obtain ⟨t,m,u,ro,so,g⟩:=s;cases so with
 | true =>
  have e:pt (lz.d ⟨t,m,u,ro,true,g⟩)=(lz.d ⟨t,m,u,ro,true,g⟩,11):=by unfold pt;exact if_pos rfl
  rw [e];exact nE h
 | false =>
  cases hn:u.l.length with
  | zero =>
   have e:pt (lz.d ⟨t,m,u,ro,false,g⟩)=(lz.d ⟨t,m,u,ro,false,g⟩,10):=by unfold pt;exact (if_neg (fun h=>by cases h)).trans (if_pos (show (mf u.l).length=0 by rw [aC];exact hn))
   rw [e];exact nI h hn
  | succ k=>exact oY h k hn
set_option maxHeartbeats 800000 in
theorem PA {s:lz} (h:nz T w b s rb p L) (k i n:Int) (x:ByteArray):zi prog 122 #[yz (some ⟨b,0,none⟩),(zs #[yx yy k,yx yy i,yx yy n,ze x])] w (nk T w b (pt s.d)):=by
 obtain ⟨wX,hwX,kE,aa,hz⟩:=nu w #[yx yy k,yx yy i,yx yy n,ze x] 50;have ct:=fun W (hW:Below w w W)=>uY (h.later hW);obtain ⟨R,hR⟩:∃ R,pt s.d=R:=⟨_,rfl⟩;rw [hR] at ct ⊢;obtain ⟨Rs,Re⟩:=R;have CT:=yv ct;have ab:=yv aa;clear ct hR kE aa hz h;go_enter func122,ntmps122;go_wp2_with fail;refine zx (S:=(fun _:zd=>True)) lg Ah (fun hHeld=>?_);refine ly 0 ?_;refine ly 1 ?_;refine ly 2 ?_;refine ly 3 ?_;refine ly 4 ?_;refine ly 5 ?_;refine ly 6 ?_;refine ly 7 ?_;refine ly 8 ?_;refine m8 9 fun K hK=>?_;go_simp
 (go_at_call 153;refine (CT.out _ (ab.out.drew)).mono ?_;rintro e w1 ⟨s1,rb1,p1,L1,rfl,ac,ad,ae⟩;have HQ:=yv (zj ac (zj ad ae));clear ac ad ae)
 try go_wp2_with fail
 refine hK.out _ _ ?_ (fun hHeld=>?_)
 ·exact Ah
 clear hK K
 try simp only [zo,mj]
 refine ly 10 ?_;refine zy lg ?_ _;go_wp2;go_ret;exact ⟨s1,rb1,p1,L1,rfl,HQ.out.1,HQ.out.2.1,(lu.of_below (S:=[b]) ab.out.drew).trans HQ.out.2.2 (fun x hx=>.inl hx)⟩
theorem uI {s:lz} (h:nz T w b s rb p L):zi prog 153 #[yz (some ⟨b,0,none⟩),yz (some ⟨b,5,none⟩),yz (some ⟨b,4,none⟩),.func (.func 154) #[] #[]] w (nk T w b (pu s.d)):=by
 obtain ⟨t,m,u,ro,so,g⟩:=s;cases so with
 | true =>
  have e:pu (lz.d ⟨t,m,u,ro,true,g⟩)=(lz.d ⟨t,m,u,ro,true,g⟩,11):=by unfold pu;exact if_pos rfl
  rw [e];exact nH h
 | false =>
  cases hn:ro.l.length with
  | zero =>
   have e:pu (lz.d ⟨t,m,u,ro,false,g⟩)=(lz.d ⟨t,m,u,ro,false,g⟩,10):=by unfold pu;exact (if_neg (fun h=>by cases h)).trans (if_pos (show (mf ro.l).length=0 by rw [aC];exact hn))
   rw [e];exact nK h hn
  | succ k=>exact oZ h k hn
set_option maxHeartbeats 800000 in
theorem PQ {s:lz} (h:nz T w b s rb p L) (k i n:Int) (x:ByteArray):zi prog 123 #[yz (some ⟨b,0,none⟩),(zs #[yx yy k,yx yy i,yx yy n,ze x])] w (nk T w b (pu s.d)):=by
 obtain ⟨wX,hwX,kE,aa,hz⟩:=nu w #[yx yy k,yx yy i,yx yy n,ze x] 50;have ct:=fun W (hW:Below w w W)=>uI (h.later hW);obtain ⟨R,hR⟩:∃ R,pu s.d=R:=⟨_,rfl⟩;rw [hR] at ct ⊢;obtain ⟨Rs,Re⟩:=R;have CT:=yv ct;have ab:=yv aa;clear ct hR kE aa hz h;go_enter func123,ntmps123;go_wp2_with fail;refine zx (S:=(fun _:zd=>True)) lg Ah (fun hHeld=>?_);refine ly 0 ?_;refine ly 1 ?_;refine ly 2 ?_;refine ly 3 ?_;refine ly 4 ?_;refine ly 5 ?_;refine ly 6 ?_;refine ly 7 ?_;refine ly 8 ?_;refine m8 9 fun K hK=>?_;go_simp
 (go_at_call 153;refine (CT.out _ (ab.out.drew)).mono ?_;rintro e w1 ⟨s1,rb1,p1,L1,rfl,ac,ad,ae⟩;have HQ:=yv (zj ac (zj ad ae));clear ac ad ae)
 try go_wp2_with fail
 refine hK.out _ _ ?_ (fun hHeld=>?_)
 ·exact Ah
 clear hK K
 try simp only [zo,mj]
 refine ly 10 ?_;refine zy lg ?_ _;go_wp2;go_ret;exact ⟨s1,rb1,p1,L1,rfl,HQ.out.1,HQ.out.2.1,(lu.of_below (S:=[b]) ab.out.drew).trans HQ.out.2.2 (fun x hx=>.inl hx)⟩
set_option maxHeartbeats 400000 in
theorem BR (w:zd):zi prog 96 #[yx yy 1] w fun e w'=>e=zp (.func (.func 118) #[] #[])∧w=w':=by
 go_enter func96,ntmps96;go_wp2;go_ret;exact ⟨rfl,rfl⟩
set_option maxHeartbeats 400000 in
theorem CZ (w:zd):zi prog 96 #[yx yy 2] w fun e w'=>e=zp (.func (.func 119) #[] #[])∧w=w':=by
 go_enter func96,ntmps96;go_wp2;go_ret;exact ⟨rfl,rfl⟩
set_option maxHeartbeats 400000 in
theorem BT (w:zd):zi prog 96 #[yx yy 3] w fun e w'=>e=zp (.func (.func 120) #[] #[])∧w=w':=by
 go_enter func96,ntmps96;go_wp2;go_ret;exact ⟨rfl,rfl⟩
set_option maxHeartbeats 400000 in
theorem DL (w:zd):zi prog 96 #[yx yy 4] w fun e w'=>e=zp (.func (.func 121) #[] #[])∧w=w':=by
 go_enter func96,ntmps96;go_wp2;go_ret;exact ⟨rfl,rfl⟩
set_option maxHeartbeats 400000 in
theorem BP (w:zd):zi prog 96 #[yx yy 5] w fun e w'=>e=zp (.func (.func 122) #[] #[])∧w=w':=by
 go_enter func96,ntmps96;go_wp2;go_ret;exact ⟨rfl,rfl⟩
set_option maxHeartbeats 400000 in
theorem BM (w:zd):zi prog 96 #[yx yy 6] w fun e w'=>e=zp (.func (.func 123) #[] #[])∧w=w':=by
 go_enter func96,ntmps96;go_wp2;go_ret;exact ⟨rfl,rfl⟩
set_option maxHeartbeats 400000 in
theorem AW (w:zd):zi prog 96 #[yx yy 7] w fun e w'=>e=zp (.func (.func 124) #[] #[])∧w=w':=by
 go_enter func96,ntmps96;go_wp2;go_ret;exact ⟨rfl,rfl⟩
set_option maxHeartbeats 400000 in
theorem DQ (w:zd):zi prog 96 #[yx yy 8] w fun e w'=>e=zp (.func (.func 125) #[] #[])∧w=w':=by
 go_enter func96,ntmps96;go_wp2;go_ret;exact ⟨rfl,rfl⟩
set_option maxHeartbeats 400000 in
theorem uO (k:Int) (hk:¬ (1≤k∧k≤8)) (w:zd):zi prog 96 #[yx yy k] w fun e w'=>e=zp .nilFunc∧w=w':=by
 have q1:(k == 1)=false:=beq_eq_false_iff_ne.2 lf;have q2:(k == 2)=false:=beq_eq_false_iff_ne.2 lf;have q3:(k == 3)=false:=beq_eq_false_iff_ne.2 lf;have q4:(k == 4)=false:=beq_eq_false_iff_ne.2 lf;have q5:(k == 5)=false:=beq_eq_false_iff_ne.2 lf;have q6:(k == 6)=false:=beq_eq_false_iff_ne.2 lf;have q7:(k == 7)=false:=beq_eq_false_iff_ne.2 lf;have q8:(k == 8)=false:=beq_eq_false_iff_ne.2 lf;go_enter func96,ntmps96;go_wp2;go_ret;exact ⟨rfl,rfl⟩
theorem RX (w:zd):(zv .eql 136 (.func (.func 118) #[] #[]) .nilFunc).run prog w=.ok (zf false) w:=lg
theorem RI (w:zd):(zv .eql 136 (.func (.func 119) #[] #[]) .nilFunc).run prog w=.ok (zf false) w:=lg
theorem RD (w:zd):(zv .eql 136 (.func (.func 120) #[] #[]) .nilFunc).run prog w=.ok (zf false) w:=lg
theorem SG (w:zd):(zv .eql 136 (.func (.func 121) #[] #[]) .nilFunc).run prog w=.ok (zf false) w:=lg
theorem QN (w:zd):(zv .eql 136 (.func (.func 122) #[] #[]) .nilFunc).run prog w=.ok (zf false) w:=lg
theorem SC (w:zd):(zv .eql 136 (.func (.func 123) #[] #[]) .nilFunc).run prog w=.ok (zf false) w:=lg
theorem RG (w:zd):(zv .eql 136 (.func (.func 124) #[] #[]) .nilFunc).run prog w=.ok (zf false) w:=lg
theorem RV (w:zd):(zv .eql 136 (.func (.func 125) #[] #[]) .nilFunc).run prog w=.ok (zf false) w:=lg
theorem QX (w:zd):(zv .eql 136 .nilFunc .nilFunc).run prog w=.ok (zf true) w:=lg
set_option maxHeartbeats 800000 in
theorem fM {s:lz} (h:nz T w b s rb p L) (k:Int) {F:FuncId} (ent:∀ (args:Array zq) (w:zd),(Ai F args).run prog w=.ok (.enter F args) w)
 (cm:∀ w:zd,zi prog 96 #[yx yy k] w fun e w'=>e=zp (.func (.func F) #[] #[])∧w=w')
 (cq:∀ w:zd,(zv .eql 136 (.func (.func F) #[] #[]) .nilFunc).run prog w=.ok (zf false) w)
 (i n:Int) (x:ByteArray) {R:mb×Int} (hc:∀ W,Below w w W→zi prog F #[yz (some ⟨b,0,none⟩),(zs #[yx yy k,yx yy i,yx yy n,ze x])] W (nk T W b R)) :
 zi prog 61 #[yz (some ⟨b,0,none⟩),(zs #[yx yy k,yx yy i,yx yy n,ze x])] w (nk T w b R):=by
 obtain ⟨Rs,Re⟩:=R;obtain ⟨wX,hwX,kE,aa,hz⟩:=nu w #[yx yy k,yx yy i,yx yy n,ze x] 50;have cn:=fun W (hW:Below wX wX W)=>oT ((h.later aa).later hW).blk;have cf:=GE true (some ⟨rb,0,none⟩) ⟨#[]⟩ s.m.a s.m.l.length s.m.c s.u.a s.u.l.length s.u.c s.r.a s.r.l.length s.r.c s.o s.g.a s.g.l.length s.g.c;have CN:=yv cn;have CM:=yv cm;have CC:=yv hc;have ac:=yv aa;have KE:=yv kE;obtain ⟨z0,z1,z2,z3,-,-,-,-⟩:=kE.four;clear cn cm kE aa hz h hc;go_enter func61,ntmps61;go_wp2_with fail;refine (CM.out _).mono ?_;rintro e w1 ⟨rfl,rfl⟩;go_wp2_with fail;refine (CN.out _ (Below.refl _ _)).mono ?_;rintro e w1 ⟨rfl,ab⟩;have ad:=yv (ac.out.trans (ab.mono ac.out.size));clear z0 z1 z2 z3 hwX;obtain ⟨z0,z1,z2,z3,-,-,-,-⟩:=(KE.out.onto ab).four;clear ab;go_wp2_with fail;refine (CC.out _ ad.out).mono ?_;rintro e w2 ⟨s1,rb1,p1,L1,rfl,ae,af,ag⟩;have HQ:=yv (zj ae (zj af ag));clear ae af ag z0 z1 z2 z3;go_wp2;go_ret;exact ⟨s1,rb1,p1,L1,rfl,HQ.out.1,HQ.out.2.1,(lu.of_below (S:=[b]) ad.out).trans HQ.out.2.2 (fun x hx=>.inl hx)⟩
set_option maxHeartbeats 800000 in
theorem OL {s:lz} (h:nz T w b s rb p L) (k i n:Int) (x:ByteArray) (hk:¬ (1≤k∧k≤8)) :
 zi prog 61 #[yz (some ⟨b,0,none⟩),(zs #[yx yy k,yx yy i,yx yy n,ze x])] w (nk T w b (s.d,2)):=by
 obtain ⟨wX,hwX,kE,aa,hz⟩:=nu w #[yx yy k,yx yy i,yx yy n,ze x] 50;have cn:=fun W (hW:Below wX wX W)=>oT ((h.later aa).later hW).blk;have cf:=GE true (some ⟨rb,0,none⟩) ⟨#[]⟩ s.m.a s.m.l.length s.m.c s.u.a s.u.l.length s.u.c s.r.a s.r.l.length s.r.c s.o s.g.a s.g.l.length s.g.c;have cq:=QX;have CN:=yv cn;have CM:=yv (uO k hk);have ab:=yv aa;have H:=yv h;obtain ⟨z0,z1,z2,z3,-,-,-,-⟩:=kE.four;clear cn kE aa hz h hk;go_enter func61,ntmps61;go_wp2_with fail;refine (CM.out _).mono ?_;rintro e w1 ⟨rfl,rfl⟩;go_wp2_with fail;refine (CN.out _ (Below.refl _ _)).mono ?_;rintro e w1 ⟨rfl,ac⟩;have ad:=yv (ab.out.trans (ac.mono ab.out.size));clear z0 z1 z2 z3 hwX ac;go_wp2;go_ret;exact ⟨s,rb,p,L,rfl,H.out.later ad.out,rfl,.of_below ad.out⟩
theorem GA {s:lz} (h:nz T w b s rb p L) (k i n:Int) (x:ByteArray) (hi:o8 i) (hx:x.size≤1000000) :
 zi prog 61 #[yz (some ⟨b,0,none⟩),(zs #[yx yy k,yx yy i,yx yy n,ze x])] w (nk T w b (xo s.d k i n x)):=by
 by_cases hk:1≤k∧k≤8
 case neg =>
  have e:xo s.d k i n x=(s.d,2):=by
   unfold xo;rw [if_neg lf,if_neg lf,if_neg lf,if_neg lf,if_neg lf,if_neg lf,if_neg lf,if_neg lf]
  rw [e];exact OL h k i n x hk
 obtain ⟨t,m,u,ro,so,g⟩:=s;have hxm:x.size≤Ab:=ln;rcases (show k=1∨k=2∨k=3∨k=4∨k=5∨k=6∨k=7∨k=8 by omega) with rfl|rfl|rfl|rfl|rfl|rfl|rfl|rfl
 ·show zi _ _ _ w (nk T w b (ur _ i x));refine fM h 1 (fun _ _=>lj) BR RX i n x fun W hW=>?_;by_cases h1:ol t i x=0
  ·exact tG (h.later hW) 1 i n x hx hi h1
  ·have e:ur (lz.d ⟨t,m,u,ro,so,g⟩) i x=(lz.d ⟨t,m,u,ro,so,g⟩,ol t i x):=by unfold ur;exact if_pos h1
   rw [e];exact xE (h.later hW) 1 i n x hx hi h1
 ·show zi _ _ _ w (nk T w b (uu _ i n));refine fM h 2 (fun _ _=>lj) CZ RI i n x fun W hW=>?_;by_cases h1:pc t i n=0
  ·exact tI (h.later hW) 2 i n x hi h1
  ·have e:uu (lz.d ⟨t,m,u,ro,so,g⟩) i n=(lz.d ⟨t,m,u,ro,so,g⟩,pc t i n):=by unfold uu;exact if_pos h1
   rw [e];exact uG (h.later hW) 2 i n x hi h1
 ·show zi _ _ _ w (nk T w b (uo _ i x));refine fM h 3 (fun _ _=>lj) BT RD i n x fun W hW=>?_;have h':=h.later hW;unfold uo;by_cases h1:ng x.data.toList=false
  ·rw [if_pos h1];exact xA h' 3 i n x hxm h1
  rw [if_neg h1];have h1:=aM h1;by_cases h2:i<0∨(t.size:Int)<i
  ·rw [if_pos (show i<0∨((lz.d ⟨t,m,u,ro,so,g⟩).t.size:Int)<i from h2)];rcases h2 with h2|h2
   ·exact tK h' 3 i n x hxm h1 h2
   ·exact qE h' 3 i n x hxm h1 h2
  rw [if_neg (show ¬ (i<0∨((lz.d ⟨t,m,u,ro,so,g⟩).t.size:Int)<i) from h2)];have h3:0≤i∧i≤t.size:=lf;by_cases h4:mg t.data.toList i=false
  ·rw [if_pos (show mg (lz.d ⟨t,m,u,ro,so,g⟩).t.data.toList i=false from h4)];exact tJ h' 3 i n x hxm h1 h3 h4
  rw [if_neg (show ¬ mg (lz.d ⟨t,m,u,ro,so,g⟩).t.data.toList i=false from h4)];have h4:=aM h4;unfold sb;by_cases h5:(qx m.l ⟨x,i⟩).2=0
  ·have e:(qx (lz.d ⟨t,m,u,ro,so,g⟩).m ⟨x,i⟩).2=0:=h5;rw [if_pos e,e];exact zE h' 3 i n x hxm h1 h3 h4 h5
  ·rw [if_neg (show ¬ (qx (lz.d ⟨t,m,u,ro,so,g⟩).m ⟨x,i⟩).2=0 from h5)];exact yK h' 3 i n x hxm h1 h3 h4 h5
 ·show zi _ _ _ w (nk T w b (sy _ x));refine fM h 4 (fun _ _=>lj) DL SG i n x fun W hW=>?_;have h':=h.later hW;unfold sy sb;by_cases h5:(pm m.l x).2=0
  ·have e:(pm (lz.d ⟨t,m,u,ro,so,g⟩).m x).2=0:=h5;rw [if_pos e,e];exact tH h' 4 i n x h5
  ·rw [if_neg (show ¬ (pm (lz.d ⟨t,m,u,ro,so,g⟩).m x).2=0 from h5)];exact tL h' 4 i n x h5
 ·exact fM h 5 (fun _ _=>lj) BP QN i n x fun W hW=>PA (h.later hW) 5 i n x
 ·exact fM h 6 (fun _ _=>lj) BM SC i n x fun W hW=>PQ (h.later hW) 6 i n x
 ·show zi _ _ _ w (nk T w b (tl _));refine fM h 7 (fun _ _=>lj) AW RG i n x fun W hW=>?_;cases so with
  | true=>exact xU (h.later hW) 7 i n x
  | false=>exact vE (h.later hW) 7 i n x
 ·show zi _ _ _ w (nk T w b (ss _));refine fM h 8 (fun _ _=>lj) DQ RV i n x fun W hW=>?_;cases so with
  | false=>exact IX (h.later hW) 8 i n x
  | true =>
   by_cases hg:g.l.length=0
   ·have e:ss (lz.d ⟨t,m,u,ro,true,g⟩)=(⟨t,m.l,mf u.l,mf ro.l,false,[]⟩,0):=by unfold ss;rw [if_neg (fun h=>by cases h),show (lz.d ⟨t,m,u,ro,true,g⟩).g.length=0 from hg];rfl
    rw [e];exact yF (h.later hW) 8 i n x hg
   ·have e:ss (lz.d ⟨t,m,u,ro,true,g⟩)=(⟨t,m.l,np (mf u.l) g.l,mf ro.l,false,[]⟩,0):=by unfold ss;rw [if_neg (fun h=>by cases h),if_neg (show ¬ (lz.d ⟨t,m,u,ro,true,g⟩).g.length=0 from hg)];rfl
    rw [e];exact yY (h.later hW) 8 i n x hg
end Go.Proofs.YtbagenpobcgjnaaGreat
namespace Go.Proofs.YtbagenpobcgjnaaGreat
open Go.Proofs.Tryz
set_option maxRecDepth 100000
open Lib (hid)
open Go.RowKit
set_option linter.unusedVariables false
set_option linter.unusedSimpArgs false
theorem vr.off {base:Nat} {x:qv} (h:vr w base x) (hS:∀ i∈S,i<base):ug S w x∧x.l.length≤x.c∧x.c≤Ab:=by
 obtain ⟨a,c,ev,hr⟩:=tY h;obtain ⟨xa,xl,xc⟩:=x;injection ev with e1 e2 e3;simp only at e1 e3;subst e1;subst e3;exact ⟨⟨hr.row.more fun b hb=>⟨hb.2,fun g=>by have:=hS b g;have:=hb.1;omega⟩,hr.nil⟩,hr.le,hr.cap⟩
theorem tg.off {base:Nat} {x:mo} (h:tg w base x) (hS:∀ i∈S,i<base):su S w x:=by
 obtain ⟨a,c,ev,hr⟩:=dH h;obtain ⟨xa,xl,xc⟩:=x;injection ev with e1 e2 e3;simp only at e1 e3;subst e1;subst e3;exact hr.off hS
theorem th.off {base:Nat} {x:pa} (h:th w base x) (hs:nx w x) (hS:∀ i∈S,i<base):ti S w x:=by
 rcases h with h|⟨g,h1,h2,h3,h4⟩
 ·exact ⟨fun k hk=>absurd hk (by rw [h];simp),fun y hy=>absurd hy (by rw [h];simp),hs.nil,hs.le,hs.cap⟩
 ·refine ⟨fun k hk=>?_,fun y hy=>(h4 y hy).off fun i hi=>by have:=hS i hi;omega,hs.nil,hs.le,hs.cap⟩;obtain ⟨ad,e,hb,q⟩:=hs.row k hk;refine ⟨ad,e,⟨hb,fun gi=>?_⟩,q⟩;rw [h1] at e;cases e;have:=hS _ gi;simp only at this;omega
theorem CopI.off {s s':lz} {b1 b2 b3:Nat} {w':zd} (h:CopI w s s' b1 b2 b3 w') (hS:∀ i∈S,i<w.heap.size):mq S w' s'∧s'.m.l.length≤s'.m.c∧s'.m.c≤Ab:=by
 have l1:=h.l1;have l2:=h.l2;have l3:=h.l3;have hm:=vr.off h.m hS;exact ⟨⟨hm.1,h.u.off h.us fun i hi=>by have:=hS i hi;omega,h.r.off h.rs fun i hi=>by have:=hS i hi;omega,tg.off h.g fun i hi=>by have:=hS i hi;omega⟩,hm.2⟩
structure StaF (s:lz):Prop where
 m:s.m.l.length≤1000
 u:s.u.l.length≤1000
 r:s.r.l.length≤1000
 g:s.g.l.length≤1000
 z:∀ x∈s.u.l++s.r.l,x.l.length≤1000000
theorem mx.few {s:lz} (h:mx s.d):StaF s:=by
 have h1:s.m.l.length≤16:=h.ml;have h2:(mf s.u.l).length≤16:=h.ul.1;have h3:(mf s.r.l).length≤16:=h.rl.1;have h4:s.g.l.length≤32:=h.gl;rw [aC] at h2 h3;refine ⟨lf,lf,lf,lf,fun x hx=>?_⟩;rcases Al.1 hx with hx|hx
 ·exact zh (bL (fun y hy=>(h.ul.2 y hy).2) x hx) li
 ·exact zh (bL (fun y hy=>(h.rl.2 y hy).2) x hx) li
set_option maxHeartbeats 1600000 in
theorem LX {e:Option Aa} {made:Bool} {r:Option Aa} {s:lz} (hn:Nw w e (edN made r ⟨#[]⟩ s.m.a s.m.l.length s.m.c s.u.a s.u.l.length s.u.c s.r.a s.r.l.length s.r.c s.o s.g.a s.g.l.length s.g.c)) (hr:n7 w r p L s.t) (hin:n9 w s) (hf:StaF s) (S:List Nat) (hS:qf S w) :
 zi prog 32 #[yz e] w fun x w'=>∃ s':lz,x=zp s'.v∧s'.d=s.d∧mq S w' s'∧Below w w w':=by
 obtain ⟨wX,hwX,kC,d0,hz⟩:=nu w #[ze ⟨#[]⟩,yw none 0 0,yw none 0 0,yw none 0 0,zf false,yw none 0 0] 26;have ag:=yv (kC);have aa:=yv (d0);have d7:=yv (zr wX);have hsx:∀ W:zd,wX.heap.size≤W→∀ i∈(w.heap.size::S),i<W:=fun W h i hi=>by
  rcases zn.1 hi with rfl|hi
  ·omega
  ·have:=hS i hi;omega
 have cn:=fun W (hW:Below w w W)=>hn.out W hW;have cf:=QT made r ⟨#[]⟩ s.m.a s.m.l.length s.m.c s.u.a s.u.l.length s.u.c s.r.a s.r.l.length s.r.c s.o s.g.a s.g.l.length s.g.c;have cc:=fun W (hW:Below w w W)=>wB ⟨⟨#[]⟩,s.m,s.u,s.r,s.o,s.g⟩ W ⟨(hin.later hW).m,(hin.later hW).u,(hin.later hW).r,(hin.later hW).g⟩ hf.m hf.u hf.r hf.g hf.z;have cr:=fun W (hW:Below w w W)=>AA (hn.later hW);have ct:=fun W (hW:Below w w W)=>nD (hr.later hW);have CN:=yv cn;have CC:=yv cc;have CR:=yv cr;have CT:=yv ct;have ef:=yv hsx;have hzl:w.heap.size<wX:=lf;clear cn cc cr ct hsx d0 kC hz hn hr hin hf hS;obtain ⟨aw,ax,ay,az,a0,a1,a2,a3,a4,a5,a6,a7⟩:=ag.out.all6;go_enter func32,ntmps32;go_wp2_with fail;refine (CN.out _ aa.out).mono ?_;rintro e w1 ⟨rfl,hb⟩;clear aw ax ay az a0 a1 a2 a3 a4 a5 a6 a7;have ah:=yv (ag.out.onto hb);have ab:=yv (aa.out.trans (hb.mono aa.out.size));have ai:=yv (zh d7.out hb.size);clear hb ag aa d7;obtain ⟨a8,a9,ba,bb,bc,bd,be,bf,bg,bh,bi,bj⟩:=ah.out.all6;clear hwX;go_wp2_with fail;refine (CC.out _ ab.out).mono ?_;rintro e w2 ⟨⟨t1,m1,u1,r1,o1,g1⟩,b1,b2,b3,rfl,hci⟩;clear a8 a9 ba bb bc bd be bf bg bh bi bj;have hb:=hci.bel;have hof:=hci.off (S:=w.heap.size::S) (ef.out _ ai.out);have hd:=hci.d;unfold lz.d at hd;injection hd with d1 d2 d3 d4 d5 d6;simp only at d1 d2 d3 d4 d5 d6;subst d1;subst d5;have HD:=yv (zj d2 (zj d3 (zj d4 d6)));clear hci d2 d3 d4 d6;have aj:=yv (ah.out.onto hb);have ak:=yv (ab.out.trans (hb.mono ab.out.size));have al:=yv (zh ai.out hb.size);have ac:=yv hof.1;clear hb hof ah ab ai;obtain ⟨bk,bl,bm,bn,bo,bp,bq,br,bs,bu,bv,bw⟩:=aj.out.all6;replace ac:=yv (ac.out.wide (S':=(w.heap.size::w2::S)) (fun i hi=>by simp only [zn] at hi;rcases hi with rfl|rfl|hi;exact .inl lh;exact .inr (zr _);exact .inl (by simp [hi])));have fr:wX.heap.size≤w2:=al.out;obtain ⟨eg,hwA2,kA,hbA,hzA⟩:=nu w2 #[ze ⟨#[]⟩,yw m1.a m1.l.length m1.c,yw u1.a u1.l.length u1.c,yw r1.a r1.l.length r1.c,zf s.o,yw g1.a g1.l.length g1.c] 26;have am:=yv (aj.out.onto hbA);have d8:=yv (ac.out.later hbA);have ad:=yv (ak.out.trans (hbA.mono ak.out.size));have d9:=yv (zh al.out hbA.size);have an:=yv kA;have ao:w2.heap.size<eg:=lf;have fs:=yv ao;clear kA hbA hzA ao aj ac ak al;obtain ⟨bx,bz,b4,b5,b6,b7,b8,b9,ca,cb,cd,ce⟩:=am.out.all6;obtain ⟨cg,ch,ci,cj,ck,cl,cm,co,cp,cq,cu,cv⟩:=an.out.all6;go_wp2_with fail;refine (CR.out _ ad.out).mono ?_;rintro e w4 ⟨rfl,hb⟩;clear bk bl bm bn bo bp bq br bs bu bv bw hwA2 bx bz b4 b5 b6 b7 b8 b9 ca cb cd ce cg ch ci cj ck cl cm co cp cq cu cv;have aq:=yv (am.out.onto hb);have ar:=yv (an.out.onto hb);have ea:=yv (d8.out.later hb);have ae:=yv (ad.out.trans (hb.mono ad.out.size));have eb:=yv (zh d9.out hb.size);clear hb am an d8 ad d9;obtain ⟨cw,cx,cy,cz,c3,c4,c5,c6,c7,c8,c9,da⟩:=aq.out.all6;obtain ⟨db,dc,dd,de,df,dg,dh,di,dj,dk,dl,dm⟩:=ar.out.all6;go_wp2_with fail;refine (CT.out _ ae.out).mono ?_;rintro e w5 ⟨rfl,hb⟩;clear cw cx cy cz c3 c4 c5 c6 c7 c8 c9 da db dc dd de df dg dh di dj dk dl dm;have au:=yv (aq.out.onto hb);have av:=yv (ar.out.onto hb);have ec:=yv (ea.out.later hb);have ed:=yv (ae.out.trans (hb.mono ae.out.size));have ee:=yv (zh eb.out hb.size);clear hb aq ar ea ae eb;obtain ⟨el,em,en,eo,ep,er,es,et,eu,ev,ew,ey⟩:=au.out.all6;obtain ⟨e0,e3,e4,e5,e6,e7,e8,e9,fa,fb,fc,fd⟩:=av.out.all6;have kD:l6 (w5.setCell ⟨w2,0,none⟩ (ze s.t)) (w2) #[ze s.t,yw m1.a m1.l.length m1.c,yw u1.a u1.l.length u1.c,yw r1.a r1.l.length r1.c,zf s.o,yw g1.a g1.l.length g1.c] 26:=(av.out.set 0 _);have kC:l6 (w5.setCell ⟨w2,0,none⟩ (ze s.t)) (w) #[ze ⟨#[]⟩,yw none 0 0,yw none 0 0,yw none 0 0,zf false,yw none 0 0] 26:=(au.out.other ⟨w2,0,none⟩ (by show w2.heap.size≠w;omega) _);have ap:lu (w::w2::S) w5 (w5.setCell ⟨w2,0,none⟩ (ze s.t)):=(lu.refl (w::w2::S) w5).setCell (p:=⟨w2,0,none⟩) (.inl lh) _;have rF:=ec.out.apart ap;have hB:=((ed.out.setCell (p:=⟨w2,0,none⟩) (by show w.heap.size≤w2;omega) _):Below w w (w5.setCell ⟨w2,0,none⟩ (ze s.t)));have hz:(w5.setCell ⟨w2,0,none⟩ (ze s.t)).heap.size=w5:=lh;obtain ⟨v6,eh⟩:∃ V,(w5.setCell ⟨w2,0,none⟩ (ze s.t))=V:=⟨_,rfl⟩;rw [eh] at kC kD rF hB hz;have ei:=yv kC;have ej:=yv kD;have af:=yv rF;have ek:=yv hB;have ft:=yv (zh ee.out (Ad hz.symm));clear kC kD rF hB hz ap au av ec ed ee;obtain ⟨dn,dp,dq,dr,ds,dt,fe,ff,fg,fh,fi,fj⟩:=ei.out.all6;obtain ⟨du,dv,dw,dx,dy,dz,fk,fm,fn,fo,fp,fq⟩:=ej.out.all6;go_wp2;refine Ag (v:=lz.v ⟨s.t,m1,u1,r1,s.o,g1⟩) (by simp [Aj,results32,go_sem,dn,dp,dq,dr,ds,dt,du,dv,dw,dx,dy,dz]) rfl ?_;have hD:=HD.out;refine ⟨⟨s.t,m1,u1,r1,s.o,g1⟩,rfl,?_,?_,?_⟩
 ·unfold lz.d;simp only [hD.1,hD.2.1,hD.2.2.1,hD.2.2.2]
 ·refine mq.wide (S:=(w.heap.size::w2::S)) (s:=⟨s.t,m1,u1,r1,s.o,g1⟩) (mq.apart (w:=v6) ⟨af.out.m,af.out.u,af.out.r,af.out.g⟩ ?_) (fun i hi=>.inl (by simp [hi]))
  iterate 6 refine lu.setCell ?_ (.inl lh) _
  exact lu.refl _ _
 ·iterate 6 refine Below.setCell ?_ (by show w.heap.size≤w;omega) _
  exact ek.out
set_option maxHeartbeats 1600000 in
theorem pZ (s:lz) (w:zd) (hin:n9 w s) (hz2:sd s) (hri:o0 s=false) :
 zi prog 28 #[s.v] w fun e w'=>e=zp (zw #[yz none,yx yy 5])∧Below w w w':=by
 obtain ⟨wX,hwX,kA,ao,hz⟩:=nu w #[ze s.t,yw s.m.a s.m.l.length s.m.c,yw s.u.a s.u.l.length s.u.c,yw s.r.a s.r.l.length s.r.c,zf s.o,yw s.g.a s.g.l.length s.g.c] 26;have ab:=yv (kA);have aa:=yv (ao);have aq:=yv (Below.refl wX wX);have ar:=yv (zr wX);have cr:=fun W (hW:Below w w W)=>nU s W (hin.later hW) hz2;simp only [hri] at cr;have CR:=yv cr;have hzl:w.heap.size<wX:=lf;clear cr kA ao hz hin hz2 hri;obtain ⟨ac,ad,ae,af,ag,ah,ai,aj,ak,al,am,an⟩:=ab.out.all6;go_enter func28,ntmps28;go_wp2_with fail;refine (CR.out _ aa.out).mono ?_;rintro e w1 ⟨rfl,hb⟩;clear ac ad ae af ag ah ai aj ak al am an;have au:=yv (ab.out.onto hb);have av:=yv (aa.out.trans (hb.mono aa.out.size));have a8:=yv (zh ar.out hb.size);have a9:=yv (aq.out.trans (hb.mono aq.out.size));clear hb ab aa ar;obtain ⟨aw,ax,ay,az,a0,a1,a2,a3,a4,a5,a6,a7⟩:=au.out.all6;go_wp2;go_ret2;exact ⟨rfl,av.out⟩
set_option maxHeartbeats 1600000 in
theorem iQ {T:List Nat} (s:lz) (w:zd) (hT:qf T w) (hin:n9 w s) (hz2:sd s) (hri:o0 s=true) :
 zi prog 28 #[s.v] w fun e w'=>∃ (b:Nat) (s':lz) (rb:Nat) (p:Option Aa) (L:List ByteArray),e=zp (zw #[yz (some ⟨b,0,none⟩),yx yy 0])∧nz T w' b s' rb p L∧s'.d=s.d∧w≤b∧Below w w w':=by
 have hinv:=(gK s).1 hri;have hf:=hinv.few;have hof:ofE s.t=0:=qN hinv.v hinv.z;have HI:=yv hinv;have HT:=yv hT;clear hinv hT;obtain ⟨wX,hwX,kA,bv,hz⟩:=nu w #[ze s.t,yw s.m.a s.m.l.length s.m.c,yw s.u.a s.u.l.length s.u.c,yw s.r.a s.r.l.length s.r.c,zf s.o,yw s.g.a s.g.l.length s.g.c] 26;have ai:=yv (kA);have ae:=yv (bv);have bw:=yv (Below.refl wX wX);have bx:=yv (zr wX);have cr:=fun W (hW:Below w w W)=>nU s W (hin.later hW) hz2;simp only [hri] at cr;have co:=fun W=>(EI s.t (by have:=hz2.t;unfold Ab;omega) W).mono fun e w' h=>h.yes hof;have cc:=fun W (hW:Below w w W)=>wB s W (hin.later hW) hf.m hf.u hf.r hf.g hf.z;have CO:=yv co;have CC:=yv cc;clear co cc hof hf;have CR:=yv cr;have hzl:w.heap.size<wX:=lf;clear cr kA bv hz hin hz2 hri;obtain ⟨au,av,aw,ax,ay,az,a0,a1,a2,a3,a4,a5⟩:=ai.out.all6;go_enter func28,ntmps28;go_wp2_with fail;refine (CR.out _ ae.out).mono ?_;rintro e w1 ⟨rfl,hb⟩;clear au av aw ax ay az a0 a1 a2 a3 a4 a5;have aj:=yv (ai.out.onto hb);have ak:=yv (ae.out.trans (hb.mono ae.out.size));have bz:=yv (zh bx.out hb.size);have b4:=yv (bw.out.trans (hb.mono bw.out.size));clear hb ai ae bx;obtain ⟨a6,a7,a8,a9,ba,bb,bc,bd,be,bf,bg,bh⟩:=aj.out.all6;clear hwX;go_wp2_with fail;refine (CO.out _).mono ?_;rintro e w2 ⟨rb,p,L,rfl,hR,hb⟩;clear a6 a7 a8 a9 ba bb bc bd be bf bg bh;have af:=yv (aj.out.onto hb);have ab:=yv (ak.out.trans (hb.mono ak.out.size));have b5:=yv (zh bz.out hb.size);have b6:=yv (b4.out.trans (hb.mono b4.out.size));have cf:=yv hR;clear hb hR aj ak bz;obtain ⟨bi,bj,bk,bl,bm,bn,bo,bp,bq,br,bs,bu⟩:=af.out.all6;go_wp2_with fail;refine (CC.out _ ab.out).mono ?_;rintro e w3 ⟨⟨t1,m1,u1,r1,o1,g1⟩,b1,b2,b3,rfl,hci⟩;clear bi bj bk bl bm bn bo bp bq br bs bu;have hb:=hci.bel;have hof:=hci.off (S:=w.heap.size::T) (fun i hi=>by rcases zn.1 hi with rfl|hi;exact af.out.lt;exact zu (HT.out i hi) ab.out.size);have hd:=hci.d;unfold lz.d at hd;injection hd with d1 d2 d3 d4 d5 d6;simp only at d1 d2 d3 d4 d5 d6;subst d1;subst d5;have HD:=yv (zj d2 (zj d3 (zj d4 d6)));have ad:=yv hb;clear hci d2 d3 d4 d6;have al:=yv (af.out.onto hb);have am:=yv (ab.out.trans (hb.mono ab.out.size));have an:=yv (zh b5.out hb.size);have b7:=yv (b6.out.trans (hb.mono b6.out.size));have ag:=yv hof.1;have b8:=yv hof.2;clear hb hof af ab b5;obtain ⟨ck,cl,cm,cn,cp,cq,ct,cu,cv,cw,cx,cy⟩:=al.out.all6;replace ag:=yv (ag.out.wide (S':=w.heap.size::w3::T) (pw (zr _)));have el:wX.heap.size≤w3:=an.out;obtain ⟨aa,hwA3,kA,hbA,hzA⟩:=nu w3 #[ze s.t,yw m1.a m1.l.length m1.c,yw u1.a u1.l.length u1.c,yw r1.a r1.l.length r1.c,zf s.o,yw g1.a g1.l.length g1.c] 26;have ao:=yv (al.out.onto hbA);have b9:=yv (ag.out.later hbA);have ca:=yv (am.out.trans (hbA.mono am.out.size));have cb:=yv (zh an.out hbA.size);have em:=yv (b7.out.trans (hbA.mono b7.out.size));have aq:=yv kA;have ar:w3.heap.size<aa:=lf;have en:=yv ar;clear kA hbA hzA ar al ag am an;obtain ⟨cz,c3,c4,c5,c6,c7,c8,c9,da,db,dc,dd⟩:=ao.out.all6;obtain ⟨de,df,dg,dh,di,dj,dk,dl,dm,dn,dp,dq⟩:=aq.out.all6;have ce:=yv (show Below w2.heap.size w2 aa by rw [← hwA3];exact ad.out.alloc ad.out.size _);have kD:l6 (aa.setCell ⟨w3,0,none⟩ (ze ⟨#[]⟩)) (w3) #[ze ⟨#[]⟩,yw m1.a m1.l.length m1.c,yw u1.a u1.l.length u1.c,yw r1.a r1.l.length r1.c,zf s.o,yw g1.a g1.l.length g1.c] 26:=(aq.out.set 0 _);have kA:l6 (aa.setCell ⟨w3,0,none⟩ (ze ⟨#[]⟩)) (w) #[ze s.t,yw s.m.a s.m.l.length s.m.c,yw s.u.a s.u.l.length s.u.c,yw s.r.a s.r.l.length s.r.c,zf s.o,yw s.g.a s.g.l.length s.g.c] 26:=(ao.out.other ⟨w3,0,none⟩ (by show w3.heap.size≠w;omega) _);have ap:lu (w::w3::T) aa (aa.setCell ⟨w3,0,none⟩ (ze ⟨#[]⟩)):=(lu.refl (w::w3::T) aa).setCell (p:=⟨w3,0,none⟩) (.inl lh) _;have rF:=b9.out.apart ap;have hB:=((ca.out.setCell (p:=⟨w3,0,none⟩) (by show w.heap.size≤w3;omega) _):Below w w (aa.setCell ⟨w3,0,none⟩ (ze ⟨#[]⟩)));have hz:(aa.setCell ⟨w3,0,none⟩ (ze ⟨#[]⟩)).heap.size=aa:=lh;obtain ⟨v5,cd⟩:∃ V,(aa.setCell ⟨w3,0,none⟩ (ze ⟨#[]⟩))=V:=⟨_,rfl⟩;rw [cd] at kA kD rF hB hz;have cg:=yv kA;have ch:=yv kD;have ci:=yv rF;have ac:=yv hB;have eo:=yv (zh cb.out (Ad hz.symm));clear kA kD rF hB hz ap ao aq b9 ca cb;obtain ⟨dr,ds,dt,du,dv,dw,dx,dy,dz,d0,d7,d8⟩:=cg.out.all6;obtain ⟨d9,ea,eb,ec,ed,ee,ef,eg,eh,ei,ej,ek⟩:=ch.out.all6;have cj:=yv (cf.out.later (show Below w2.heap.size w2 v5 by rw [← cd];exact ce.out.setCell (p:=⟨w3,0,none⟩) ad.out.size _));obtain ⟨wE,hwE,kE,hbE,hzE⟩:=nu v5 #[zf true,yz (some ⟨rb,0,none⟩),ze ⟨#[]⟩,yw m1.a m1.l.length m1.c,yw u1.a u1.l.length u1.c,yw r1.a r1.l.length r1.c,zf s.o,yw g1.a g1.l.length g1.c] 100;have KE:=yv kE;have ah:=yv hbE;clear kE hbE hzE;go_wp2;go_ret2;have hD:=HD.out;refine ⟨v5,⟨s.t,m1,u1,r1,s.o,g1⟩,rb,p,L,rfl,⟨KE.out,cj.out.later ah.out,(ci.out.wide (S':=v5.heap.size::T) (fun i hi=>by rcases zn.1 hi with rfl|hi;exact .inr (zr _);exact .inl (by simp [hi]))).later ah.out |> fun h=>⟨h.m,h.u,h.r,h.g⟩,b8.out.1,b8.out.2,?_,fun i hi=>zu (HT.out i hi) (ac.out.trans (ah.out.mono ac.out.size)).size⟩,?_,ac.out.size,ac.out.trans (ah.out.mono ac.out.size)⟩
 ·rw [show lz.d ⟨s.t,m1,u1,r1,s.o,g1⟩=s.d by unfold lz.d;simp only [hD.1,hD.2.1,hD.2.2.1,hD.2.2.2]];exact HI.out
 ·unfold lz.d;simp only [hD.1,hD.2.1,hD.2.2.1,hD.2.2.2]
attribute [local go_sem] Oper.semAt_some
structure vn (b n:Nat) (A B:zd):Prop where
 os:B.os=A.os
 tape:B.tape=A.tape
 output:B.output=A.output
 size:A.heap.size≤B
 block:∀ k,k<n→k≠b→k<A.heap.size→B.heap[k]? = A.heap[k]?
section
variable {b n l : Nat} {A B C : World}
theorem vn.of_below (h:Below A A B):vn b n A B:=⟨h.os,h.tape,h.output,h.size,fun k _ _ hk=>h.block k hk⟩
theorem vn.of_apart (h:lu S A B) (hS:∀ x∈S,x=b∨n≤x):vn b n A B:=⟨h.os,h.tape,h.output,h.size,fun k h1 h2 h3=>h.block k h3 fun g=>by rcases hS k g with e|e <;> omega⟩
theorem vn.trans (h:vn b n A B) (k:vn b n B C):vn b n A C:=⟨k.os.trans h.os,k.tape.trans h.tape,k.output.trans h.output,zh h.size k.size,fun i h1 h2 h3=>(k.block i h1 h2 (zu h3 h.size)).trans (h.block i h1 h2 h3)⟩
theorem vn.put (h:n≤l) (o:Obj):vn b n A (A.putObj l o):=⟨rfl,rfl,rfl,lh,fun k h1 _ _=>Am lf⟩
theorem vn.set (h:n≤l∨l=b) (v:zq):vn b n A (A.setCell ⟨l,0,none⟩ v):=⟨rfl,rfl,rfl,by rw [Aq];exact zr _,fun k h1 h2 _=>Below.heap_setCell _ _ _ k (by show k≠l;omega)⟩
end
def po (T:List Nat) (b:Nat) (d:mb) (A:zd):Prop:=∃ (s:lz) (rb:Nat) (p:Option Aa) (L:List ByteArray),nz T A b s rb p L∧s.d=d
theorem po.later {T:List Nat} {d:mb} {B:zd} (h:po T b d A) (hb:Below A A B):po T b d B:=by
 obtain ⟨s,rb,p,L,hi,hd⟩:=h;exact ⟨s,rb,p,L,hi.later hb,hd⟩
theorem po.mild {T:List Nat} {d:mb} {B:zd} (h:po T b d A) (hS:∀ x∈S,x∈T) (hb:b ∉ S) (hm:oi S A B):po T b d B:=by
 obtain ⟨s,rb,p,L,hi,hd⟩:=h;exact ⟨s,rb,p,L,hi.mild hS hb hm,hd⟩
theorem po.less {T T':List Nat} {d:mb} (h:po T b d A) (hT:∀ x∈T',x∈T):po T' b d A:=by
 obtain ⟨s,rb,p,L,hi,hd⟩:=h;exact ⟨s,rb,p,L,hi.less hT,hd⟩
theorem po.grow {T T':List Nat} {d:mb} {B:zd} (h:po T b d A) (hb:Below A A B) (hT:∀ x∈T',x∈T∨A.heap.size≤x) (hz:∀ x∈T',x<B.heap.size):po T' b d B:=by
 obtain ⟨s,rb,p,L,hi,hd⟩:=h;exact ⟨s,rb,p,L,hi.grow hb hT hz,hd⟩
theorem po.lt {T:List Nat} {d:mb} (h:po T b d A):b<A:=by
 obtain ⟨s,rb,p,L,hi,hd⟩:=h;exact hi.lt
theorem po.put {T:List Nat} {d:mb} {o:Obj} (h:po T b d A) (hl:A.heap[l]? = some o) (ho:o.isCells=false) (o':Obj):po T b d (A.putObj l o'):=by
 obtain ⟨s,rb,p,L,hi,hd⟩:=h;exact ⟨s,rb,p,L,hi.put hl ho o',hd⟩
theorem po.firm (T:List Nat) (b:Nat) (d:mb) (l:Nat):Firm l (po T b d):=⟨fun A B h hb=>h.later hb,fun A r r' h hl=>h.put hl rfl _⟩
theorem Firm.ex {ι:Sort _} {K:ι→zd→Prop} (h:∀ i,Firm l (K i)):Firm l (fun w=>∃ i,K i w):=⟨fun A B ⟨i,p⟩ b=>⟨i,(h i).below A B p b⟩,fun A r r' ⟨i,p⟩ q=>⟨i,(h i).put A r r' p q⟩⟩
theorem Firm.box (l b:Nat) (t:Ae) (v:zq):Firm l (fun A=>zk A b t v):=⟨fun A B h hb=>(hb.block b h.lt).trans h,fun A r r' h hl=>dX hl _ h⟩
theorem Firm.blk (l b:Nat) (cs:Array zq) (t:Ae):Firm l (fun A=>l6 A b cs t):=⟨fun A B h hb=>h.onto hb,fun A r r' h hl=>dX hl _ h⟩
abbrev xq (x:Nat×Int):Array zq:=#[yx yy x.1,yx yy x.2]
def YS (T:List Nat) (b:Nat) (d:mb) (xs:List (oo×Int)) (s:Nat×Int) (x:Nat×Int) (s':Nat×Int) (A:zd):Prop:=
 (s.2=0∧s'.2=x.2)∧((x.2=0∧x.1=s.1∧s'.1=s.1+1∧s.1≤(pk d xs).2.1)∨(x.2≠0∧s.1=x.1+1∧s'.1=s.1∧x.1=(pk d xs).2.1))∧∃ t,(x.2=0→wz d xs s.1 t)∧po T b t A
theorem YS.firm (T:List Nat) (b:Nat) (d:mb) (xs:List (oo×Int)) (l:Nat) (s x s':Nat×Int):Firm l (YS T b d xs s x s'):=(Firm.const l _).both ((Firm.const l _).both (Firm.ex fun t=>(Firm.const l _).both (po.firm T b t l)))
theorem pT (b gf:Nat) (lb:Array zq) (w:zd):zi prog 33 #[yz (some ⟨b,0,none⟩),.func (.func gf) #[] lb] w fun e w' =>
 e=zp (.func (.func 60) #[] #[yz (some ⟨w+1,0,none⟩),yz (some ⟨w,0,none⟩)])∧w'=(w.alloc (.cells #[yz (some ⟨b,0,none⟩)] 67)).alloc (.cells #[.func (.func gf) #[] lb] 57):=by
 have hmf:∀ (fn:Fn) (first cap:Array zq) (w:zd),(Instr.makeFunc fn first cap).run prog w=.ok (.func fn first cap) w:=fun _ _ _ _=>rfl;go_enter func33,ntmps33;go_wp2;go_ret;exact ⟨rfl,rfl⟩
def StJ (T:List Nat) (l b N n be:Nat) (d:mb) (xs:List (oo×Int)) (J:Nat×Int→zd→Prop) (k:Nat) (A:zd):Prop:=
 J (k+1,0) A∧(∃ t,wz d xs k t∧po ((N+1)::T) b t A)∧zk A N 104 (.func (.yield l) #[] #[])∧zk A (N+1) 3 (yx yy k)∧zk A be 67 (yz (some ⟨b,0,none⟩))∧n≤A
def StX (T:List Nat) (b:Nat) (d:mb) (xs:List (oo×Int)) (J:Nat×Int→zd→Prop) (Jx:zd→Prop) (c:Code) (A:zd):Prop:=
 c=.ret∧((J ((pk d xs).2.1+1,(pk d xs).2.2) A∧po T b (pk d xs).1 A)∨Jx A)
theorem StJ.firm {T:List Nat} {N n:Nat} {d:mb} {xs:List (oo×Int)} {J:Nat×Int→zd→Prop} (hJ:∀ s A B,J s A→vn b N A B→J s B) (lp:Nat) (hlp:N≤lp) (k:Nat):Firm lp (StJ T l b N n be d xs J k):=
 Firm.both ⟨fun A B h hb=>hJ _ _ _ h (.of_below hb),fun A r r' h _=>hJ _ _ _ h (.put hlp _)⟩ <| (Firm.ex fun t=>(Firm.const lp _).both (po.firm _ _ _ lp)).both <| (Firm.box lp _ _ _).both <| (Firm.box lp _ _ _).both <| (Firm.box lp _ _ _).both ⟨fun A B h hb=>zh h hb.size,fun A r r' h _=>by rw [Ar];exact h⟩
theorem StX.firm {T:List Nat} {N:Nat} {d:mb} {xs:List (oo×Int)} {J:Nat×Int→zd→Prop} {Jx:zd→Prop} (hJ:∀ s A B,J s A→vn b N A B→J s B) (hJx:∀ A B,Jx A→vn b N A B→Jx B) (lp:Nat) (hlp:N≤lp) (c:Code):Firm lp (StX T b d xs J Jx c):=
 (Firm.const lp _).both ⟨fun A B h hb=>h.elim (fun g=>.inl ⟨hJ _ _ _ g.1 (.of_below hb),g.2.later hb⟩) (fun g=>.inr (hJx _ _ g (.of_below hb))),fun A r r' h hl=>h.elim (fun g=>.inl ⟨hJ _ _ _ g.1 (.put hlp _),g.2.put hl rfl _⟩) (fun g=>.inr (hJx _ _ g (.put hlp _)))⟩
def StF (l bo be N gf:Nat) (lb:Array zq) (x:oo×Int) (a:Act) (A:zd):Prop:=∃ bx:Nat,a={ tmps:=#[.func (.yield l) #[] #[],yz (some ⟨bo,0,none⟩),yz (some ⟨be,0,none⟩),yz (some ⟨N,0,none⟩),yz (some ⟨N+1,0,none⟩),yz (some ⟨bx,0,none⟩),yx yy x.2,.func (.yield l) #[] #[],yx yy 0,zf true,zf false,.func (.func gf) #[] lb,zs #[yx yy x.1.k,yx yy x.1.a,yx yy x.1.n,ze x.1.s],yx yy x.2,zm,zm,zm,zm,zm,zm,zm,zm,zm,zm,zm,zm,zm,zm,zm,zm,zm,zm],defers:=[] }∧l6 A bx #[yx yy x.1.k,yx yy x.1.a,yx yy x.1.n,ze x.1.s] 50
theorem StF.firm (lp l bo be N gf:Nat) (lb:Array zq) (x:oo×Int) (a:Act):Firm lp (StF l bo be N gf lb x a):=Firm.ex fun bx=>(Firm.const lp _).both (Firm.blk lp _ _ _)
theorem rf.int {t:Ae} {v:Int} (h:zk A b t (yx yy v)) (ht:t≠212):rf A b:=.of h ht (fun p h=>by simp at h)
theorem po.plain {T:List Nat} {d:mb} (h:po T b d A):rf A b:=by
 obtain ⟨s,rb,p,L,hi,hd⟩:=h;exact .of hi.blk li (fun p h=>by simp at h)
theorem oi.one {t:Ae} {v:Int} (h:zk A b t (yx yy v)) (ht:t≠212) (u:zq):oi [b] A (A.setCell ⟨b,0,none⟩ u):=⟨(lu.refl _ _).setCell (.inl lh) u,fun x hx=>by rw [An.1 hx];exact .inl (.int h ht)⟩
set_option maxHeartbeats 1600000 in
theorem ON {T:List Nat} {bo:Nat} {d:mb} (h:po T b d w) {xs:List (oo×Int)} {gf:Nat} {lb:Array zq} {D:Nat→Prop} (ho:vc gf lb xs D w) (eg:∀ args w,(Ai gf args).run prog w=.ok (.enter gf args) w)
 (h1:zk w bo 57 (.func (.func gf) #[] lb)) (h2:zk w be 67 (yz (some ⟨b,0,none⟩))) (hbe:be≠b) (hfit:∀ x∈xs,o8 x.1.a∧x.1.s.size≤1000000) (hlen:xs.length≤1000000) (hlb:¬ D b) (hlo:∀ k,D k→k<w.heap.size)
 (hST:∀ x∈S,x∈T) (hSz:∀ x∈T,x<w.heap.size) (hSb:b ∉ S) (hSe:be ∉ S) (hSo:bo ∉ S) (hSlo:∀ x∈S,¬ D x) (hinv:mx d) (m l:Nat) :
 yh prog m l 60 #[yz (some ⟨bo,0,none⟩),yz (some ⟨be,0,none⟩)] xq (YS T b d xs) (po T b (pk d xs).1) (vn b w) S (0,0) ((pk d xs).2.1+1,(pk d xs).2.2) w:=by
 intro J Jx hJ hJx hY h0;obtain ⟨W2,an,kA,kB,af,ba⟩:=vk w #[.func (.yield l) #[] #[]] #[yx yy 0] 104 3;have ay:=h.grow (T':=(w.heap.size+1)::T) af (fun x hx=>by rcases zn.1 hx with rfl|hx;exact .inr lf;exact .inl hx) (fun x hx=>by rcases zn.1 hx with rfl|hx;omega;have:=hSz x hx;omega);have hlt:=h.lt;have hy:=hY (0,0) (0,0) (1,0) W2 ⟨⟨rfl,rfl⟩,.inl ⟨rfl,rfl,rfl,Nat.zero_le _⟩,d,fun _=>wz.zero d xs,h.later af⟩ (hJ _ _ _ h0 (.of_below af));have q1:zk W2 bo _ _:=(af.block bo h1.lt).trans h1;have q2:zk W2 be _ _:=(af.block be h2.lt).trans h2;have b2:=h2.lt;have hSN:∀ x∈S,x<w.heap.size:=fun x hx=>by have:=hSz x (hST x hx);omega
 obtain ⟨fn,tmps,assign,body,hyr,hR⟩:=dL hy;rw [show xq (0,0)=#[yx yy 0,yx yy 0] from rfl,← an] at hyr;have HR:=yv hR;have bb:=yv an;have HY:=yv hY;have HJ:=yv hJ;have ao:=yv hJx;have am:=yv hST;have ak:=yv hSN;have aq:=yv hSlo;have az:=yv ay;have a0:=yv af;have HO:=yv ho;have a6:=yv hfit;have KA:zk W2 w _ _:=kA;have KB:zk W2 (w+1) _ _:=kB;have k3:=KA.cell;have k4:=KB.cell;have Q:=yv (zj KA (zj KB (zj q1 q2)));clear hy hR an hY hJ hJx h0 hST hSN hSlo h ay af ho hfit KA KB kA kB q1 q2 h1 h2 hSz;refine Au func60 rfl trivial ?_ rfl;simp only [ntmps60,Av,Aw,Ax,Nat.reduceAdd,Nat.reduceSub,Ay,Az,A0,A3,A4,A5]
 gi_wp2_with fail
 rw [bb.out];refine ⟨fun e=>(by cases e),(HR.out none _).mono ?_⟩;rintro e V (⟨rfl,a2,ag⟩|⟨rfl,bc,ag⟩)
 case inr =>
  gi_wp2
  exact ⟨_,Ao rfl _ _ _,⟨_,rfl⟩,.inr bc⟩
 have hoff:∀ k,k ∉ S→k<w.heap.size+1+1→V.heap[k]? = W2.heap[k]? :=fun k h1 h2=>ag.apart.block k lf h1;obtain ⟨KA,KB,q1,q2⟩:=Q.out;have p3:zk V w _ _:=(hoff w (fun g=>by have:=ak.out _ g;omega) lf).trans KA;have p4:zk V (w+1) _ _:=(hoff (w+1) (fun g=>by have:=ak.out _ g;omega) lf).trans KB;have p2:zk V be _ _:=(hoff be hSe lf).trans q2;have p1:zk V bo _ _:=(ag.apart.block bo q1.lt hSo).trans q1;have hzV:=ag.apart.size;have hed:=az.out.mild (S:=S) (fun x hx=>zt _ (am.out x hx)) hSb ag;have hbV:te D w V:=(te.of_below a0.out).trans (.of_apart ag.apart aq.out);have k1:=p1.cell;have J0:=yv (show StJ T l b w.heap.size V.heap.size be d xs J 0 V from ⟨a2,⟨d,wz.zero d xs,hed⟩,p3,p4,p2,zr _⟩);have bd:=yv hbV;clear a2 ag hoff KA KB q1 q2 p1 p2 p3 p4 hed hbV HR Q a0 az k3 k4
 gi_wp2_with fail
 have hSi:∀ x∈b::(w.heap.size+1)::S,x<V∧¬ D x:=fun x hx=>by
  simp only [zn] at hx;rcases hx with rfl|rfl|hx
  ·exact ⟨lf,hlb⟩
  ·exact ⟨lf,fun h=>by have:=hlo _ h;omega⟩
  ·have h1:=ak.out x hx;exact ⟨lf,aq.out x hx⟩
 have a3:=yv hSi;clear hSi;refine dU (gf:=gf) (lb:=lb) (encs:=encO) (Y:=YO xs) (E:=fun _=>True) (R:=fun A B=>Below A A B) (S:=b::(w.heap.size+1)::S) (s0:=0) (s1:=xs.length) rfl eg (fun x hx=>(a3.out x hx).1)
  (fun W1 hb hz=>HO.out W1 (m - 1) (V+1) _ (bd.out.trans (.of_below hb)) (fun x hx=>by
   rcases zn.1 hx with rfl|hx
   ·exact fun h=>by have:=hlo _ h;omega
   ·exact (a3.out x hx).2))
  (fun A B h hz=>⟨h.size,fun k h1 h2=>h.block k lf⟩) (fun _=>rfl)
  (StJ T l b w V be d xs J) (StX T b d xs J Jx) (fun s A B h hz hb=>(StJ.firm HJ.out (V+1) lf s).below A B h hb) (fun c A B h hz hb=>(StX.firm HJ.out ao.out (V+1) lf c).below A B h hb)
  (StJ.firm HJ.out _ lf) (StX.firm HJ.out ao.out _ lf) (fun s x s'=>YO.firm xs _ _ _ _) (Firm.triv _) J0.out
  (StF l bo be w gf lb) (StF.firm _ l bo be w gf lb) ?assign ?body ?done ?stop
 case assign =>
  intro l' x W K hK
  gi_wp2
  exact hK _ _ (ni _ _) ⟨_,rfl,l6.new _ _ _⟩
 case body =>
  rintro l' k x k' A a1 hzA ⟨hk,hx,rfl⟩ ⟨j0,⟨t,hat,hed⟩,p3,p4,p2,hz⟩ ⟨bx,rfl,kx⟩;have hfit:=a6.out xs[k] (List.getElem_mem hk);have hst:=hat.step hk;have hno:=hat.no hk;rw [← hx] at hfit hst hno;obtain ⟨⟨xk,xa,xn,xs'⟩,xe⟩:=x;simp only at hfit kx;have hpl:=hed.plain;have bh:=yv hat;have ar:=yv hpl;have au:=yv hed;have J1:=yv j0;have P:=yv (zj p3 (zj p4 p2));have x0:=kx.cell 0 _ rfl;have x1:=kx.cell 1 _ rfl;have x2:=kx.cell 2 _ rfl;have x3:=kx.cell 3 _ rfl;have k3:=p3.cell;have k4:=p4.cell;have k2:=p2.cell;clear hx hat hpl j0 p3 p4 p2 kx;by_cases hxe:xe=0
  ·subst hxe;obtain ⟨s,rb,p,L,hi,hd⟩:=hed;have cd:=GA hi xk xa xn xs' hfit.1 hfit.2;rw [hd] at cd;have hr:qw t (⟨xk,xa,xn,xs'⟩,0)=xo t xk xa xn xs':=rfl;rw [hr] at hst hno;have hdn:=ST (s:=t) (k:=xk) (i:=xa) (n:=xn) (x:=xs');generalize xo t xk xa xn xs'=r at cd hst hno hdn;obtain ⟨rs,re⟩:=r;simp only at hst hno hdn;have CD:=yv cd;have a7:=yv hst;have bf:=yv hno;have bg:=yv hdn;clear cd hst hno hi hd hdn
   gi_wp2_with fail
   refine ⟨trivial,fun e=>(by cases e),(Ak.2 CD.out).mono ?_⟩;rintro e B ⟨s2,rb2,p2',L2,rfl,a4,a5,ad⟩;have ah:po ((w.heap.size+1)::T) b rs B:=⟨s2,rb2,p2',L2,a4,a5⟩;obtain ⟨p3,p4,p2⟩:=P.out;have hab:∀ {i:Nat} {t:Ae} {v:zq},zk A i t v→i≠b→zk B i t v:=fun h hi=>(ad.block _ h.lt (by simpa using hi)).trans h;have r3:=hab p3 lf;have r4:=hab p4 lf;have r2:=hab p2 hbe;have hzB:=ad.size;have k3:=r3.cell;have k4:=r4.cell;have f4:=r4.frozen;clear k2 x0 x1 x2 x3 CD a4 a5;by_cases hre:re=0
   ·subst hre;have hmo:=oi.one r4 li (yx yy ((k:Int)+1));have s4:=r4.set (yx yy ((k:Int)+1));have s3:=r3.other (show w.heap.size≠w+1 by omega) (yx yy ((k:Int)+1));have s2:=r2.other (show be≠w+1 by omega) (yx yy ((k:Int)+1));have ai:=ah.mild (S:=[w.heap.size+1]) lh lq hmo;have jC:=HJ.out _ _ _ J1.out ((vn.of_apart (b:=b) (n:=w.heap.size) ad lh).trans (vn.set (l:=w.heap.size+1) (.inl lf) (yx yy ((k:Int)+1))));obtain ⟨C,hC⟩:∃ C,zg B ⟨w+1,0,none⟩ (yx yy ((k:Int)+1))=C:=⟨_,rfl⟩;rw [hC] at hmo s4 s3 s2 ai jC;have aj:=a7.out rfl;have hy:=HY.out (k+1,0) (k+1,0) (k+2,0) C ⟨⟨rfl,rfl⟩,.inl ⟨rfl,rfl,rfl,aj.most⟩,rs,fun _=>aj,ai.less (fun x hx=>zt _ hx)⟩ jC;obtain ⟨fn,tmps,assign,body,hyr,hR⟩:=dL hy;have HR:=yv hR;rw [show xq (k+1,0)=#[yx yy ((k:Int)+1),yx yy 0] from rfl] at hyr;have g3:=s3.cell;have g4:=s4.cell;have HC:=yv hC;have HM:=yv (show oi [b,w.heap.size+1] A C from oi.join (S:=[b]) ⟨ad,fun x hx=>by rw [An.1 hx];exact .inl ar.out⟩ hmo);have PC:=yv (zj s3 (zj s4 s2));have a8:=yv ai;have a9:=yv aj;rw [← hC] at hyr g3 g4;have hzC:A.heap.size≤C:=by rw [← hC,Aq];exact hzB
    clear hC hy hR hmo s4 s3 s2 ai jC aj r3 r4 r2 ah ad p3 p4 p2 hab
    gi_wp2_with fail
    rw [HC.out];refine ⟨fun e=>(by cases e),(HR.out (some l') _).mono ?_⟩;rintro e D (⟨rfl,ab,aa⟩|⟨rfl,ae,aa⟩)
    ·have hCD:∀ {i:Nat} {t:Ae} {v:zq},zk C i t v→i ∉ S→zk D i t v:=fun h hi=>(aa.apart.block _ h.lt hi).trans h;obtain ⟨s3,s4,s2⟩:=PC.out;have HF:=yv (show oi (b::(w.heap.size+1)::S) A D∧StJ T l b w V be d xs J (k+1) D from ⟨HM.out.join aa,ab,⟨rs,a9.out,a8.out.mild (fun x hx=>zt _ (am.out x hx)) hSb aa⟩,hCD s3 (fun g=>by have:=ak.out _ g;omega),hCD s4 (fun g=>by have:=ak.out _ g;omega),hCD s2 hSe,by have:=aa.apart.size;omega⟩);clear ab aa HR hCD s3 s4 s2
     gi_wp2
     exact HF.out
    ·have HF:=yv (zj ae (HM.out.join aa));clear ae aa HR
     gi_wp2
     exact ⟨HF.out.2,rfl,.inr HF.out.1⟩
   ·obtain rfl:t=rs:=(bg.out hre).symm;have hrun:=bf.out hre;have hedB:=ah;have hmB:oi [b,w.heap.size+1] A B:=⟨ad.more lh,fun x hx=>by
     simp only [zn,zz,or_false] at hx;rcases hx with rfl|rfl
     ·exact .inl ar.out
     ·exact .inl (.int p4 li)⟩
    have jB:=HJ.out _ _ _ J1.out (vn.of_apart (b:=b) (n:=w.heap.size) ad lh);clear ah ad hab r3 r4 r2 p3 p4 p2;have hedT:=hedB.less (T':=T) (fun x hx=>zt _ hx);have hy:=HY.out (k+1,0) (k,re) (k+1,re) B ⟨⟨rfl,rfl⟩,.inr ⟨hre,rfl,rfl,by rw [hrun]⟩,t,(fun h=>absurd h hre),hedT⟩ jB;obtain ⟨fn,tmps,assign,body,hyr,hR⟩:=dL hy;have HR:=yv hR;have ac:=yv hrun;have al:=yv hmB;have av:=yv hedB;have e1:(re != 0)=true:=by simp [hre]
    have e0:(re == 0)=false:=by simp [hre]
    dsimp only [xq] at hyr;clear hy hR hrun hedT hmB hedB jB
    gi_wp2_with fail
    refine ⟨fun e=>(by cases e),(HR.out (some l') _).mono ?_⟩;rintro e D (⟨rfl,ab,aa⟩|⟨rfl,ae,aa⟩)
    ·have HF:=yv (zj ab (zj (av.out.mild (fun x hx=>zt _ (am.out x hx)) hSb aa) ((oi.join (S:=[b,w.heap.size+1]) al.out aa))));clear ab aa HR
     gi_wp2
     obtain ⟨ab,aw,ax⟩:=HF.out;exact ⟨ax,rfl,.inl ⟨by rw [ac.out];exact ab,by rw [ac.out];exact aw.less (fun x hx=>zt _ hx)⟩⟩
    ·have HF:=yv (zj ae ((oi.join (S:=[b,w.heap.size+1]) al.out aa)));clear ae aa HR
     gi_wp2
     exact ⟨HF.out.2,rfl,.inr HF.out.1⟩
  ·obtain ⟨p3,p4,p2⟩:=P.out;have hre:=hxe;have hstp:qw t (⟨xk,xa,xn,xs'⟩,xe)=(t,xe):=if_neg hxe;have hrun:=hno (by rw [hstp];exact hxe);rw [hstp] at hrun;have hedB:=au.out;have hmB:oi [b,w.heap.size+1] A A:=⟨lu.refl _ _,fun x hx=>by
    simp only [zn,zz,or_false] at hx;rcases hx with rfl|rfl
    ·exact .inl ar.out
    ·exact .inl (.int p4 li)⟩
   have jB:=J1.out;clear p3 p4 p2 hst hno hstp hed;have hedT:=hedB.less (T':=T) (fun x hx=>zt _ hx);have hy:=HY.out (k+1,0) (k,xe) (k+1,xe) A ⟨⟨rfl,rfl⟩,.inr ⟨hre,rfl,rfl,by rw [hrun]⟩,t,(fun h=>absurd h hre),hedT⟩ jB;obtain ⟨fn,tmps,assign,body,hyr,hR⟩:=dL hy;have HR:=yv hR;have ac:=yv hrun;have al:=yv hmB;have av:=yv hedB;have e1:(xe != 0)=true:=by simp [hre]
   have e0:(xe == 0)=false:=by simp [hre]
   dsimp only [xq] at hyr;clear hy hR hrun hedT hmB hedB jB
   gi_wp2_with fail
   refine ⟨fun e=>(by cases e),(HR.out (some l') _).mono ?_⟩;rintro e D (⟨rfl,ab,aa⟩|⟨rfl,ae,aa⟩)
   ·have HF:=yv (zj ab (zj (av.out.mild (fun x hx=>zt _ (am.out x hx)) hSb aa) ((oi.join (S:=[b,w.heap.size+1]) al.out aa))));clear ab aa HR
    gi_wp2
    obtain ⟨ab,aw,ax⟩:=HF.out;exact ⟨ax,rfl,.inl ⟨by rw [ac.out];exact ab,by rw [ac.out];exact aw.less (fun x hx=>zt _ hx)⟩⟩
   ·have HF:=yv (zj ae ((oi.join (S:=[b,w.heap.size+1]) al.out aa)));clear ae aa HR
    gi_wp2
    exact ⟨HF.out.2,rfl,.inr HF.out.1⟩
 case done =>
  rintro D' W hD hz ⟨j0,⟨t,hat,hed⟩,p3,p4,p2,ba⟩ - hK;have hrun:=hat.done rfl;have J1:=yv j0;have au:=yv hed;have ac:=yv hrun;clear j0 hat hed hrun p3 p4 p2
  gi_wp2
  refine aO hK (Ao rfl _ _ _) ⟨⟨_,rfl⟩,.inl ⟨?_,?_⟩⟩
  ·rw [ac.out];exact HJ.out _ _ _ J1.out (.put lf _)
  ·rw [ac.out];exact (au.out.less (fun x hx=>zt _ hx)).put hK rfl _
 case stop =>
  rintro D' c W hD hz ⟨rfl,hs⟩ hK;have HS:=yv hs;clear hs
  gi_wp2
  refine aO hK (Ao rfl _ _ _) ⟨⟨_,rfl⟩,?_⟩;rcases HS.out with ⟨hj,he⟩|hx
  ·exact .inl ⟨HJ.out _ _ _ hj (.put lf _),he.put hK rfl _⟩
  ·exact .inr (ao.out _ _ hx (.put lf _))
def wk:lz:=⟨⟨#[]⟩,⟨none,[],0⟩,⟨none,[],0⟩,⟨none,[],0⟩,false,⟨none,[],0⟩⟩
theorem OV (w:zd):n9 w wk:=⟨uv.empty w,nx.empty w,nx.empty w,o4.empty w⟩
theorem QS:sd wk:=⟨li,li,fun x hx=>absurd hx (by simp [wk]),li,li,fun x hx=>by
 have:x=⟨none,[],0⟩:=by simpa [lz.rows,wk] using hx
 subst this;exact ⟨li,fun y hy=>absurd hy lh⟩⟩
theorem EL:o0 wk=true:=(gK wk).2 OY
theorem nz.nw {T:List Nat} {s:lz} (h:nz T w b s rb p L):Nw w (some ⟨b,0,none⟩) (edN true (some ⟨rb,0,none⟩) ⟨#[]⟩ s.m.a s.m.l.length s.m.c s.u.a s.u.l.length s.u.c s.r.a s.r.l.length s.r.c s.o s.g.a s.g.l.length s.g.c):=Nw.some h.blk
theorem nz.state {T:List Nat} {s:lz} (h:nz T w b s rb p L) (S:List Nat) (hS:qf S w) :
 zi prog 32 #[yz (some ⟨b,0,none⟩)] w fun x w'=>∃ s':lz,x=zp s'.v∧s'.d=s.d∧mq S w' s'∧Below w w w':=LX h.nw h.rope h.rows.in h.inv.few S hS
attribute [local go_sem] Oper.semAt_some
def wa (s:lz) (xs:List (oo×Int)):mb×Nat×Int:=if o0 s=true then pk s.d xs else (xh,0,5)
def uw (S:List Nat) (w:zd) (r:mb×Nat×Int) (e:Ending) (w':zd):Prop:=∃ s':lz,e=zp (zw #[s'.v,yx yy r.2.1,yx yy r.2.2])∧s'.d=r.1∧mq S w' s'∧Below w w w'
def EnJ (bd be:Nat) (w:zd) (s:Nat×Int) (A:zd):Prop:=zk A bd 3 (yx yy ((s.1 - 1:Nat):Int))∧zk A be 31 (yx yy s.2)∧Below w w A∧l6 A (w+1) #[ze ⟨#[]⟩,yw none 0 0,yw none 0 0,yw none 0 0,zf false,yw none 0 0] 26
theorem bB {N:Nat} {o:Obj} (h:Below N w A) (hl:N≤l):Below N w (A.putObj l o):=⟨h.os,h.tape,h.output,by rw [Ar];exact h.size,fun i hi=>(Am lf).trans (h.block i hi)⟩
theorem cY {V:zd} {p q:Aa} {v u:zq} (h:V p=some v) (hn:p.block≠q.block):(V.setCell q u) p=some v:=(World.cell?_setCell_other _ _ _ _ (fun e=>hn (by rw [e]))).trans h
theorem EnJ.but {bd n:Nat} (hd:bd<n) (he:be<n) (hdb:bd≠b) (heb:be≠b) (hb:w+1<b) (hn:w+1<n):∀ s A B,EnJ bd be w s A→vn b n A B→EnJ bd be w s B:=fun s A B ⟨h1,h2,h3,h4⟩ k =>
 ⟨(k.block _ hd hdb h1.lt).trans h1,(k.block _ he heb h2.lt).trans h2,h3.trans ⟨k.os,k.tape,k.output,k.size,fun i hi=>k.block i lf lf (zu hi h3.size)⟩,(k.block _ lf lf h4.lt).trans h4⟩
theorem EnJ.firm {bd:Nat} (s:Nat×Int) (l:Nat) (hl:w≤l):Firm l (EnJ bd be w s):=(Firm.box l _ _ _).both <| (Firm.box l _ _ _).both <| Firm.both ⟨fun A B h hb=>h.trans (hb.mono h.size),fun A r r' h hl2=>h.trans ⟨rfl,rfl,rfl,lh,fun i hi=>Am lf⟩⟩ (Firm.blk l _ _ _)
set_option maxHeartbeats 1600000 in
theorem EY (s:lz) (xs:List (oo×Int)) {gf:Nat} {lb:Array zq} {D:Nat→Prop} (S:List Nat) (w:zd) (hS:qf S w) (hin:n9 w s) (hz:sd s) (hri:o0 s=true) (ho:vc gf lb xs D w) (hlo:∀ k,D k→k<w.heap.size) (eg:∀ args w,(Ai gf args).run prog w=.ok (.enter gf args) w)
 (hfit:∀ x∈xs,o8 x.1.a∧x.1.s.size≤1000000) (hlen:xs.length≤1000000) :
 zi prog 19 #[s.v,.func (.func gf) #[] lb] w (uw S w (pk s.d xs)):=by
 have hmix:prog.follows .mixedOrders=true:=lg;obtain ⟨wX,hwX,kA,kB,af,a9⟩:=vk w s.cs #[ze ⟨#[]⟩,yw none 0 0,yw none 0 0,yw none 0 0,zf false,yw none 0 0] 26 26;have CL:=yv (iQ (T:=[]) s wX (fun i hi=>absurd hi lh) (hin.later af) hz hri);have hw:=hwX;have a0:=yv hwX;have HO:=yv ho;have az:=yv hfit;have ag:=yv af;have KB:=yv kB;have a2:=yv hS;have ah:=yv ((gK s).1 hri);obtain ⟨z0,z1,z2,z3,z4,z5,f0,f1,f2,f3,f4,f5⟩:=l6.all6 (x0:=ze s.t) (x1:=yw s.m.a s.m.l.length s.m.c) (x2:=yw s.u.a s.u.l.length s.u.c) (x3:=yw s.r.a s.r.l.length s.r.c) (x4:=zf s.o) (x5:=yw s.g.a s.g.l.length s.g.c) kA;rw [← hwX] at z0 z1 z2 z3 z4 z5 f0 f1 f2 f3 f4 f5;clear hwX ho hfit af kA kB hS hin hz hri hw;refine (Ak (n:=5)).1 ?_;refine Au func19 rfl trivial ?_ rfl;simp only [ntmps19,Av,Aw,Ax,Nat.reduceAdd,Nat.reduceSub,Ay,Az,A0,A3,A4,A5]
 gi_wp2_with fail
 rw [a0.out];refine ⟨trivial,(Ak.2 CL.out).mono ?_⟩;rintro e w2 ⟨b,s1,rb,p,L,rfl,hi,hd,hbl,ac⟩;clear z0 z1 z2 z3 z4 z5 f0 f1 f2 f3 f4 f5 CL
 gi_wp2_with fail
 refine ⟨trivial,(Ak.2 (pT b gf lb _)).mono ?_⟩;rintro e w4 ⟨rfl,rfl⟩;obtain ⟨W3,al,kE,kD,ai,a3⟩:=vk w2 #[yx yy 0] #[yx yy 0] 31 3;rw [al];obtain ⟨W4,am,kP,kQ,ad,ba⟩:=vk W3 #[yz (some ⟨b,0,none⟩)] #[.func (.func gf) #[] lb] 67 57;rw [am];rw [a3] at kP kQ;have hblt:=hi.lt;have aj:=ac.size;have aa:Below w2 w2 W4:=ai.trans (ad.mono ai.size);have hed:po [w2.heap.size,w2.heap.size+1] b s.d W4:=⟨s1,rb,p,L,hi.grow aa (fun x hx=>.inr (by simp only [zn,zz,or_false] at hx;omega)) (fun x hx=>by simp only [zn,zz,or_false] at hx;omega),hd⟩;have ab:Below w w W4:=(ag.out.trans (ac.mono ag.out.size)).trans (aa.mono (zh ag.out.size aj));have kR:=KB.out.onto (ac.trans (aa.mono aj));have an:zk W4 w2 _ _:=(ad.block w2 lf).trans kE;have ao:zk W4 (w2+1) _ _:=(ad.block (w2+1) lf).trans kD;have hinv:=ah.out;have a4:=yv hed;have a5:=yv ab;have J0:=yv (show EnJ (w2+1) w2.heap.size w (0,0) W4 from ⟨ao,an,ab,kR⟩);have K4:=yv (zj (show zk W4 (w2+1+1) _ _ from kP) (show zk W4 ((w2.heap.size+1+1)+1) _ _ from kQ));clear hi hd ac al am kE kD kP kQ ai ad aa hed ab kR an ao ah
 gi_wp2_with fail
 refine dU (gf:=60) (lb:=#[yz (some ⟨w2+1+1+1,0,none⟩),yz (some ⟨w2+1+1,0,none⟩)]) (encs:=xq) (Y:=YS [W4.heap.size+1,w2.heap.size,w2.heap.size+1] b s.d xs) (E:=po [W4.heap.size+1,w2.heap.size,w2.heap.size+1] b (pk s.d xs).1) (R:=vn b (W4+2)) (S:=[w2.heap.size,w2.heap.size+1]) (s0:=((0:Nat),(0:Int))) (s1:=((pk s.d xs).2.1+1,(pk s.d xs).2.2)) rfl (enters_of func60 lg rfl) (fun x hx=>by simp only [zn,zz,or_false] at hx;omega)
  (fun W1 hb hz=>by
   have h1:=ON (xs:=xs) (T:=[W4.heap.size+1,w2.heap.size,w2.heap.size+1]) (S:=[W4.heap.size+1,w2.heap.size,w2.heap.size+1]) (b:=b) (bo:=(w2.heap.size+1+1)+1) (be:=(w2.heap.size+1+1)) (a4.out.grow hb (fun x hx=>by simp only [zn,zz,or_false] at hx ⊢;omega) (fun x hx=>by simp only [zn,zz,or_false] at hx;omega)) (HO.out.later (.of_below (a5.out.trans (hb.mono lf)))) eg ((hb.block _ lf).trans K4.out.2) ((hb.block _ lf).trans K4.out.1) lf az.out hlen (fun h=>by have:=hlo _ h;omega) (fun k h=>by have:=hlo _ h;omega) (fun _ h=>h) (fun x hx=>by simp only [zn,zz,or_false] at hx;omega) lq lq lq (fun x hx h=>by have:=hlo _ h;simp only [zn,zz,or_false] at hx;omega) hinv 4 (W4+1);rw [hz] at h1;exact h1)
  (fun A B h hz=>⟨h.size,fun k h1 h2=>h.block k lf lf lf⟩) (fun _=>rfl)
  (EnJ (w2+1) w2 w) (fun _ _=>False) (fun s A B h _ k=>EnJ.but lf lf lf lf lf lf s A B h k) (fun _ _ _ h _ _=>h)
  (fun s=>EnJ.firm s _ lf) (fun _=>Firm.const _ _) (fun s x s'=>YS.firm _ _ _ _ _ _ _ _) (po.firm _ _ _ _) J0.out
  (fun x a A=>a={ tmps:=#[s.v,.func (.func gf) #[] lb,yz (some ⟨w,0,none⟩),zm,yz (some ⟨w+1,0,none⟩),yx yy 0,yx yy 0,yz (some ⟨b,0,none⟩),yz (some ⟨w2,0,none⟩),yz (some ⟨w2+1,0,none⟩),yx yy x.1,yx yy x.2,zw #[yz (some ⟨b,0,none⟩),yx yy 0],s.v,zw #[yz (some ⟨b,0,none⟩),yx yy 0],yz (some ⟨b,0,none⟩),yx yy 0,yx yy 0,zf false,zm,zm,yz (some ⟨b,0,none⟩),.func (.func gf) #[] lb,.func (.func 60) #[] #[yz (some ⟨w2+1+1+1,0,none⟩),yz (some ⟨w2+1+1,0,none⟩)],yx yy x.1,yx yy x.2,zm,zm,zm,zm,zm,zm],defers:=[] }) (fun x a=>Firm.const _ _) ?assign ?body ?done ?stop
 case assign =>
  intro l' x W K hK
  gi_wp2
  exact hK _ _ (Below.refl _ _) rfl
 case body =>
  rintro l' ⟨m,e⟩ ⟨n,f⟩ ⟨m',e'⟩ A a1 hzA ⟨⟨he,he'⟩,hy,-⟩ ⟨j1,j2,j3,j4⟩ rfl;simp only at he he' hy j1 j2;subst he he';have k1:=j1.cell;have k2:=j2.cell;have f1:=j1.frozen;have f2:=j2.frozen;have s1:=(j1.set (yx yy n)).other (show w2.heap.size+1≠w2 by omega) (yx yy e');have s2:=(j2.other (show w2.heap.size≠w2+1 by omega) (yx yy n)).set (yx yy e');have s3:=(j3.setCell (p:=⟨w2+1,0,none⟩) (by show w.heap.size≤w2+1;omega) (yx yy n)).setCell (p:=⟨w2,0,none⟩) (by show w.heap.size≤w2;omega) (yx yy e');have s4:l6 ((A.setCell ⟨w2+1,0,none⟩ (yx yy n)).setCell ⟨w2,0,none⟩ (yx yy e')) (w+1) _ _:=(Below.heap_setCell _ _ _ _ (by show w.heap.size+1≠w2;omega)).trans ((Below.heap_setCell _ _ _ _ (by show w.heap.size+1≠w2+1;omega)).trans j4);have hm:=oi.join (oi.one j1 li (yx yy n)) (oi.one (j2.other (show w2.heap.size≠w2+1 by omega) (yx yy n)) li (yx yy e'));have hn:m' - 1=n:=lf;have S1:=yv (zj s1 (zj s2 (zj s3 s4)));have HM:=yv hm;clear j1 j2 j3 j4 s1 s2 s3 s4 hm
  gi_wp2
  refine ⟨?_,?_⟩
  ·exact HM.out.less lh
  ·show EnJ _ _ _ (m',e') _;unfold EnJ;simp only [hn];exact S1.out
 case done =>
  rintro D' W hD hz ⟨j1,j2,j3,j4⟩ ⟨s5,r5,p5,L5,aq,ae⟩ hK;generalize hrr:pk s.d xs=r at j1 j2 ae;obtain ⟨rd,n,e⟩:=r;simp only [Nat.add_sub_cancel] at j1 j2 ae;have CS:=yv (fun V (hV:Below W W V)=>(aq.later hV).state (S:=(w.heap.size+1)::S) (fun x hx=>by rcases zn.1 hx with rfl|hx;have:=hV.size;omega;have:=a2.out x hx;have:=j3.size;have:=hV.size;omega));have FS:=yv (fun V (hV:Below W W V)=>(⟨(hV.cell (p:=⟨w2+1,0,none⟩) (show w2.heap.size+1<W by omega)).trans j1.cell,(hV.cell (p:=⟨w2,0,none⟩) (show w2.heap.size<W by omega)).trans j2.cell⟩:(fun V:zd=>V ⟨w2+1,0,none⟩=some (yx yy n)∧V ⟨w2,0,none⟩=some (yx yy e)) V));have J3:=yv j3;have J4:=yv j4;have HK:=yv hK;have a6:=yv ae;clear j1 j2 j3 j4 aq ae hK
  gi_wp2_with fail
  refine wpIn_wide.2 (wp_region_noPanic ?_);refine zx (S:=(fun V:zd=>V ⟨w2+1,0,none⟩=some (yx yy n)∧V ⟨w2,0,none⟩=some (yx yy e))) lg (FS.out _ (Below.refl _ _).drew) (fun hHeld=>?_);refine ly 0 ?_;refine ly 2 ?_;refine ly 3 ?_;refine m8 1 fun K hK=>?_;go_simp
  (go_at_call 32;refine (CS.out _ (Below.refl _ _).drew).mono ?_;rintro e v5 ⟨⟨t6,⟨ma,ml,mc⟩,⟨ua,ul,uc⟩,⟨ra,rl,rc⟩,so,⟨ga,gl,gc⟩⟩,rfl,ar,au,av⟩;have hx:=(Below.refl W W).drew.trans av;have HX:=yv hx;have a7:=yv au;have a8:=yv ar;have K6:=yv (J4.out.onto hx);clear av hx au ar CS)
  try go_wp2_with fail
  refine hK.out _ _ ?_ (fun hHeld=>?_)
  ·exact FS.out _ HX.out
  clear hK K
  try simp only [zo,mj]
  obtain ⟨x0,x1,x2,x3,x4,x5,y0,y1,y2,y3,y4,y5⟩:=K6.out.all6;refine m8 4 fun K hK=>?_;go_simp;skip
  try go_wp2_with fail
  refine hK.out _ _ ?_ (fun hHeld=>?_)
  ·refine ⟨?_,?_⟩
   ·iterate 6 refine cY ?_ (by dsimp only;omega)
    exact (FS.out _ HX.out).1
   ·iterate 6 refine cY ?_ (by dsimp only;omega)
    exact (FS.out _ HX.out).2
  clear hK K
  try simp only [zo,mj]
  refine ly 5 ?_;refine ly 6 ?_;refine zy lg ?_ _;refine NoPanic.normal ?_;have kF:l6 (zg (zg (zg (zg (zg (zg v5 ⟨w+1,0,none⟩ (ze t6)) ⟨w+1,1,none⟩ (yw ma ml.length mc)) ⟨w+1,2,none⟩ (yw ua ul.length uc)) ⟨w+1,3,none⟩ (yw ra rl.length rc)) ⟨w+1,4,none⟩ (zf so)) ⟨w+1,5,none⟩ (yw ga gl.length gc)) (w+1) #[ze t6,yw ma ml.length mc,yw ua ul.length uc,yw ra rl.length rc,zf so,yw ga gl.length gc] 26:=(((((K6.out.set 0 _).set 1 _).set 2 _).set 3 _).set 4 _).set 5 _;have hDW:=(Array.getElem?_eq_some_iff.1 HK.out).1;have ak:(zg (zg (zg (zg (zg (zg v5 ⟨w+1,0,none⟩ (ze t6)) ⟨w+1,1,none⟩ (yw ma ml.length mc)) ⟨w+1,2,none⟩ (yw ua ul.length uc)) ⟨w+1,3,none⟩ (yw ra rl.length rc)) ⟨w+1,4,none⟩ (zf so)) ⟨w+1,5,none⟩ (yw ga gl.length gc)).heap[D']? = some (.deferred (some [])):=by
   iterate 6 refine (Below.heap_setCell _ _ _ _ (by dsimp only;omega)).trans ?_
   exact (HX.out.block D' hDW).trans HK.out
  have aw:Below w w (zg (zg (zg (zg (zg (zg v5 ⟨w+1,0,none⟩ (ze t6)) ⟨w+1,1,none⟩ (yw ma ml.length mc)) ⟨w+1,2,none⟩ (yw ua ul.length uc)) ⟨w+1,3,none⟩ (yw ra rl.length rc)) ⟨w+1,4,none⟩ (zf so)) ⟨w+1,5,none⟩ (yw ga gl.length gc)):=by
   iterate 6 refine Below.setCell ?_ (by dsimp only;omega) _
   exact J3.out.trans (HX.out.mono J3.out.size)
  have ax:mq ((w.heap.size+1)::S) (zg (zg (zg (zg (zg (zg v5 ⟨w+1,0,none⟩ (ze t6)) ⟨w+1,1,none⟩ (yw ma ml.length mc)) ⟨w+1,2,none⟩ (yw ua ul.length uc)) ⟨w+1,3,none⟩ (yw ra rl.length rc)) ⟨w+1,4,none⟩ (zf so)) ⟨w+1,5,none⟩ (yw ga gl.length gc)) ⟨t6,⟨ma,ml,mc⟩,⟨ua,ul,uc⟩,⟨ra,rl,rc⟩,so,⟨ga,gl,gc⟩⟩:=a7.out.apart (by
   iterate 6 refine lu.setCell ?_ (.inl lh) _
   exact lu.refl _ _)
  obtain ⟨V7,ay⟩:∃ V7,zg (zg (zg (zg (zg (zg v5 ⟨w+1,0,none⟩ (ze t6)) ⟨w+1,1,none⟩ (yw ma ml.length mc)) ⟨w+1,2,none⟩ (yw ua ul.length uc)) ⟨w+1,3,none⟩ (yw ra rl.length rc)) ⟨w+1,4,none⟩ (zf so)) ⟨w+1,5,none⟩ (yw ga gl.length gc)=V7:=⟨_,rfl⟩;rw [ay] at kF ak aw ax ⊢;have hc:∀ (k:Nat) (v:zq),#[ze t6,yw ma ml.length mc,yw ua ul.length uc,yw ra rl.length rc,zf so,yw ga gl.length gc][k]? = some v→(V7.putObj D' (.deferred none)) ⟨w+1,k,none⟩=some v:=fun k v h=>(gQ (by show w+1≠D';omega)).trans (kF.cell k v h);have c0:=hc 0 _ rfl;have c1:=hc 1 _ rfl;have c2:=hc 2 _ rfl;have c3:=hc 3 _ rfl;have c4:=hc 4 _ rfl;have c5:=hc 5 _ rfl;clear x0 x1 x2 x3 x4 x5 y0 y1 y2 y3 y4 y5 ay kF hc
  gi_wp2
  refine aO (v:=zw #[zs #[ze t6,yw ma ml.length mc,yw ua ul.length uc,yw ra rl.length rc,zf so,yw ga gl.length gc],yx yy n,yx yy e]) ak (by simp [Aj,results19,go_sem,c0,c1,c2,c3,c4,c5]) ?_;rw [hrr];exact ⟨⟨t6,⟨ma,ml,mc⟩,⟨ua,ul,uc⟩,⟨ra,rl,rc⟩,so,⟨ga,gl,gc⟩⟩,rfl,a8.out.trans a6.out,(ax.putn ak rfl _).wide (fun i hi=>.inl (zt _ hi)),bB aw lf⟩
 case stop =>
  rintro D' c W hD hz h hK;exact h.elim
set_option maxHeartbeats 1600000 in
theorem KL (s:lz) (f:zq) (S:List Nat) (w:zd) (hin:n9 w s) (hz:sd s) (hri:o0 s=false):zi prog 19 #[s.v,f] w (uw S w (xh,0,5)):=by
 obtain ⟨wX,hwX,kA,kB,ac,an⟩:=vk w s.cs #[ze ⟨#[]⟩,yw none 0 0,yw none 0 0,yw none 0 0,zf false,yw none 0 0] 26 26;have CL:=yv (pZ s wX (hin.later ac) hz hri);have aj:=yv hwX;have ab:=yv ac;have KB:=yv kB;clear hwX ac kA kB hin hz hri;unfold lz.v lz.cs at *;go_enter func19,ntmps19;go_wp2_with fail;rw [aj.out];refine CL.out.mono ?_;rintro e w2 ⟨rfl,aa⟩;obtain ⟨x0,x1,x2,x3,x4,x5,y0,y1,y2,y3,y4,y5⟩:=(KB.out.onto aa).all6;have ao:=yv (ab.out.trans (aa.mono ab.out.size));have ak:=aa.size;clear CL;go_wp2;obtain ⟨W4,af,kE,ag,aq⟩:=nu w2 #[yx yy 5] 31;rw [af];have FS:=yv (fun V (hV:Below W4 W4 V)=>((kE.onto hV).cell 0 _ rfl:(fun V:zd=>V ⟨w2,0,none⟩=some (yx yy 5)) V));have al:=yv (aa.trans (ag.mono ak));clear x0 x1 x2 x3 x4 x5 y0 y1 y2 y3 y4 y5 af kE ag aa;refine zx (S:=(fun V:zd=>V ⟨w2,0,none⟩=some (yx yy 5))) lg (FS.out _ (Below.refl _ _).drew) (fun hHeld=>?_);obtain ⟨W5,ah,ad⟩:∃ X,W4.drew=X∧Below W4 W4 X:=⟨_,rfl,(Below.refl _ _).drew⟩;rw [ah] at hHeld ⊢;have HX:=yv (al.out.trans (ad.mono lf));have K6:=yv (KB.out.onto HX.out);have am:=yv (FS.out _ ad);obtain ⟨x0,x1,x2,x3,x4,x5,y0,y1,y2,y3,y4,y5⟩:=K6.out.all6;clear ad ah FS;refine ly 0 ?_;refine ly 1 ?_;refine m8 2 fun K hK=>?_;go_simp;skip
 try go_wp2_with fail
 refine hK.out _ _ ?_ (fun hHeld=>?_)
 ·iterate 6 refine cY ?_ (by dsimp only;omega)
  exact am.out
 clear hK K
 try simp only [zo,mj]
 refine ly 3 ?_;refine ly 4 ?_;refine zy lg ?_ _;have kF:l6 (zg (zg (zg (zg (zg (zg W5 ⟨w+1,0,none⟩ (ze ⟨#[]⟩)) ⟨w+1,1,none⟩ (yw none 0 0)) ⟨w+1,2,none⟩ (yw none 0 0)) ⟨w+1,3,none⟩ (yw none 0 0)) ⟨w+1,4,none⟩ (zf false)) ⟨w+1,5,none⟩ (yw none 0 0)) (w+1) #[ze ⟨#[]⟩,yw none 0 0,yw none 0 0,yw none 0 0,zf false,yw none 0 0] 26:=(((((K6.out.set 0 _).set 1 _).set 2 _).set 3 _).set 4 _).set 5 _;have ae:Below w w (zg (zg (zg (zg (zg (zg W5 ⟨w+1,0,none⟩ (ze ⟨#[]⟩)) ⟨w+1,1,none⟩ (yw none 0 0)) ⟨w+1,2,none⟩ (yw none 0 0)) ⟨w+1,3,none⟩ (yw none 0 0)) ⟨w+1,4,none⟩ (zf false)) ⟨w+1,5,none⟩ (yw none 0 0)):=by
  iterate 6 refine Below.setCell ?_ (by dsimp only;omega) _
  exact ab.out.trans (HX.out.mono ab.out.size)
 obtain ⟨V7,ai⟩:∃ V7,zg (zg (zg (zg (zg (zg W5 ⟨w+1,0,none⟩ (ze ⟨#[]⟩)) ⟨w+1,1,none⟩ (yw none 0 0)) ⟨w+1,2,none⟩ (yw none 0 0)) ⟨w+1,3,none⟩ (yw none 0 0)) ⟨w+1,4,none⟩ (zf false)) ⟨w+1,5,none⟩ (yw none 0 0)=V7:=⟨_,rfl⟩;rw [ai] at kF ae ⊢;have HF:=yv (show uw S w (xh,0,5) (zp (zw #[zs #[ze ⟨#[]⟩,yw none 0 0,yw none 0 0,yw none 0 0,zf false,yw none 0 0],yx yy 0,yx yy 5])) V7 from ⟨wk,rfl,rfl,⟨ug.empty _ _,ti.empty _ _,ti.empty _ _,su.empty _ _⟩,ae⟩);clear x0 x1 x2 x3 x4 x5 y0 y1 y2 y3 y4 y5 ai ae;obtain ⟨x0,x1,x2,x3,x4,x5,-,-,-,-,-,-⟩:=kF.all6;go_wp2;exact Ag (v:=zw #[zs #[ze ⟨#[]⟩,yw none 0 0,yw none 0 0,yw none 0 0,zf false,yw none 0 0],yx yy 0,yx yy 5]) (by simp [Aj,results19,go_sem,x0,x1,x2,x3,x4,x5]) rfl HF.out
theorem JA (s:lz) (xs:List (oo×Int)) {gf:Nat} {lb:Array zq} {D:Nat→Prop} (S:List Nat) (w:zd) (hS:qf S w) (hin:n9 w s) (hz:sd s) (ho:vc gf lb xs D w) (hlo:∀ k,D k→k<w.heap.size) (eg:∀ args w,(Ai gf args).run prog w=.ok (.enter gf args) w)
 (hfit:∀ x∈xs,o8 x.1.a∧x.1.s.size≤1000000) (hlen:xs.length≤1000000) :
 zi prog 19 #[s.v,.func (.func gf) #[] lb] w (uw S w (wa s xs)):=by
 unfold wa;split
 ·exact EY s xs S w hS hin hz lm ho hlo eg hfit hlen
 ·exact KL s _ S w hin hz (by simpa using (by assumption:¬ o0 s=true))
set_option maxHeartbeats 1600000 in
theorem FW (s:lz) (l:List oo) (a:Option Aa) (c n:Nat) (S:List Nat) (w:zd) (hS:qf S w) (hin:n9 w s) (hz:sd s) (hr:qk w (·<w) a l) (hn:l.length=n) (hnz:n≤1000000) (hf:∀ x∈l,o8 x.a∧x.s.size≤1000000) :
 zi prog 10 #[s.v,yw a n c] w (uw S w (wa s (qy l))):=by
 obtain ⟨W,hW,kA,kB,ab,al⟩:=vk w s.cs #[ze ⟨#[]⟩,yw none 0 0,yw none 0 0,yw none 0 0,zf false,yw none 0 0] 26 26;have FS:=yv (fun V (hV:Below W W V)=>(⟨(kA.onto hV).cell 0 _ rfl,(kA.onto hV).cell 1 _ rfl,(kA.onto hV).cell 2 _ rfl,(kA.onto hV).cell 3 _ rfl,(kA.onto hV).cell 4 _ rfl,(kA.onto hV).cell 5 _ rfl⟩:(fun V:zd=>V ⟨w,0,none⟩=some (ze s.t)∧V ⟨w,1,none⟩=some (yw s.m.a s.m.l.length s.m.c)∧V ⟨w,2,none⟩=some (yw s.u.a s.u.l.length s.u.c)∧V ⟨w,3,none⟩=some (yw s.r.a s.r.l.length s.r.c)∧V ⟨w,4,none⟩=some (zf s.o)∧V ⟨w,5,none⟩=some (yw s.g.a s.g.l.length s.g.c)) V));have ae:=yv (fun V (hV:Below W W V) (ao:V.heap.size=W+1) (kL:zk V W 27 (yw a n c)) =>
  (show zi prog 19 #[s.v,.func (.func 36) #[] #[yz (some ⟨w+1+1,0,none⟩)]] V (uw ((w.heap.size+1)::S) V (wa s (qy l))) from by
   rw [← al];exact JA s (qy l) ((w.heap.size+1)::S) V (fun x hx=>by rcases zn.1 hx with rfl|hx;omega;have:=hS x hx;omega) (hin.later (ab.trans (hV.mono ab.size))) hz
    (xB l a c n (D:=(·<V)) (bl:=W.heap.size) (w:=V) ((hr.below (N:=w.heap.size) (fun _ h=>h) (ab.trans (hV.mono ab.size))).more fun _ h=>lf) hn kL (by show W.heap.size<V;omega) (fun _ h=>h) hnz) (fun _ h=>h) (enters_of func36 lg rfl)
    (fun x hx=>by obtain ⟨y,hy,rfl⟩:=List.mem_map.1 hx;exact hf y hy) (by simp [qy];omega)))
 have KR:=yv kB;have HW:=yv hW;have af:=yv ab;clear hW kA kB ab hS hin hz hr hn hf;unfold lz.v lz.cs at *;go_enter func10,ntmps10;go_wp2_with fail;rw [HW.out];refine zx (S:=(fun V:zd=>V ⟨w,0,none⟩=some (ze s.t)∧V ⟨w,1,none⟩=some (yw s.m.a s.m.l.length s.m.c)∧V ⟨w,2,none⟩=some (yw s.u.a s.u.l.length s.u.c)∧V ⟨w,3,none⟩=some (yw s.r.a s.r.l.length s.r.c)∧V ⟨w,4,none⟩=some (zf s.o)∧V ⟨w,5,none⟩=some (yw s.g.a s.g.l.length s.g.c))) lg (FS.out _ (Below.refl _ _).drew) (fun hHeld=>?_);refine ly 0 ?_;refine ly 1 ?_;refine m8 2 fun K hK=>?_;go_simp
 (go_at_call 20;refine (sL l a c n _).mono ?_;rintro e v1 ⟨rfl,rfl⟩;obtain ⟨V1,ag,kL,hbl,hzl⟩:=nu (W.drew) #[yw a n c] 27;have hzd:W.drew.heap.size=W:=rfl;rw [ag];have hx:=(Below.refl W W).drew.trans hbl;have HX:=yv hx;have HL:=yv (show zk V1 W.heap.size _ _ from kL);have CE:=yv (ae.out V1 hx lf kL);clear ag kL hbl hx ae)
 try go_wp2_with fail
 refine hK.out _ _ ?_ (fun hHeld=>?_)
 ·exact FS.out _ HX.out
 clear hK K
 try simp only [zo,mj]
 refine m8 3 fun K hK=>?_;go_simp
 (go_at_call 19;refine CE.out.mono ?_;rintro e v2 ⟨⟨t6,⟨ma,ml,mc⟩,⟨ua,ul,uc⟩,⟨ra,rl,rc⟩,so,⟨ga,gl,gc⟩⟩,rfl,ah,ai,aj⟩;have hx:=HX.out.trans (aj.mono HX.out.size);have aa:=yv hx;have am:=yv ai;have an:=yv ah;have K6:=yv (KR.out.onto hx);clear aj hx ai ah CE)
 try go_wp2_with fail
 refine hK.out _ _ ?_ (fun hHeld=>?_)
 ·exact FS.out _ aa.out
 clear hK K
 try simp only [zo,mj]
 obtain ⟨x0,x1,x2,x3,x4,x5,y0,y1,y2,y3,y4,y5⟩:=K6.out.all6;refine ly 4 ?_;refine ly 5 ?_;refine ly 6 ?_;refine m8 7 fun K hK=>?_;go_simp;skip
 try go_wp2_with fail
 refine hK.out _ _ ?_ (fun hHeld=>?_)
 ·refine ⟨?_,?_,?_,?_,?_,?_⟩
  ·iterate 6 refine cY ?_ (by dsimp only;omega)
   exact (FS.out _ aa.out).1
  ·iterate 6 refine cY ?_ (by dsimp only;omega)
   exact (FS.out _ aa.out).2.1
  ·iterate 6 refine cY ?_ (by dsimp only;omega)
   exact (FS.out _ aa.out).2.2.1
  ·iterate 6 refine cY ?_ (by dsimp only;omega)
   exact (FS.out _ aa.out).2.2.2.1
  ·iterate 6 refine cY ?_ (by dsimp only;omega)
   exact (FS.out _ aa.out).2.2.2.2.1
  ·iterate 6 refine cY ?_ (by dsimp only;omega)
   exact (FS.out _ aa.out).2.2.2.2.2
 clear hK K
 try simp only [zo,mj]
 refine ly 8 ?_;refine ly 9 ?_;refine zy lg ?_ _;have kF:l6 (zg (zg (zg (zg (zg (zg v2 ⟨w+1,0,none⟩ (ze t6)) ⟨w+1,1,none⟩ (yw ma ml.length mc)) ⟨w+1,2,none⟩ (yw ua ul.length uc)) ⟨w+1,3,none⟩ (yw ra rl.length rc)) ⟨w+1,4,none⟩ (zf so)) ⟨w+1,5,none⟩ (yw ga gl.length gc)) (w+1) #[ze t6,yw ma ml.length mc,yw ua ul.length uc,yw ra rl.length rc,zf so,yw ga gl.length gc] 26:=(((((K6.out.set 0 _).set 1 _).set 2 _).set 3 _).set 4 _).set 5 _;have ac:Below w w (zg (zg (zg (zg (zg (zg v2 ⟨w+1,0,none⟩ (ze t6)) ⟨w+1,1,none⟩ (yw ma ml.length mc)) ⟨w+1,2,none⟩ (yw ua ul.length uc)) ⟨w+1,3,none⟩ (yw ra rl.length rc)) ⟨w+1,4,none⟩ (zf so)) ⟨w+1,5,none⟩ (yw ga gl.length gc)):=by
  iterate 6 refine Below.setCell ?_ (by dsimp only;omega) _
  exact af.out.trans (aa.out.mono af.out.size)
 have ad:mq ((w.heap.size+1)::S) (zg (zg (zg (zg (zg (zg v2 ⟨w+1,0,none⟩ (ze t6)) ⟨w+1,1,none⟩ (yw ma ml.length mc)) ⟨w+1,2,none⟩ (yw ua ul.length uc)) ⟨w+1,3,none⟩ (yw ra rl.length rc)) ⟨w+1,4,none⟩ (zf so)) ⟨w+1,5,none⟩ (yw ga gl.length gc)) ⟨t6,⟨ma,ml,mc⟩,⟨ua,ul,uc⟩,⟨ra,rl,rc⟩,so,⟨ga,gl,gc⟩⟩:=am.out.apart (by
  iterate 6 refine lu.setCell ?_ (.inl lh) _
  exact lu.refl _ _)
 obtain ⟨V7,ak⟩:∃ V7,zg (zg (zg (zg (zg (zg v2 ⟨w+1,0,none⟩ (ze t6)) ⟨w+1,1,none⟩ (yw ma ml.length mc)) ⟨w+1,2,none⟩ (yw ua ul.length uc)) ⟨w+1,3,none⟩ (yw ra rl.length rc)) ⟨w+1,4,none⟩ (zf so)) ⟨w+1,5,none⟩ (yw ga gl.length gc)=V7:=⟨_,rfl⟩;rw [ak] at kF ac ad ⊢;have HF:=yv (show uw S w (wa s (qy l)) (zp (zw #[zs #[ze t6,yw ma ml.length mc,yw ua ul.length uc,yw ra rl.length rc,zf so,yw ga gl.length gc],yx yy (wa s (qy l)).2.1,yx yy (wa s (qy l)).2.2])) V7 from ⟨⟨t6,⟨ma,ml,mc⟩,⟨ua,ul,uc⟩,⟨ra,rl,rc⟩,so,⟨ga,gl,gc⟩⟩,rfl,an.out,ad.wide (fun i hi=>.inl (zt _ hi)),ac⟩);clear x0 x1 x2 x3 x4 x5 y0 y1 y2 y3 y4 y5 ak ac ad;obtain ⟨x0,x1,x2,x3,x4,x5,-,-,-,-,-,-⟩:=kF.all6;go_wp2;exact Ag (v:=zw #[zs #[ze t6,yw ma ml.length mc,yw ua ul.length uc,yw ra rl.length rc,zf so,yw ga gl.length gc],yx yy (wa s (qy l)).2.1,yx yy (wa s (qy l)).2.2]) (by simp [Aj,results10,go_sem,x0,x1,x2,x3,x4,x5]) rfl HF.out
theorem yM (a b:lz) (w:zd) (ha:n9 w a) (hb:n9 w b) (fa:StaF a) (fb:StaF b):zi prog 12 #[a.v,b.v] w (wb (sameD a.d b.d) w):=
 DV a.t b.t _ _ _ _ _ _ _ _ _ _ _ _ a.o b.o _ _ _ _ w
  (fun W hW=>xV a.m.a b.m.a a.m.l b.m.l a.m.c b.m.c _ _ W (ha.later hW).m.row (hb.later hW).m.row (fun _ h=>h) (fun _ h=>h) (zh fa.m li) (zh fb.m li))
  (fun W hW=>mF a.u.a b.u.a a.u.l b.u.l a.u.c b.u.c W (ha.later hW).u (hb.later hW).u (fun x hx=>fa.z x (by simp [hx])) (fun x hx=>fb.z x (by simp [hx])))
  (fun W hW=>mF a.r.a b.r.a a.r.l b.r.l a.r.c b.r.c W (ha.later hW).r (hb.later hW).r (fun x hx=>fa.z x (by simp [hx])) (fun x hx=>fb.z x (by simp [hx])))
  (fun W hW=>nY a.g.a b.g.a a.g.l b.g.l a.g.c b.g.c W (ha.later hW).g.row (hb.later hW).g.row (zh fa.g li) (zh fb.g li))
abbrev lz.cells (s:lz):Array zq:=#[ze s.t,yw s.m.a s.m.l.length s.m.c,yw s.u.a s.u.l.length s.u.c,yw s.r.a s.r.l.length s.r.c,zf s.o,yw s.g.a s.g.l.length s.g.c]
theorem mx.z25 {s:lz} (h:mx s.d):sd s:=by
 have h2:(mf s.u.l).length≤16:=h.ul.1;have h3:(mf s.r.l).length≤16:=h.rl.1;have h4:s.t.size≤4096:=h.z;have h5:s.m.l.length≤16:=h.ml;have h6:s.g.l.length≤32:=h.gl;rw [aC] at h2 h3;refine ⟨lf,lf,fun x hx=>?_,lf,lf,fun x hx=>?_⟩
 ·have hm:m9 s.m.l s.t=true:=h.m;have:=(MD (mK ((eL.1 hm).1 x hx)).1).2.1;have e:x.name.data.toList.length=x.name.size:=lh;unfold Ab;omega
 ·have ez:∀ l:List l7,(∀ y∈l,pb y=true)→sc l 140737488355328:=fun l hl=>h.edz hl;unfold lz.rows at hx;rcases Al.1 hx with hx|hx
  ·rcases Al.1 hx with hx|hx
   ·have hl:=bL (fun y hy=>(h.ul.2 y hy).2) x hx;exact ⟨lf,ez _ (bL (fun y hy=>h.ue y hy) x hx)⟩
   ·have hl:=bL (fun y hy=>(h.rl.2 y hy).2) x hx;exact ⟨lf,ez _ (bL (fun y hy=>h.re y hy) x hx)⟩
  ·obtain rfl:=An.1 hx;exact ⟨lf,ez _ h.ge⟩
theorem JO {W:zd} {a:Option Aa} {l:List oo} (hr:qk w (·<w) a l) (hb:Below w w W) {k:Nat} (hk:k<l.length):∃ ad,a=some ad∧W (ad.add (k * 4))=some (yx yy l[k].k)∧W ⟨(ad.add (k * 4)).block,(ad.add (k * 4)).off+1,none⟩=some (yx yy l[k].a)∧W ⟨(ad.add (k * 4)).block,(ad.add (k * 4)).off+2,none⟩=some (yx yy l[k].n)∧W ⟨(ad.add (k * 4)).block,(ad.add (k * 4)).off+3,none⟩=some (ze l[k].s):=by
 obtain ⟨ad,e,-,q0,q1,q2,q3⟩:=(hr.below (fun _ h=>h) hb) k hk;exact ⟨ad,e,q0,q1,q2,q3⟩
theorem OB {x:oo} (h:x.fits):o8 x.a:=h.2.1
end Go.Proofs.YtbagenpobcgjnaaGreat
