/-
  Joined: EdrDev5, EdrDev6, EdrDev7, RplDev, LawEdr, RplEnd, RplRun, LawEdr2, LawEdr3, RplRef.
-/
import Derived.Test.YtbagenpobcgjnaaGreatJSq
import Derived.Test.YtbagenpobcgjnaaGreatJEdrMath
import Derived.Test.YtbagenpobcgjnaaGreatJEdrRef3
open And renaming intro->zx
open Array renaming replicate_succ->Be,replicate_zero->Bf
open Go renaming Addr->Ao,Boxed->zy,Calls->zw,TypeId->Ar,Value->Ae,World->zq,binOp->Aj,bodyPost_ret->Av,callFunc->Ax,callsIn_of_wp_marks->A8,callsIn_wide->Az,maxLen->Ap,results->Ay,results_none->A3,undef->zz,wpAnyH_done->Am,wp_region_held_drew->Al
open Go.Act renaming put->Ab
open Go.Ending renaming returned->Ad
open Go.IntKind renaming i64->zo
open Go.Lib renaming hid->zk
open Go.Value renaming agg->Ag,bool->zr,int->zn,pointer->zp,slice->zm,string->zt,tuple->Ak
open Go.World renaming putObj_heap_other->A0,putObj_size->A6,setCell->zu,size_setCell->A5
open List renaming append_toArray->Bh,cons_append->Bj,length_cons->Bc,length_nil->Bd,mem_cons->Aa,mem_cons_of_mem->Ah,mem_singleton->A7,nil_append->Bi,not_mem_nil->An,push_toArray->Bg,size_toArray->A9
open Nat renaming le_of_eq->Aq,le_refl->Af,le_trans->zv,lt_of_lt_of_le->Ai
open True renaming intro->Aw
variable {t:ByteArray} {L:List ByteArray} {S:List Nat} {b be l rb:Nat} {p:Option Go.Addr} {A w:Go.World}
namespace Go.Proofs.YtbagenpobcgjnaaGreat
open Go.Proofs.Tryz
set_option maxRecDepth 100000
open Lib (hid)
variable {T : List Nat}
open Go.RowKit
set_option linter.unusedVariables false
set_option linter.unusedSimpArgs false
set_option maxHeartbeats 400000 in
theorem UV (a:Option Ao) (n c:Nat) (w:zq):zw prog 154 #[oy a n c] w fun e w'=>e=Ad (oy a n c)∧Below w w w':=by
 obtain ⟨W,hW,k0,k1,hb,hz⟩:=vo w #[zm a n c] #[zm a n c] 54 54;clear hW k0 k1 hb hz W;go_enter func154,ntmps154;go_wp2;refine Av (results_cell_row (P:=prog) (fn:=Tryz.f154) (p:=2) (ty:=54) rfl _ _ (w+1) 54 _ (0,0) _ rfl (by have h:=l6.new (w.alloc (.cells #[zm a n c] 54)) #[zm a n c] 54;rw [World.size_alloc] at h;exact h) underlying54 rfl lh) rfl ?_;exact ⟨rfl,qk _ _ _⟩
set_option maxHeartbeats 800000 in
theorem nX {m:qx} {u ro:o7} {g:mo} (h:n7 T w b ⟨t,m,u,ro,true,g⟩ rb p L):zw prog 153 #[zp (some ⟨b,0,none⟩),zp (some ⟨b,4,none⟩),zp (some ⟨b,5,none⟩),.func (.func 87) #[] #[]] w (nk T w b ((l7.d ⟨t,m,u,ro,true,g⟩),11)):=by
 have hbl:b<w:=h.lt;have ac:=zk (show l6 w b #[zr true,zp (some ⟨rb,0,none⟩),zt ⟨#[]⟩,zm m.a m.l.length m.c,zm u.a u.l.length u.c,zm ro.a ro.l.length ro.c,zr true,zm g.a g.l.length g.c] 100 from h.blk);have ad:=zk (h.rows);have aa:=zk ((lx.refl [b] w));have ax:=zk (Below.refl w w);have ay:=zk (Af w);have ab:∀ W:zq,w.heap.size≤W→∀ i∈b::T,i<W:=fun W hWz i hi=>by simp only [Aa] at hi;rcases hi with rfl|hi;all_goals first|omega|(have:=h.tlt i hi;omega)
 have az:=zk ab;have H:=zk h;clear ab;obtain ⟨ae,af,ag,ah,ai,aj,ak,al,am,an,ao,aq,ar,au,av,aw⟩:=ac.out.all8;clear h;go_enter func153,ntmps153;go_wp2;go_ret;exact ⟨⟨t,m,u,ro,true,g⟩,rb,p,L,rfl,⟨ac.out,H.out.rope.apart H.out.blk rfl aa.out,ad.out,H.out.ml,H.out.mc,H.out.inv,fun i hi=>Ai (H.out.tlt i hi) (aa.out).size⟩,rfl,aa.out⟩
set_option maxHeartbeats 800000 in
theorem oA {m:qx} {u ro:o7} {g:mo} (h:n7 T w b ⟨t,m,u,ro,false,g⟩ rb p L) (h0:u.l.length=0):zw prog 153 #[zp (some ⟨b,0,none⟩),zp (some ⟨b,4,none⟩),zp (some ⟨b,5,none⟩),.func (.func 87) #[] #[]] w (nk T w b ((l7.d ⟨t,m,u,ro,false,g⟩),10)):=by
 have hbl:b<w:=h.lt;have aa:=zk (show l6 w b #[zr true,zp (some ⟨rb,0,none⟩),zt ⟨#[]⟩,zm m.a m.l.length m.c,zm u.a u.l.length u.c,zm ro.a ro.l.length ro.c,zr false,zm g.a g.l.length g.c] 100 from h.blk);have av:=zk (h.rows);have aw:=zk ((lx.refl [b] w));have ax:=zk (Below.refl w w);have ay:=zk (Af w);have ab:∀ W:zq,w.heap.size≤W→∀ i∈b::T,i<W:=fun W hWz i hi=>by simp only [Aa] at hi;rcases hi with rfl|hi;all_goals first|omega|(have:=h.tlt i hi;omega)
 have bi:=zk ab;have H:=zk h;clear ab;obtain ⟨ac,ad,ae,af,ag,ah,ai,aj,ak,al,am,an,ao,aq,ar,au⟩:=aa.out.all8;have c0:u.l.length=0:=h0;have cp:=fun W=>mL u.a u.c W;have az:=zk (show ∀ W,zw prog 183 #[zm u.a u.l.length u.c] W _ from fun W=>by rw [h0];exact cp W);clear cp h c0 h0;go_enter func153,ntmps153;go_wp2_with fail;refine (az.out _).mono ?_;rintro e w1 ⟨rfl,hb⟩;clear ac ad ae af ag ah ai aj ak al am an ao aq ar au;have a1:=zk (aa.out.onto hb);have bj:=zk (av.out.later hb);have bk:=zk (aw.out.trans (S':=[]) (.of_below hb) li);have bl:=zk (zv ay.out hb.size);have a0:=zk (ax.out.trans (hb.mono ax.out.size));clear hb az aa av aw ay;obtain ⟨a2,a3,a4,a5,a6,a7,a8,a9,ba,bb,bc,bd,be,bf,bg,bh⟩:=a1.out.all8;go_wp2;go_ret;have hbw:=a0.out.alloc a0.out.size (.cells #[zm none 0 0] 54);exact ⟨⟨t,m,u,ro,false,g⟩,rb,p,L,rfl,H.out.later hbw,rfl,.of_below hbw⟩
set_option maxHeartbeats 1600000 in
theorem pB {m:qx} {u ro:o7} {g:mo} (h:n7 T w b ⟨t,m,u,ro,false,g⟩ rb p L) (k:Nat) (hn:u.l.length=k+1):zw prog 153 #[zp (some ⟨b,0,none⟩),zp (some ⟨b,4,none⟩),zp (some ⟨b,5,none⟩),.func (.func 87) #[] #[]] w (nk T w b (po (l7.d ⟨t,m,u,ro,false,g⟩))):=by
 have hbl:b<w:=h.lt;have hk':(mf u.l).length=k+1:=by rw [aD];exact hn
 have hst:(mf u.l)[k]! = (u.l[k]!).l:=cO u.l k lg;obtain ⟨t',hrun,hv,hz⟩:=xX h.inv rfl hk';have hyes:=sO (s:=l7.d ⟨t,m,u,ro,false,g⟩) rfl hk' hrun;have hie:=xO h.inv;have hlen:=(h.inv.ul.2 _ (dH (L:=mf u.l) (k:=k) lg)).2;have hok:=uV (h.inv.ue _ (dH (L:=mf u.l) (k:=k) lg));have h1:∀ x∈u.l,x.l.length≤1000000:=eH fun y hy=>zv (h.inv.ul.2 y hy).2 lj;have h6:k≤900:=by have h2:(mf u.l).length≤16:=h.inv.ul.1;omega
 have htl:ro.l.length≤900∧∀ x∈ro.l,x.l.length≤1000000:=by
  have h2:(mf ro.l).length≤16:=h.inv.rl.1;rw [aD] at h2;exact ⟨lg,eH fun y hy=>zv (h.inv.rl.2 y hy).2 lj⟩
 replace hyes:po (l7.d ⟨t,m,u,ro,false,g⟩)=((⟨t',rq m.l (md (mf u.l)[k]!),(mf u.l).take k,np (mf ro.l) (mf u.l)[k]!,false,g.l⟩:mg),0):=hyes;rw [hyes] at hie ⊢;replace hrun:ms t (md (mf u.l)[k]!)=(t',0):=hrun;replace hok:∀ x∈md (mf u.l)[k]!,o8 x=true:=hok;rw [hst] at hrun hlen hok hie ⊢;obtain ⟨sl,hsl⟩:∃ sl,(u.l[k]!).l=sl:=⟨_,rfl⟩;rw [hsl] at hrun hlen hok hie ⊢;obtain ⟨rl,hrl⟩:∃ rl,md sl=rl:=⟨_,rfl⟩;have hrz:rl.length≤32:=by rw [← hrl,aF];exact hlen
 rw [hrl] at hrun hok hie ⊢;have hms:=h.inv.shown hrun;have hez:=h.inv.edz hok;have hep:=jQ (t:=t) h.inv.z hrun;have hof:ofE t'=0:=rC hv hz;have htz:t.size≤4096:=h.inv.z;have hml:m.l.length≤1000000:=zv h.inv.ml lj;have hmc:m.l.length≤m.c∧m.c≤Ap:=⟨h.ml,h.mc⟩;have j5:=zk hrun;have kd:=zk hms;have h7:=zk hez;have ke:=zk hep;have kf:=zk hof;have kg:=zk hml;have kh:=zk hmc;have HI:=zk hie;have h8:=zk htl;have ki:=zk hsl;clear hrun hms hez hep hof hml hmc hie htl hyes hok hst hk' hv;have an:=zk (show l6 w b #[zr true,zp (some ⟨rb,0,none⟩),zt ⟨#[]⟩,zm m.a m.l.length m.c,zm u.a u.l.length u.c,zm ro.a ro.l.length ro.c,zr false,zm g.a g.l.length g.c] 100 from h.blk);have h9:=zk (h.rows);have ia:=zk ((lx.refl [b] w));have ib:=zk (Below.refl w w);have ic:=zk (Af w);have ao:∀ W:zq,w.heap.size≤W→∀ i∈b::T,i<W:=fun W hWz i hi=>by simp only [Aa] at hi;rcases hi with rfl|hi;all_goals first|omega|(have:=h.tlt i hi;omega)
 have aq:=zk ao;have H:=zk h;clear ao;obtain ⟨bw,bx,bz,b3,b4,b5,b6,b7,b8,b9,ca,cb,cc,cd,ce,cf⟩:=an.out.all8;have cp:=fun W (hW:Below w w W)=>(mB u.a u.l u.c k W (h.rows.u.later hW).in hn h6 h1).mono fun e w' hh=>oD (S:=b::T) hh (aq.out W hW.size);rw [← hn] at cp;simp only [ki.out] at cp;clear hn h6 h1;have ct:=fun W (hW:Below w w W)=>nR (h.rope.later hW);have CT:=zk ct;have ie:=zk cp;clear cp ct h;go_enter func153,ntmps153;go_wp2_with fail;refine (ie.out _ (Below.refl _ _)).mono ?_;rintro e w1 ⟨⟨xa,xl,xc⟩,a2,c2,rfl,hxl,hsx,ig,hb⟩;clear bw bx bz b3 b4 b5 b6 b7 b8 b9 ca cb cc cd ce cf;have ar:=zk (an.out.onto hb);have ih:=zk (h9.out.later hb);have ii:=zk (ia.out.trans (S':=[]) (.of_below hb) li);have au:=zk (zv ic.out hb.size);have ij:=zk (ib.out.trans (hb.mono ib.out.size));have kj:=zk hxl;have ik:=zk (hsx);have il:=zk (ig);clear hb hxl hsx ig ie an h9 ia ic;obtain ⟨cg,ch,cj,ck,cl,cm,cn,cu,cv,cw,cx,cy,cz,c3,c4,c5⟩:=ar.out.all8;have k6:w.heap.size≤w1:=au.out;obtain ⟨im,hwA1,kA,hbA,hzA⟩:=n8 w1 #[zm a2 sl.length c2] 54;have av:=zk (ar.out.onto hbA);have io:=zk (ih.out.later hbA);have ip:=zk (ik.out.later hbA);have aw:=zk (il.out.later hbA);have iq:=zk (ii.out.trans (S':=[]) (.of_below hbA) li);have ax:=zk (zv au.out hbA.size);have ir:=zk (ij.out.trans (hbA.mono ij.out.size));have ay:=zk kA;have az:w1.heap.size<im:=lg;have lb:=zk az;clear kA hbA hzA az ar ih ik il ii au;obtain ⟨c6,c7,c8,c9,da,db,dc,dd,de,df,dg,dh,di,dj,dk,dl⟩:=av.out.all8;obtain ⟨dm,dn⟩:=ay.out.all1;have ci:=pN a2 sl c2 im aw.out.in.row lg;rw [hrl] at ci;have CI:=zk ci;clear ci;go_wp2_with fail;refine (CI.out).mono ?_;rintro e w3 ⟨ra,rc,rfl,hrr,hb⟩;clear cg ch cj ck cl cm cn cu cv cw cx cy cz c3 c4 c5 hwA1 c6 c7 c8 c9 da db dc dd de df dg dh di dj dk dl dm dn;have a0:=zk (av.out.onto hb);have a1:=zk (ay.out.onto hb);have it:=zk (io.out.later hb);have iu:=zk (ip.out.later hb);have iv:=zk (aw.out.later hb);have iw:=zk (iq.out.trans (S':=[]) (.of_below hb) li);have a3:=zk (zv ax.out hb.size);have ix:=zk (ir.out.trans (hb.mono ir.out.size));have iy:=zk (hrr.off (aq.out _ ax.out));clear hb hrr CI av ay io ip aw iq ax;obtain ⟨dp,dq,dr,ds,dt,du,dv,dw,dx,dy,dz,d0,d1,d2,d3,d4⟩:=a0.out.all8;obtain ⟨d5,d6⟩:=a1.out.all1;have k7:w.heap.size≤w3:=a3.out;obtain ⟨ac,hwA3,kA,hbA,hzA⟩:=n8 w3 #[zm ra rl.length rc] 54;have af:=zk (a0.out.onto hbA);have a4:=zk (a1.out.onto hbA);have iz:=zk (it.out.later hbA);have i0:=zk (iu.out.later hbA);have i1:=zk (iv.out.later hbA);have a5:=zk (iy.out.later hbA);have i2:=zk (iw.out.trans (S':=[]) (.of_below hbA) li);have i3:=zk (zv a3.out hbA.size);have a6:=zk (ix.out.trans (hbA.mono ix.out.size));have ag:=zk kA;have a7:w3.heap.size<ac:=lg;have lc:=zk a7;clear kA hbA hzA a7 a0 a1 it iu iv iy iw a3;obtain ⟨d7,d8,d9,ea,eb,ec,ed,ee,ef,eg,eh,ei,ej,ek,el,em⟩:=af.out.all8;obtain ⟨en,eo⟩:=a4.out.all1;obtain ⟨er,es⟩:=ag.out.all1;have cr:=fun W (hW:Below ac ac W)=>iT t ra rl rc W (a5.out.later hW).in.row lg lg h7.out;rw [j5.out] at cr;have CR:=zk cr;clear cr;have hfs:∀ W,Below ac ac W→W ⟨b,1,none⟩=some (zp (some ⟨rb,0,none⟩))∧W ⟨w3,0,none⟩=some (zm ra rl.length rc):=fun W h=>⟨(af.out.onto h).cell 1 _ rfl,(ag.out.onto h).cell 0 _ rfl⟩;have FS:=zk hfs;clear hfs;go_wp2_with fail;clear dp dq dr ds dt du dv dw dx dy dz d0 d1 d2 d3 d4 d5 d6 hwA3 d7 d8 d9 ea eb ec ed ee ef eg eh ei ej ek el em en eo er es;refine Al (S:=(fun W:zq=>W ⟨b,1,none⟩=some (zp (some ⟨rb,0,none⟩))∧W ⟨w3,0,none⟩=some (zm ra rl.length rc))) lh (FS.out _ (Below.refl _ _).drew) (fun hHeld=>?_);refine lz 0 ?_;refine lz 1 ?_;refine lz 2 ?_;refine lz 3 ?_;refine lz 5 ?_;refine m8 4 fun K hK=>?_;go_simp
 (go_at_call 59;refine (CT.out _ a6.out.drew).mono ?_;rintro e y1 ⟨rfl,i4⟩;have ad:Below ac ac y1:=(Below.refl _ _).drew.trans i4)
 try go_wp2_with fail
 refine hK.out _ _ ?_ (fun hHeld=>?_)
 ·exact FS.out _ ad
 clear hK K
 try simp only [Ab,mj]
 refine m8 6 fun K hK=>?_;go_simp
 (go_at_call 89;refine (CR.out _ ad).mono ?_;rintro e y2 ⟨rfl,i5⟩;have ab:Below ac ac y2:=ad.trans (i5.mono ad.size))
 try go_wp2_with fail
 refine hK.out _ _ ?_ (fun hHeld=>?_)
 ·exact FS.out _ ab
 clear hK K
 try simp only [Ab,mj]
 refine lz 7 ?_;refine lz 8 ?_;refine lz 9 ?_;refine lz 10 ?_;refine lz 11 ?_;refine Am lh ?_ _;have a8:=zk (af.out.onto ab);have a9:=zk (a4.out.onto ab);have ba:=zk (ag.out.onto ab);have i6:=zk (iz.out.later ab);have i7:=zk (i0.out.later ab);have i8:=zk (i1.out.later ab);have i9:=zk (a5.out.later ab);have ja:=zk (i2.out.trans (S':=[]) (.of_below ab) li);have jb:=zk (zv i3.out ab.size);have jc:=zk (a6.out.trans (ab.mono a6.out.size));clear i4 ad i5 ab CT CR FS af a4 ag iz i0 i1 a5 i2 i3;obtain ⟨et,eu,ev,ew,ey,e0,e3,e4,e5,e6,e7,e8,e9,fa,fb,fc⟩:=a8.out.all8;obtain ⟨fd,fe⟩:=a9.out.all1;obtain ⟨ff,fg⟩:=ba.out.all1;have co:=(EH t' lq y2).mono fun e w' h=>h.yes kf.out;have CO:=zk co;clear co;go_wp2_with fail;refine (CO.out).mono ?_;rintro e w6 ⟨rb',p',L',rfl,hR,hb⟩;clear et eu ev ew ey e0 e3 e4 e5 e6 e7 e8 e9 fa fb fc fd fe ff fg;have bb:=zk (a8.out.onto hb);have ae:=zk (a9.out.onto hb);have bc:=zk (ba.out.onto hb);have bd:=zk (i6.out.later hb);have jd:=zk (i7.out.later hb);have be:=zk (i8.out.later hb);have je:=zk (i9.out.later hb);have jf:=zk (ja.out.trans (S':=[]) (.of_below hb) li);have bf:=zk (zv jb.out hb.size);have jg:=zk (jc.out.trans (hb.mono jc.out.size));have jh:=zk (hR);clear hb hR CO a8 a9 ba i6 i7 i8 i9 ja jb;obtain ⟨fh,fi,fj,fk,fm,ah,fn,fo,fp,fq,fr,fs,ft,fu,fv,fw⟩:=bb.out.all8;obtain ⟨fx,fy⟩:=ae.out.all1;obtain ⟨fz,f0⟩:=bc.out.all1;have cq:=fun W (hW:Below w6 w6 W)=>(iL ro.a ro.l ro.c ⟨a2,sl,c2⟩ W (bd.out.r.later hW).in (be.out.later hW).in h8.out.1 h8.out.2 (by show sl.length≤1000000;omega)).mono fun e w' hh=>jI (S:=b::T) hh (aq.out W (zv bf.out hW.size));have CQ:=zk cq;clear cq;have q5:w6.drew ⟨b,5,none⟩=some (zm ro.a ro.l.length ro.c):=ah;go_wp2_with fail;clear fh fi fj fk fm ah fn fo fp fq fr fs ft fu fv fw fx fy fz f0;refine Al (S:=(fun W:zq=>W ⟨w1,0,none⟩=some (zm a2 sl.length c2))) lh (ae.out.cell 0 _ rfl) (fun hHeld=>?_);refine lz 0 ?_;refine lz 1 ?_;refine lz 2 ?_;refine lz 3 ?_;refine lz 4 ?_;refine lz 6 ?_;refine m8 5 fun K hK=>?_;go_simp;skip
 try go_wp2_with fail
 refine hK.out _ _ ?_ (fun hHeld=>?_)
 ·exact hHeld
 clear hK K
 try simp only [Ab,mj]
 refine m8 7 fun K hK=>?_;go_simp
 (go_at_call 184;refine (CQ.out _ (Below.refl _ _).drew).mono ?_;rintro e y3 ⟨⟨za,zl,zc⟩,rfl,hzl,hsz,ji⟩;have aa:Below w6 w6 y3:=(Below.refl _ _).drew.trans ji)
 try go_wp2_with fail
 refine hK.out _ _ ?_ (fun hHeld=>?_)
 ·exact (ae.out.onto aa).cell 0 _ rfl
 clear hK K
 try simp only [Ab,mj]
 clear q5;have ai:=zk (bb.out.onto aa);have aj:=zk (ae.out.onto aa);have bg:=zk (bc.out.onto aa);have jj:=zk (bd.out.later aa);have jk:=zk (jd.out.later aa);have jl:=zk (be.out.later aa);have jm:=zk (je.out.later aa);have jn:=zk (jh.out.later aa);have jo:=zk (jf.out.trans (S':=[]) (.of_below aa) li);have jp:=zk (zv bf.out aa.size);have lf:=zk (jg.out.trans (aa.mono jg.out.size));have kk:=zk hzl;have jq:=zk hsz;clear hzl hsz ji aa CQ bb ae bc bd jd be je jh jf bf;obtain ⟨f1,f2,f3,f4,f5,f6,f7,f8,f9,ga,gb,gc,gd,gf,gg,gh⟩:=ai.out.all8;obtain ⟨gi,gj⟩:=aj.out.all1;obtain ⟨gk,gm⟩:=bg.out.all1;refine lz 8 ?_;refine m8 9 fun K hK=>?_;go_simp;skip
 try go_wp2_with fail
 refine hK.out _ _ ?_ (fun hHeld=>?_)
 ·exact (aj.out.other ⟨b,4,none⟩ (by show b≠w1;omega) _).cell 0 _ rfl
 clear hK K
 try simp only [Ab,mj]
 refine lz 10 ?_;have kO:l6 (y3.setCell ⟨b,4,none⟩ (zm xa xl.length xc)) (b) #[zr true,zp (some ⟨rb,0,none⟩),zt ⟨#[]⟩,zm m.a m.l.length m.c,zm xa xl.length xc,zm ro.a ro.l.length ro.c,zr false,zm g.a g.l.length g.c] 100:=(ai.out.set 4 _);have kP:l6 (y3.setCell ⟨b,4,none⟩ (zm xa xl.length xc)) (w1) #[zm a2 sl.length c2] 54:=(aj.out.other ⟨b,4,none⟩ (by show b≠w1;omega) _);have kQ:l6 (y3.setCell ⟨b,4,none⟩ (zm xa xl.length xc)) (w3) #[zm ra rl.length rc] 54:=(bg.out.other ⟨b,4,none⟩ (by show b≠w3;omega) _);have ap0:lx [b] y3 (y3.setCell ⟨b,4,none⟩ (zm xa xl.length xc)):=(lx.refl [b] y3).setCell (p:=⟨b,4,none⟩) (.inl li) _;have ap:lx (b::T) y3 (y3.setCell ⟨b,4,none⟩ (zm xa xl.length xc)):=(lx.refl (b::T) y3).setCell (p:=⟨b,4,none⟩) (.inl li) _;have rS:=jj.out.apart ap;have rX:=jk.out.apart ap;have rE:=jl.out.apart ap;have rQ:=jm.out.apart ap;have rN:=n9.apart jn.out ai.out rfl ap0;have rZ:=jq.out.apart ap;have hB:=((jo.out.setCell (p:=⟨b,4,none⟩) li _):lx [b] w (y3.setCell ⟨b,4,none⟩ (zm xa xl.length xc)));have hz:(y3.setCell ⟨b,4,none⟩ (zm xa xl.length xc)).heap.size=y3:=li;obtain ⟨v8,bh⟩:∃ V,(y3.setCell ⟨b,4,none⟩ (zm xa xl.length xc))=V:=⟨_,rfl⟩;rw [bh] at kO kP kQ rS rX rE rQ rN rZ hB hz;rw [bh];have ak:=zk kO;have al:=zk kP;have bi:=zk kQ;have jr:=zk rS;have js:=zk rX;have jt:=zk rE;have ju:=zk rQ;have jv:=zk rN;have jw:=zk rZ;have jx:=zk hB;have jy:=zk (zv jp.out (Aq hz.symm));clear kO kP kQ rS rX rE rQ rN rZ hB hz ap ai aj bg jj jk jl jm jn jq jo jp;obtain ⟨gn,gp,gq,gs,gt,gu,gv,gw,gx,gy,gz,g0,g1,g2,g3,g4⟩:=ak.out.all8;obtain ⟨g5,g6⟩:=al.out.all1;obtain ⟨g7,g8⟩:=bi.out.all1;refine m8 11 fun K hK=>?_;go_simp;skip
 try go_wp2_with fail
 refine hK.out _ _ ?_ (fun hHeld=>?_)
 ·exact (al.out.other ⟨b,5,none⟩ (by show b≠w1;omega) _).cell 0 _ rfl
 clear hK K
 try simp only [Ab,mj]
 refine Am lh ?_ _;have kO:l6 (v8.setCell ⟨b,5,none⟩ (zm za zl.length zc)) (b) #[zr true,zp (some ⟨rb,0,none⟩),zt ⟨#[]⟩,zm m.a m.l.length m.c,zm xa xl.length xc,zm za zl.length zc,zr false,zm g.a g.l.length g.c] 100:=(ak.out.set 5 _);have kP:l6 (v8.setCell ⟨b,5,none⟩ (zm za zl.length zc)) (w1) #[zm a2 sl.length c2] 54:=(al.out.other ⟨b,5,none⟩ (by show b≠w1;omega) _);have kQ:l6 (v8.setCell ⟨b,5,none⟩ (zm za zl.length zc)) (w3) #[zm ra rl.length rc] 54:=(bi.out.other ⟨b,5,none⟩ (by show b≠w3;omega) _);have ap0:lx [b] v8 (v8.setCell ⟨b,5,none⟩ (zm za zl.length zc)):=(lx.refl [b] v8).setCell (p:=⟨b,5,none⟩) (.inl li) _;have ap:lx (b::T) v8 (v8.setCell ⟨b,5,none⟩ (zm za zl.length zc)):=(lx.refl (b::T) v8).setCell (p:=⟨b,5,none⟩) (.inl li) _;have rS:=jr.out.apart ap;have rX:=js.out.apart ap;have rE:=jt.out.apart ap;have rQ:=ju.out.apart ap;have rN:=n9.apart jv.out ak.out rfl ap0;have rZ:=jw.out.apart ap;have hB:=((jx.out.setCell (p:=⟨b,5,none⟩) li _):lx [b] w (v8.setCell ⟨b,5,none⟩ (zm za zl.length zc)));have hz:(v8.setCell ⟨b,5,none⟩ (zm za zl.length zc)).heap.size=v8:=li;obtain ⟨v9,bj⟩:∃ V,(v8.setCell ⟨b,5,none⟩ (zm za zl.length zc))=V:=⟨_,rfl⟩;rw [bj] at kO kP kQ rS rX rE rQ rN rZ hB hz;rw [bj];have am:=zk kO;have bk:=zk kP;have bl:=zk kQ;have bm:=zk rS;have jz:=zk rX;have j0:=zk rE;have bn:=zk rQ;have j1:=zk rN;have j2:=zk rZ;have bo:=zk hB;have j3:=zk (zv jy.out (Aq hz.symm));clear kO kP kQ rS rX rE rQ rN rZ hB hz ap ak al bi jr js jt ju jv jw jx jy;obtain ⟨g9,hc,hd,he,hf,hg,hj,hk,hl,hm,ho,hp,hq,hr,hs,ht⟩:=am.out.all8;obtain ⟨hu,hw⟩:=bk.out.all1;obtain ⟨hx,h0⟩:=bl.out.all1;have csh:=nD (made:=true) (r:=some ⟨rb,0,none⟩) (t:=⟨#[]⟩) (m:=m) (u:=⟨xa,xl,xc⟩) (ro:=⟨za,zl,zc⟩) (o:=false) (g:=g) am.out (fun i hi=>Ai (H.out.tlt i hi) bo.out.size) bm.out.m kg.out kh.out (some ⟨rb',0,none⟩) ⟨ra,rl,rc⟩ bn.out (by show rl.length≤100000;omega) h7.out ke.out kd.out;have kl:=zk csh;clear csh;go_wp2_with fail;refine (kl.out).mono ?_;rintro e wZ ⟨rfl,⟨ma,ml,mc⟩,bp,bq,j4,br,ha⟩;clear f1 f2 f3 f4 f5 f6 f7 f8 f9 ga gb gc gd gf gg gh gi gj gk gm bh gn gp gq gs gt gu gv gw gx gy gz g0 g1 g2 g3 g4 g5 g6 g7 g8 bj g9 hc hd he hf hg hj hk hl hm ho hp hq hr hs ht hu hw hx h0;have bs:=zk (j4);have j6:=zk (bk.out.apart ha lu);have j7:=zk (bl.out.apart ha lu);have j8:=zk (bm.out.apart (ha.more li));have j9:=zk (jz.out.apart (ha.more li));have k8:=zk (j0.out.apart (ha.more li));have k9:=zk (bn.out.apart (ha.more li));have ka:=zk (n9.apart j1.out am.out rfl ha);have kb:=zk (j2.out.apart (ha.more li));have bu:=zk (bo.out.trans ha li);have la:=zk (zv j3.out ha.size);have bv:=zk (zx bp bq);have kc:=zk (br);clear ha bp bq j4 br am bk bl bm jz j0 bn j1 j2 bo j3;obtain ⟨km,kn,ko,kp,kq,kr,ks,kt,ku,kv,kw,kx,ky,kz,k0,k1⟩:=bs.out.all8;obtain ⟨k2,k3⟩:=j6.out.all1;obtain ⟨k4,k5⟩:=j7.out.all1;go_wp2;go_ret;have h3:ml=rq m.l rl:=bv.out.1;have h4:mf xl=_:=kj.out;have h5:mf zl=_:=kk.out;refine ⟨⟨t',⟨ma,ml,mc⟩,⟨xa,xl,xc⟩,⟨za,zl,zc⟩,false,g⟩,rb',p',L',rfl,⟨bs.out,ka.out,⟨kc.out,j9.out,kb.out,j8.out.g⟩,bv.out.2.1,bv.out.2.2,?_,fun i hi=>Ai (H.out.tlt i hi) bu.out.size⟩,?_,bu.out⟩
 ·show mx (⟨t',ml,mf xl,mf zl,false,g.l⟩:mg);rw [h3,h4,h5];exact HI.out
 ·show (⟨t',ml,mf xl,mf zl,false,g.l⟩:mg)=_;rw [h3,h4,h5]
set_option maxHeartbeats 800000 in
theorem nY {m:qx} {u ro:o7} {g:mo} (h:n7 T w b ⟨t,m,u,ro,true,g⟩ rb p L):zw prog 153 #[zp (some ⟨b,0,none⟩),zp (some ⟨b,5,none⟩),zp (some ⟨b,4,none⟩),.func (.func 154) #[] #[]] w (nk T w b ((l7.d ⟨t,m,u,ro,true,g⟩),11)):=by
 have hbl:b<w:=h.lt;have ac:=zk (show l6 w b #[zr true,zp (some ⟨rb,0,none⟩),zt ⟨#[]⟩,zm m.a m.l.length m.c,zm u.a u.l.length u.c,zm ro.a ro.l.length ro.c,zr true,zm g.a g.l.length g.c] 100 from h.blk);have ad:=zk (h.rows);have aa:=zk ((lx.refl [b] w));have ax:=zk (Below.refl w w);have ay:=zk (Af w);have ab:∀ W:zq,w.heap.size≤W→∀ i∈b::T,i<W:=fun W hWz i hi=>by simp only [Aa] at hi;rcases hi with rfl|hi;all_goals first|omega|(have:=h.tlt i hi;omega)
 have az:=zk ab;have H:=zk h;clear ab;obtain ⟨ae,af,ag,ah,ai,aj,ak,al,am,an,ao,aq,ar,au,av,aw⟩:=ac.out.all8;clear h;go_enter func153,ntmps153;go_wp2;go_ret;exact ⟨⟨t,m,u,ro,true,g⟩,rb,p,L,rfl,⟨ac.out,H.out.rope.apart H.out.blk rfl aa.out,ad.out,H.out.ml,H.out.mc,H.out.inv,fun i hi=>Ai (H.out.tlt i hi) (aa.out).size⟩,rfl,aa.out⟩
set_option maxHeartbeats 800000 in
theorem nW {m:qx} {u ro:o7} {g:mo} (h:n7 T w b ⟨t,m,u,ro,false,g⟩ rb p L) (h0:ro.l.length=0):zw prog 153 #[zp (some ⟨b,0,none⟩),zp (some ⟨b,5,none⟩),zp (some ⟨b,4,none⟩),.func (.func 154) #[] #[]] w (nk T w b ((l7.d ⟨t,m,u,ro,false,g⟩),10)):=by
 have hbl:b<w:=h.lt;have aa:=zk (show l6 w b #[zr true,zp (some ⟨rb,0,none⟩),zt ⟨#[]⟩,zm m.a m.l.length m.c,zm u.a u.l.length u.c,zm ro.a ro.l.length ro.c,zr false,zm g.a g.l.length g.c] 100 from h.blk);have av:=zk (h.rows);have aw:=zk ((lx.refl [b] w));have ax:=zk (Below.refl w w);have ay:=zk (Af w);have ab:∀ W:zq,w.heap.size≤W→∀ i∈b::T,i<W:=fun W hWz i hi=>by simp only [Aa] at hi;rcases hi with rfl|hi;all_goals first|omega|(have:=h.tlt i hi;omega)
 have bi:=zk ab;have H:=zk h;clear ab;obtain ⟨ac,ad,ae,af,ag,ah,ai,aj,ak,al,am,an,ao,aq,ar,au⟩:=aa.out.all8;have c0:ro.l.length=0:=h0;have cp:=fun W=>mL ro.a ro.c W;have az:=zk (show ∀ W,zw prog 183 #[zm ro.a ro.l.length ro.c] W _ from fun W=>by rw [h0];exact cp W);clear cp h c0 h0;go_enter func153,ntmps153;go_wp2_with fail;refine (az.out _).mono ?_;rintro e w1 ⟨rfl,hb⟩;clear ac ad ae af ag ah ai aj ak al am an ao aq ar au;have a1:=zk (aa.out.onto hb);have bj:=zk (av.out.later hb);have bk:=zk (aw.out.trans (S':=[]) (.of_below hb) li);have bl:=zk (zv ay.out hb.size);have a0:=zk (ax.out.trans (hb.mono ax.out.size));clear hb az aa av aw ay;obtain ⟨a2,a3,a4,a5,a6,a7,a8,a9,ba,bb,bc,bd,be,bf,bg,bh⟩:=a1.out.all8;go_wp2;go_ret;have hbw:=a0.out.alloc a0.out.size (.cells #[zm none 0 0] 54);exact ⟨⟨t,m,u,ro,false,g⟩,rb,p,L,rfl,H.out.later hbw,rfl,.of_below hbw⟩
set_option maxHeartbeats 1600000 in
theorem pD {m:qx} {u ro:o7} {g:mo} (h:n7 T w b ⟨t,m,u,ro,false,g⟩ rb p L) (k:Nat) (hn:ro.l.length=k+1):zw prog 153 #[zp (some ⟨b,0,none⟩),zp (some ⟨b,5,none⟩),zp (some ⟨b,4,none⟩),.func (.func 154) #[] #[]] w (nk T w b (pq (l7.d ⟨t,m,u,ro,false,g⟩))):=by
 have hbl:b<w:=h.lt;have hk':(mf ro.l).length=k+1:=by rw [aD];exact hn
 have hst:(mf ro.l)[k]! = (ro.l[k]!).l:=cO ro.l k lg;obtain ⟨t',hrun,hv,hz⟩:=xV h.inv hk';have hyes:=uF (s:=l7.d ⟨t,m,u,ro,false,g⟩) rfl hk' hrun;have hie:=wN h.inv;have hlen:=(h.inv.rl.2 _ (dH (L:=mf ro.l) (k:=k) lg)).2;have hok:=h.inv.re _ (dH (L:=mf ro.l) (k:=k) lg);have hu:∀ x∈ro.l,x.l.length≤1000000:=eH fun y hy=>zv (h.inv.rl.2 y hy).2 lj;have hw:k≤900:=by have h2:(mf ro.l).length≤16:=h.inv.rl.1;omega
 have htl:u.l.length≤900∧∀ x∈u.l,x.l.length≤1000000:=by
  have h2:(mf u.l).length≤16:=h.inv.ul.1;rw [aD] at h2;exact ⟨lg,eH fun y hy=>zv (h.inv.ul.2 y hy).2 lj⟩
 replace hyes:pq (l7.d ⟨t,m,u,ro,false,g⟩)=((⟨t',rq m.l (mf ro.l)[k]!,np (mf u.l) (mf ro.l)[k]!,(mf ro.l).take k,false,g.l⟩:mg),0):=hyes;rw [hyes] at hie ⊢;replace hrun:ms t ((mf ro.l)[k]!)=(t',0):=hrun;replace hok:∀ x∈(mf ro.l)[k]!,o8 x=true:=hok;rw [hst] at hrun hlen hok hie ⊢;obtain ⟨sl,hsl⟩:∃ sl,(ro.l[k]!).l=sl:=⟨_,rfl⟩;rw [hsl] at hrun hlen hok hie ⊢;have hms:=h.inv.shown hrun;have hez:=h.inv.edz hok;have hep:=jQ (t:=t) h.inv.z hrun;have hof:ofE t'=0:=rC hv hz;have htz:t.size≤4096:=h.inv.z;have hml:m.l.length≤1000000:=zv h.inv.ml lj;have hmc:m.l.length≤m.c∧m.c≤Ap:=⟨h.ml,h.mc⟩;have jx:=zk hrun;have j5:=zk hms;have hx:=zk hez;have j6:=zk hep;have j7:=zk hof;have j8:=zk hml;have j9:=zk hmc;have HI:=zk hie;have h0:=zk htl;have ka:=zk hsl;clear hrun hms hez hep hof hml hmc hie htl hyes hok hst hk' hv;have an:=zk (show l6 w b #[zr true,zp (some ⟨rb,0,none⟩),zt ⟨#[]⟩,zm m.a m.l.length m.c,zm u.a u.l.length u.c,zm ro.a ro.l.length ro.c,zr false,zm g.a g.l.length g.c] 100 from h.blk);have h1:=zk (h.rows);have h6:=zk ((lx.refl [b] w));have h7:=zk (Below.refl w w);have h8:=zk (Af w);have ao:∀ W:zq,w.heap.size≤W→∀ i∈b::T,i<W:=fun W hWz i hi=>by simp only [Aa] at hi;rcases hi with rfl|hi;all_goals first|omega|(have:=h.tlt i hi;omega)
 have h9:=zk ao;have H:=zk h;clear ao;obtain ⟨bs,bu,bv,bw,bx,bz,b3,b4,b5,b6,b7,b8,b9,ca,cb,cc⟩:=an.out.all8;have cp:=fun W (hW:Below w w W)=>(mB ro.a ro.l ro.c k W (h.rows.r.later hW).in hn hw hu).mono fun e w' hh=>oD (S:=b::T) hh (h9.out W hW.size);rw [← hn] at cp;simp only [ka.out] at cp;clear hn hw hu;have ct:=fun W (hW:Below w w W)=>nR (h.rope.later hW);have CT:=zk ct;have ia:=zk cp;clear cp ct h;go_enter func153,ntmps153;go_wp2_with fail;refine (ia.out _ (Below.refl _ _)).mono ?_;rintro e w1 ⟨⟨xa,xl,xc⟩,a2,c2,rfl,hxl,hsx,ib,hb⟩;clear bs bu bv bw bx bz b3 b4 b5 b6 b7 b8 b9 ca cb cc;have aq:=zk (an.out.onto hb);have ic:=zk (h1.out.later hb);have ie:=zk (h6.out.trans (S':=[]) (.of_below hb) li);have ar:=zk (zv h8.out hb.size);have ig:=zk (h7.out.trans (hb.mono h7.out.size));have kb:=zk hxl;have ih:=zk (hsx);have ii:=zk (ib);clear hb hxl hsx ib ia an h1 h6 h8;obtain ⟨cd,ce,cf,cg,ch,ci,cj,ck,cl,cm,cn,cu,cv,cw,cx,cy⟩:=aq.out.all8;have ky:w.heap.size≤w1:=ar.out;obtain ⟨ij,hwA1,kA,hbA,hzA⟩:=n8 w1 #[zm a2 sl.length c2] 54;have au:=zk (aq.out.onto hbA);have ik:=zk (ic.out.later hbA);have il:=zk (ih.out.later hbA);have im:=zk (ii.out.later hbA);have io:=zk (ie.out.trans (S':=[]) (.of_below hbA) li);have ip:=zk (zv ar.out hbA.size);have iq:=zk (ig.out.trans (hbA.mono ig.out.size));have av:=zk kA;have aw:w1.heap.size<ij:=lg;have k2:=zk aw;clear kA hbA hzA aw aq ic ih ii ie ar;obtain ⟨cz,c3,c4,c5,c6,c7,c8,c9,da,db,dc,dd,de,df,dg,dh⟩:=au.out.all8;obtain ⟨di,dj⟩:=av.out.all1;have CI:=zk (UV a2 sl.length c2 ij);go_wp2_with fail;refine (CI.out).mono ?_;rintro e w3 ⟨rfl,hb⟩;clear cd ce cf cg ch ci cj ck cl cm cn cu cv cw cx cy hwA1 cz c3 c4 c5 c6 c7 c8 c9 da db dc dd de df dg dh di dj;have ax:=zk (au.out.onto hb);have ay:=zk (av.out.onto hb);have ir:=zk (ik.out.later hb);have it:=zk (il.out.later hb);have iu:=zk (im.out.later hb);have iv:=zk (io.out.trans (S':=[]) (.of_below hb) li);have az:=zk (zv ip.out hb.size);have iw:=zk (iq.out.trans (hb.mono iq.out.size));clear hb CI au av ik il im io ip;obtain ⟨dk,dl,dm,dn,dp,dq,dr,ds,dt,du,dv,dw,dx,dy,dz,d0⟩:=ax.out.all8;obtain ⟨d1,d2⟩:=ay.out.all1;have kz:w.heap.size≤w3:=az.out;obtain ⟨ac,hwA3,kA,hbA,hzA⟩:=n8 w3 #[zm a2 sl.length c2] 54;have af:=zk (ax.out.onto hbA);have a0:=zk (ay.out.onto hbA);have ix:=zk (ir.out.later hbA);have iy:=zk (it.out.later hbA);have a1:=zk (iu.out.later hbA);have iz:=zk (iv.out.trans (S':=[]) (.of_below hbA) li);have i0:=zk (zv az.out hbA.size);have a3:=zk (iw.out.trans (hbA.mono iw.out.size));have ag:=zk kA;have a4:w3.heap.size<ac:=lg;have k3:=zk a4;clear kA hbA hzA a4 ax ay ir it iu iv az;obtain ⟨d3,d4,d5,d6,d7,d8,d9,ea,eb,ec,ed,ee,ef,eg,eh,ei⟩:=af.out.all8;obtain ⟨ej,ek⟩:=a0.out.all1;obtain ⟨el,em⟩:=ag.out.all1;have cr:=fun W (hW:Below ac ac W)=>iT t a2 sl c2 W (a1.out.later hW).in.row lg lg hx.out;rw [jx.out] at cr;have CR:=zk cr;clear cr;have hfs:∀ W,Below ac ac W→W ⟨b,1,none⟩=some (zp (some ⟨rb,0,none⟩))∧W ⟨w3,0,none⟩=some (zm a2 sl.length c2):=fun W h=>⟨(af.out.onto h).cell 1 _ rfl,(ag.out.onto h).cell 0 _ rfl⟩;have FS:=zk hfs;clear hfs;go_wp2_with fail;clear dk dl dm dn dp dq dr ds dt du dv dw dx dy dz d0 d1 d2 hwA3 d3 d4 d5 d6 d7 d8 d9 ea eb ec ed ee ef eg eh ei ej ek el em;refine Al (S:=(fun W:zq=>W ⟨b,1,none⟩=some (zp (some ⟨rb,0,none⟩))∧W ⟨w3,0,none⟩=some (zm a2 sl.length c2))) lh (FS.out _ (Below.refl _ _).drew) (fun hHeld=>?_);refine lz 0 ?_;refine lz 1 ?_;refine lz 2 ?_;refine lz 3 ?_;refine lz 5 ?_;refine m8 4 fun K hK=>?_;go_simp
 (go_at_call 59;refine (CT.out _ a3.out.drew).mono ?_;rintro e y1 ⟨rfl,i1⟩;have ad:Below ac ac y1:=(Below.refl _ _).drew.trans i1)
 try go_wp2_with fail
 refine hK.out _ _ ?_ (fun hHeld=>?_)
 ·exact FS.out _ ad
 clear hK K
 try simp only [Ab,mj]
 refine m8 6 fun K hK=>?_;go_simp
 (go_at_call 89;refine (CR.out _ ad).mono ?_;rintro e y2 ⟨rfl,i2⟩;have ab:Below ac ac y2:=ad.trans (i2.mono ad.size))
 try go_wp2_with fail
 refine hK.out _ _ ?_ (fun hHeld=>?_)
 ·exact FS.out _ ab
 clear hK K
 try simp only [Ab,mj]
 refine lz 7 ?_;refine lz 8 ?_;refine lz 9 ?_;refine lz 10 ?_;refine lz 11 ?_;refine Am lh ?_ _;have a5:=zk (af.out.onto ab);have a6:=zk (a0.out.onto ab);have a7:=zk (ag.out.onto ab);have i3:=zk (ix.out.later ab);have i4:=zk (iy.out.later ab);have i5:=zk (a1.out.later ab);have i6:=zk (iz.out.trans (S':=[]) (.of_below ab) li);have i7:=zk (zv i0.out ab.size);have i8:=zk (a3.out.trans (ab.mono a3.out.size));clear i1 ad i2 ab CT CR FS af a0 ag ix iy a1 iz i0;obtain ⟨en,eo,er,es,et,eu,ev,ew,ey,e0,e3,e4,e5,e6,e7,e8⟩:=a5.out.all8;obtain ⟨e9,fa⟩:=a6.out.all1;obtain ⟨fb,fc⟩:=a7.out.all1;have co:=(EH t' lq y2).mono fun e w' h=>h.yes j7.out;have CO:=zk co;clear co;go_wp2_with fail;refine (CO.out).mono ?_;rintro e w6 ⟨rb',p',L',rfl,hR,hb⟩;clear en eo er es et eu ev ew ey e0 e3 e4 e5 e6 e7 e8 e9 fa fb fc;have a8:=zk (a5.out.onto hb);have ae:=zk (a6.out.onto hb);have a9:=zk (a7.out.onto hb);have ba:=zk (i3.out.later hb);have i9:=zk (i4.out.later hb);have bb:=zk (i5.out.later hb);have ja:=zk (i6.out.trans (S':=[]) (.of_below hb) li);have bc:=zk (zv i7.out hb.size);have jb:=zk (i8.out.trans (hb.mono i8.out.size));have jc:=zk (hR);clear hb hR CO a5 a6 a7 i3 i4 i5 i6 i7;obtain ⟨fd,fe,ff,fg,ah,fh,fi,fj,fk,fm,fn,fo,fp,fq,fr,fs⟩:=a8.out.all8;obtain ⟨ft,fu⟩:=ae.out.all1;obtain ⟨fv,fw⟩:=a9.out.all1;have cq:=fun W (hW:Below w6 w6 W)=>(iL u.a u.l u.c ⟨a2,sl,c2⟩ W (ba.out.u.later hW).in (bb.out.later hW).in h0.out.1 h0.out.2 (by show sl.length≤1000000;omega)).mono fun e w' hh=>jI (S:=b::T) hh (h9.out W (zv bc.out hW.size));have CQ:=zk cq;clear cq;have q5:w6.drew ⟨b,4,none⟩=some (zm u.a u.l.length u.c):=ah;go_wp2_with fail;clear fd fe ff fg ah fh fi fj fk fm fn fo fp fq fr fs ft fu fv fw;refine Al (S:=(fun W:zq=>W ⟨w1,0,none⟩=some (zm a2 sl.length c2))) lh (ae.out.cell 0 _ rfl) (fun hHeld=>?_);refine lz 0 ?_;refine lz 1 ?_;refine lz 2 ?_;refine lz 3 ?_;refine lz 4 ?_;refine lz 6 ?_;refine m8 5 fun K hK=>?_;go_simp;skip
 try go_wp2_with fail
 refine hK.out _ _ ?_ (fun hHeld=>?_)
 ·exact hHeld
 clear hK K
 try simp only [Ab,mj]
 refine m8 7 fun K hK=>?_;go_simp
 (go_at_call 184;refine (CQ.out _ (Below.refl _ _).drew).mono ?_;rintro e y3 ⟨⟨za,zl,zc⟩,rfl,hzl,hsz,jd⟩;have aa:Below w6 w6 y3:=(Below.refl _ _).drew.trans jd)
 try go_wp2_with fail
 refine hK.out _ _ ?_ (fun hHeld=>?_)
 ·exact (ae.out.onto aa).cell 0 _ rfl
 clear hK K
 try simp only [Ab,mj]
 clear q5;have ai:=zk (a8.out.onto aa);have aj:=zk (ae.out.onto aa);have bd:=zk (a9.out.onto aa);have je:=zk (ba.out.later aa);have jf:=zk (i9.out.later aa);have jg:=zk (bb.out.later aa);have jh:=zk (jc.out.later aa);have ji:=zk (ja.out.trans (S':=[]) (.of_below aa) li);have jj:=zk (zv bc.out aa.size);have k4:=zk (jb.out.trans (aa.mono jb.out.size));have kc:=zk hzl;have jk:=zk hsz;clear hzl hsz jd aa CQ a8 ae a9 ba i9 bb jc ja bc;obtain ⟨fx,fy,fz,f0,f1,f2,f3,f4,f5,f6,f7,f8,f9,ga,gb,gc⟩:=ai.out.all8;obtain ⟨gd,gf⟩:=aj.out.all1;obtain ⟨gg,gh⟩:=bd.out.all1;refine lz 8 ?_;refine m8 9 fun K hK=>?_;go_simp;skip
 try go_wp2_with fail
 refine hK.out _ _ ?_ (fun hHeld=>?_)
 ·exact (aj.out.other ⟨b,5,none⟩ (by show b≠w1;omega) _).cell 0 _ rfl
 clear hK K
 try simp only [Ab,mj]
 refine lz 10 ?_;have kO:l6 (y3.setCell ⟨b,5,none⟩ (zm xa xl.length xc)) (b) #[zr true,zp (some ⟨rb,0,none⟩),zt ⟨#[]⟩,zm m.a m.l.length m.c,zm u.a u.l.length u.c,zm xa xl.length xc,zr false,zm g.a g.l.length g.c] 100:=(ai.out.set 5 _);have kP:l6 (y3.setCell ⟨b,5,none⟩ (zm xa xl.length xc)) (w1) #[zm a2 sl.length c2] 54:=(aj.out.other ⟨b,5,none⟩ (by show b≠w1;omega) _);have kQ:l6 (y3.setCell ⟨b,5,none⟩ (zm xa xl.length xc)) (w3) #[zm a2 sl.length c2] 54:=(bd.out.other ⟨b,5,none⟩ (by show b≠w3;omega) _);have ap0:lx [b] y3 (y3.setCell ⟨b,5,none⟩ (zm xa xl.length xc)):=(lx.refl [b] y3).setCell (p:=⟨b,5,none⟩) (.inl li) _;have ap:lx (b::T) y3 (y3.setCell ⟨b,5,none⟩ (zm xa xl.length xc)):=(lx.refl (b::T) y3).setCell (p:=⟨b,5,none⟩) (.inl li) _;have rS:=je.out.apart ap;have rX:=jf.out.apart ap;have rE:=jg.out.apart ap;have rN:=n9.apart jh.out ai.out rfl ap0;have rZ:=jk.out.apart ap;have hB:=((ji.out.setCell (p:=⟨b,5,none⟩) li _):lx [b] w (y3.setCell ⟨b,5,none⟩ (zm xa xl.length xc)));have hz:(y3.setCell ⟨b,5,none⟩ (zm xa xl.length xc)).heap.size=y3:=li;obtain ⟨v8,be⟩:∃ V,(y3.setCell ⟨b,5,none⟩ (zm xa xl.length xc))=V:=⟨_,rfl⟩;rw [be] at kO kP kQ rS rX rE rN rZ hB hz;rw [be];have ak:=zk kO;have al:=zk kP;have bf:=zk kQ;have jl:=zk rS;have jm:=zk rX;have jn:=zk rE;have jo:=zk rN;have jp:=zk rZ;have jq:=zk hB;have jr:=zk (zv jj.out (Aq hz.symm));clear kO kP kQ rS rX rE rN rZ hB hz ap ai aj bd je jf jg jh jk ji jj;obtain ⟨gi,gj,gk,gm,gn,gp,gq,gs,gt,gu,gv,gw,gx,gy,gz,g0⟩:=ak.out.all8;obtain ⟨g1,g2⟩:=al.out.all1;obtain ⟨g3,g4⟩:=bf.out.all1;refine m8 11 fun K hK=>?_;go_simp;skip
 try go_wp2_with fail
 refine hK.out _ _ ?_ (fun hHeld=>?_)
 ·exact (al.out.other ⟨b,4,none⟩ (by show b≠w1;omega) _).cell 0 _ rfl
 clear hK K
 try simp only [Ab,mj]
 refine Am lh ?_ _;have kO:l6 (v8.setCell ⟨b,4,none⟩ (zm za zl.length zc)) (b) #[zr true,zp (some ⟨rb,0,none⟩),zt ⟨#[]⟩,zm m.a m.l.length m.c,zm za zl.length zc,zm xa xl.length xc,zr false,zm g.a g.l.length g.c] 100:=(ak.out.set 4 _);have kP:l6 (v8.setCell ⟨b,4,none⟩ (zm za zl.length zc)) (w1) #[zm a2 sl.length c2] 54:=(al.out.other ⟨b,4,none⟩ (by show b≠w1;omega) _);have kQ:l6 (v8.setCell ⟨b,4,none⟩ (zm za zl.length zc)) (w3) #[zm a2 sl.length c2] 54:=(bf.out.other ⟨b,4,none⟩ (by show b≠w3;omega) _);have ap0:lx [b] v8 (v8.setCell ⟨b,4,none⟩ (zm za zl.length zc)):=(lx.refl [b] v8).setCell (p:=⟨b,4,none⟩) (.inl li) _;have ap:lx (b::T) v8 (v8.setCell ⟨b,4,none⟩ (zm za zl.length zc)):=(lx.refl (b::T) v8).setCell (p:=⟨b,4,none⟩) (.inl li) _;have rS:=jl.out.apart ap;have rX:=jm.out.apart ap;have rE:=jn.out.apart ap;have rN:=n9.apart jo.out ak.out rfl ap0;have rZ:=jp.out.apart ap;have hB:=((jq.out.setCell (p:=⟨b,4,none⟩) li _):lx [b] w (v8.setCell ⟨b,4,none⟩ (zm za zl.length zc)));have hz:(v8.setCell ⟨b,4,none⟩ (zm za zl.length zc)).heap.size=v8:=li;obtain ⟨v9,bg⟩:∃ V,(v8.setCell ⟨b,4,none⟩ (zm za zl.length zc))=V:=⟨_,rfl⟩;rw [bg] at kO kP kQ rS rX rE rN rZ hB hz;rw [bg];have am:=zk kO;have bh:=zk kP;have bi:=zk kQ;have bj:=zk rS;have js:=zk rX;have bk:=zk rE;have jt:=zk rN;have ju:=zk rZ;have bl:=zk hB;have jv:=zk (zv jr.out (Aq hz.symm));clear kO kP kQ rS rX rE rN rZ hB hz ap ak al bf jl jm jn jo jp jq jr;obtain ⟨g5,g6,g7,g8,g9,hc,hd,he,hf,hg,hj,hk,hl,hm,ho,hp⟩:=am.out.all8;obtain ⟨hq,hr⟩:=bh.out.all1;obtain ⟨hs,ht⟩:=bi.out.all1;have csh:=nD (made:=true) (r:=some ⟨rb,0,none⟩) (t:=⟨#[]⟩) (m:=m) (u:=⟨za,zl,zc⟩) (ro:=⟨xa,xl,xc⟩) (o:=false) (g:=g) am.out (fun i hi=>Ai (H.out.tlt i hi) bl.out.size) bj.out.m j8.out j9.out (some ⟨rb',0,none⟩) ⟨a2,sl,c2⟩ bk.out (by show sl.length≤100000;omega) hx.out j6.out j5.out;have kd:=zk csh;clear csh;go_wp2_with fail;refine (kd.out).mono ?_;rintro e wZ ⟨rfl,⟨ma,ml,mc⟩,bm,bn,jw,bo,ha⟩;clear fx fy fz f0 f1 f2 f3 f4 f5 f6 f7 f8 f9 ga gb gc gd gf gg gh be gi gj gk gm gn gp gq gs gt gu gv gw gx gy gz g0 g1 g2 g3 g4 bg g5 g6 g7 g8 g9 hc hd he hf hg hj hk hl hm ho hp hq hr hs ht;have bp:=zk (jw);have jy:=zk (bh.out.apart ha lu);have jz:=zk (bi.out.apart ha lu);have j0:=zk (bj.out.apart (ha.more li));have j1:=zk (js.out.apart (ha.more li));have k0:=zk (bk.out.apart (ha.more li));have j2:=zk (n9.apart jt.out am.out rfl ha);have j3:=zk (ju.out.apart (ha.more li));have bq:=zk (bl.out.trans ha li);have k1:=zk (zv jv.out ha.size);have br:=zk (zx bm bn);have j4:=zk (bo);clear ha bm bn jw bo am bh bi bj js bk jt ju bl jv;obtain ⟨ke,kf,kg,kh,ki,kj,kk,kl,km,kn,ko,kp,kq,kr,ks,kt⟩:=bp.out.all8;obtain ⟨ku,kv⟩:=jy.out.all1;obtain ⟨kw,kx⟩:=jz.out.all1;go_wp2;go_ret;have h3:ml=rq m.l sl:=br.out.1;have h4:mf xl=_:=kb.out;have h5:mf zl=_:=kc.out;refine ⟨⟨t',⟨ma,ml,mc⟩,⟨za,zl,zc⟩,⟨xa,xl,xc⟩,false,g⟩,rb',p',L',rfl,⟨bp.out,j2.out,⟨j4.out,j3.out,j1.out,j0.out.g⟩,br.out.2.1,br.out.2.2,?_,fun i hi=>Ai (H.out.tlt i hi) bq.out.size⟩,?_,bq.out⟩
 ·show mx (⟨t',ml,mf zl,mf xl,false,g.l⟩:mg);rw [h3,h4,h5];exact HI.out
 ·show (⟨t',ml,mf zl,mf xl,false,g.l⟩:mg)=_;rw [h3,h4,h5]
theorem wH {s:l7} (h:n7 T w b s rb p L):zw prog 153 #[zp (some ⟨b,0,none⟩),zp (some ⟨b,4,none⟩),zp (some ⟨b,5,none⟩),.func (.func 87) #[] #[]] w (nk T w b (po s.d)):=by
 obtain ⟨t,m,u,ro,so,g⟩:=s;cases so with
 | true =>
  have e:po (l7.d ⟨t,m,u,ro,true,g⟩)=(l7.d ⟨t,m,u,ro,true,g⟩,11):=by unfold po;exact if_pos rfl
  rw [e];exact nX h
 | false =>
  cases hn:u.l.length with
  | zero =>
   have e:po (l7.d ⟨t,m,u,ro,false,g⟩)=(l7.d ⟨t,m,u,ro,false,g⟩,10):=by unfold po;exact (if_neg (fun h=>by cases h)).trans (if_pos (show (mf u.l).length=0 by rw [aD];exact hn))
   rw [e];exact oA h hn
  | succ k=>exact pB h k hn
set_option maxHeartbeats 800000 in
theorem RP {s:l7} (h:n7 T w b s rb p L) (k i n:Int) (x:ByteArray):zw prog 122 #[zp (some ⟨b,0,none⟩),(Ag #[zn zo k,zn zo i,zn zo n,zt x])] w (nk T w b (po s.d)):=by
 obtain ⟨wX,hwX,kE,aa,hz⟩:=n8 w #[zn zo k,zn zo i,zn zo n,zt x] 50;have ct:=fun W (hW:Below w w W)=>wH (h.later hW);obtain ⟨R,hR⟩:∃ R,po s.d=R:=⟨_,rfl⟩;rw [hR] at ct ⊢;obtain ⟨Rs,Re⟩:=R;have CT:=zk ct;have ab:=zk aa;clear ct hR kE aa hz h;go_enter func122,ntmps122;go_wp2_with fail;refine Al (S:=(fun _:zq=>True)) lh Aw (fun hHeld=>?_);refine lz 0 ?_;refine lz 1 ?_;refine lz 2 ?_;refine lz 3 ?_;refine lz 4 ?_;refine lz 5 ?_;refine lz 6 ?_;refine lz 7 ?_;refine lz 8 ?_;refine m8 9 fun K hK=>?_;go_simp
 (go_at_call 153;refine (CT.out _ (ab.out.drew)).mono ?_;rintro e w1 ⟨s1,rb1,p1,L1,rfl,ac,ad,ae⟩;have HQ:=zk (zx ac (zx ad ae));clear ac ad ae)
 try go_wp2_with fail
 refine hK.out _ _ ?_ (fun hHeld=>?_)
 ·exact Aw
 clear hK K
 try simp only [Ab,mj]
 refine lz 10 ?_;refine Am lh ?_ _;go_wp2;go_ret;exact ⟨s1,rb1,p1,L1,rfl,HQ.out.1,HQ.out.2.1,(lx.of_below (S:=[b]) ab.out.drew).trans HQ.out.2.2 (fun x hx=>.inl hx)⟩
theorem yT {s:l7} (h:n7 T w b s rb p L):zw prog 153 #[zp (some ⟨b,0,none⟩),zp (some ⟨b,5,none⟩),zp (some ⟨b,4,none⟩),.func (.func 154) #[] #[]] w (nk T w b (pq s.d)):=by
 obtain ⟨t,m,u,ro,so,g⟩:=s;cases so with
 | true =>
  have e:pq (l7.d ⟨t,m,u,ro,true,g⟩)=(l7.d ⟨t,m,u,ro,true,g⟩,11):=by unfold pq;exact if_pos rfl
  rw [e];exact nY h
 | false =>
  cases hn:ro.l.length with
  | zero =>
   have e:pq (l7.d ⟨t,m,u,ro,false,g⟩)=(l7.d ⟨t,m,u,ro,false,g⟩,10):=by unfold pq;exact (if_neg (fun h=>by cases h)).trans (if_pos (show (mf ro.l).length=0 by rw [aD];exact hn))
   rw [e];exact nW h hn
  | succ k=>exact pD h k hn
set_option maxHeartbeats 800000 in
theorem SO {s:l7} (h:n7 T w b s rb p L) (k i n:Int) (x:ByteArray):zw prog 123 #[zp (some ⟨b,0,none⟩),(Ag #[zn zo k,zn zo i,zn zo n,zt x])] w (nk T w b (pq s.d)):=by
 obtain ⟨wX,hwX,kE,aa,hz⟩:=n8 w #[zn zo k,zn zo i,zn zo n,zt x] 50;have ct:=fun W (hW:Below w w W)=>yT (h.later hW);obtain ⟨R,hR⟩:∃ R,pq s.d=R:=⟨_,rfl⟩;rw [hR] at ct ⊢;obtain ⟨Rs,Re⟩:=R;have CT:=zk ct;have ab:=zk aa;clear ct hR kE aa hz h;go_enter func123,ntmps123;go_wp2_with fail;refine Al (S:=(fun _:zq=>True)) lh Aw (fun hHeld=>?_);refine lz 0 ?_;refine lz 1 ?_;refine lz 2 ?_;refine lz 3 ?_;refine lz 4 ?_;refine lz 5 ?_;refine lz 6 ?_;refine lz 7 ?_;refine lz 8 ?_;refine m8 9 fun K hK=>?_;go_simp
 (go_at_call 153;refine (CT.out _ (ab.out.drew)).mono ?_;rintro e w1 ⟨s1,rb1,p1,L1,rfl,ac,ad,ae⟩;have HQ:=zk (zx ac (zx ad ae));clear ac ad ae)
 try go_wp2_with fail
 refine hK.out _ _ ?_ (fun hHeld=>?_)
 ·exact Aw
 clear hK K
 try simp only [Ab,mj]
 refine lz 10 ?_;refine Am lh ?_ _;go_wp2;go_ret;exact ⟨s1,rb1,p1,L1,rfl,HQ.out.1,HQ.out.2.1,(lx.of_below (S:=[b]) ab.out.drew).trans HQ.out.2.2 (fun x hx=>.inl hx)⟩
set_option maxHeartbeats 400000 in
theorem GR (w:zq):zw prog 96 #[zn zo 1] w fun e w'=>e=Ad (.func (.func 118) #[] #[])∧w=w':=by
 go_enter func96,ntmps96;go_wp2;go_ret;exact ⟨rfl,rfl⟩
set_option maxHeartbeats 400000 in
theorem EG (w:zq):zw prog 96 #[zn zo 2] w fun e w'=>e=Ad (.func (.func 119) #[] #[])∧w=w':=by
 go_enter func96,ntmps96;go_wp2;go_ret;exact ⟨rfl,rfl⟩
set_option maxHeartbeats 400000 in
theorem DF (w:zq):zw prog 96 #[zn zo 3] w fun e w'=>e=Ad (.func (.func 120) #[] #[])∧w=w':=by
 go_enter func96,ntmps96;go_wp2;go_ret;exact ⟨rfl,rfl⟩
set_option maxHeartbeats 400000 in
theorem FU (w:zq):zw prog 96 #[zn zo 4] w fun e w'=>e=Ad (.func (.func 121) #[] #[])∧w=w':=by
 go_enter func96,ntmps96;go_wp2;go_ret;exact ⟨rfl,rfl⟩
set_option maxHeartbeats 400000 in
theorem DW (w:zq):zw prog 96 #[zn zo 5] w fun e w'=>e=Ad (.func (.func 122) #[] #[])∧w=w':=by
 go_enter func96,ntmps96;go_wp2;go_ret;exact ⟨rfl,rfl⟩
set_option maxHeartbeats 400000 in
theorem EJ (w:zq):zw prog 96 #[zn zo 6] w fun e w'=>e=Ad (.func (.func 123) #[] #[])∧w=w':=by
 go_enter func96,ntmps96;go_wp2;go_ret;exact ⟨rfl,rfl⟩
set_option maxHeartbeats 400000 in
theorem DJ (w:zq):zw prog 96 #[zn zo 7] w fun e w'=>e=Ad (.func (.func 124) #[] #[])∧w=w':=by
 go_enter func96,ntmps96;go_wp2;go_ret;exact ⟨rfl,rfl⟩
set_option maxHeartbeats 400000 in
theorem EX (w:zq):zw prog 96 #[zn zo 8] w fun e w'=>e=Ad (.func (.func 125) #[] #[])∧w=w':=by
 go_enter func96,ntmps96;go_wp2;go_ret;exact ⟨rfl,rfl⟩
set_option maxHeartbeats 400000 in
theorem xE (k:Int) (hk:¬ (1≤k∧k≤8)) (w:zq):zw prog 96 #[zn zo k] w fun e w'=>e=Ad .nilFunc∧w=w':=by
 have q1:(k == 1)=false:=beq_eq_false_iff_ne.2 lg;have q2:(k == 2)=false:=beq_eq_false_iff_ne.2 lg;have q3:(k == 3)=false:=beq_eq_false_iff_ne.2 lg;have q4:(k == 4)=false:=beq_eq_false_iff_ne.2 lg;have q5:(k == 5)=false:=beq_eq_false_iff_ne.2 lg;have q6:(k == 6)=false:=beq_eq_false_iff_ne.2 lg;have q7:(k == 7)=false:=beq_eq_false_iff_ne.2 lg;have q8:(k == 8)=false:=beq_eq_false_iff_ne.2 lg;go_enter func96,ntmps96;go_wp2;go_ret;exact ⟨rfl,rfl⟩
theorem TM (w:zq):(Aj .eql 136 (.func (.func 118) #[] #[]) .nilFunc).run prog w=.ok (zr false) w:=lh
theorem SY (w:zq):(Aj .eql 136 (.func (.func 119) #[] #[]) .nilFunc).run prog w=.ok (zr false) w:=lh
theorem TY (w:zq):(Aj .eql 136 (.func (.func 120) #[] #[]) .nilFunc).run prog w=.ok (zr false) w:=lh
theorem TG (w:zq):(Aj .eql 136 (.func (.func 121) #[] #[]) .nilFunc).run prog w=.ok (zr false) w:=lh
theorem UG (w:zq):(Aj .eql 136 (.func (.func 122) #[] #[]) .nilFunc).run prog w=.ok (zr false) w:=lh
theorem TP (w:zq):(Aj .eql 136 (.func (.func 123) #[] #[]) .nilFunc).run prog w=.ok (zr false) w:=lh
theorem UC (w:zq):(Aj .eql 136 (.func (.func 124) #[] #[]) .nilFunc).run prog w=.ok (zr false) w:=lh
theorem UJ (w:zq):(Aj .eql 136 (.func (.func 125) #[] #[]) .nilFunc).run prog w=.ok (zr false) w:=lh
theorem TW (w:zq):(Aj .eql 136 .nilFunc .nilFunc).run prog w=.ok (zr true) w:=lh
set_option maxHeartbeats 800000 in
theorem gB {s:l7} (h:n7 T w b s rb p L) (k:Int) {F:FuncId} (ent:∀ (args:Array Ae) (w:zq),(Ax F args).run prog w=.ok (.enter F args) w)
 (cm:∀ w:zq,zw prog 96 #[zn zo k] w fun e w'=>e=Ad (.func (.func F) #[] #[])∧w=w')
 (cq:∀ w:zq,(Aj .eql 136 (.func (.func F) #[] #[]) .nilFunc).run prog w=.ok (zr false) w)
 (i n:Int) (x:ByteArray) {R:mg×Int} (hc:∀ W,Below w w W→zw prog F #[zp (some ⟨b,0,none⟩),(Ag #[zn zo k,zn zo i,zn zo n,zt x])] W (nk T W b R)) :
 zw prog 61 #[zp (some ⟨b,0,none⟩),(Ag #[zn zo k,zn zo i,zn zo n,zt x])] w (nk T w b R):=by
 obtain ⟨Rs,Re⟩:=R;obtain ⟨wX,hwX,kE,aa,hz⟩:=n8 w #[zn zo k,zn zo i,zn zo n,zt x] 50;have cn:=fun W (hW:Below wX wX W)=>oS ((h.later aa).later hW).blk;have cf:=LE true (some ⟨rb,0,none⟩) ⟨#[]⟩ s.m.a s.m.l.length s.m.c s.u.a s.u.l.length s.u.c s.r.a s.r.l.length s.r.c s.o s.g.a s.g.l.length s.g.c;have CN:=zk cn;have CM:=zk cm;have CC:=zk hc;have ac:=zk aa;have KE:=zk kE;obtain ⟨z0,z1,z2,z3,-,-,-,-⟩:=kE.four;clear cn cm kE aa hz h hc;go_enter func61,ntmps61;go_wp2_with fail;refine (CM.out _).mono ?_;rintro e w1 ⟨rfl,rfl⟩;go_wp2_with fail;refine (CN.out _ (Below.refl _ _)).mono ?_;rintro e w1 ⟨rfl,ab⟩;have ad:=zk (ac.out.trans (ab.mono ac.out.size));clear z0 z1 z2 z3 hwX;obtain ⟨z0,z1,z2,z3,-,-,-,-⟩:=(KE.out.onto ab).four;clear ab;go_wp2_with fail;refine (CC.out _ ad.out).mono ?_;rintro e w2 ⟨s1,rb1,p1,L1,rfl,ae,af,ag⟩;have HQ:=zk (zx ae (zx af ag));clear ae af ag z0 z1 z2 z3;go_wp2;go_ret;exact ⟨s1,rb1,p1,L1,rfl,HQ.out.1,HQ.out.2.1,(lx.of_below (S:=[b]) ad.out).trans HQ.out.2.2 (fun x hx=>.inl hx)⟩
set_option maxHeartbeats 800000 in
theorem QP {s:l7} (h:n7 T w b s rb p L) (k i n:Int) (x:ByteArray) (hk:¬ (1≤k∧k≤8)) :
 zw prog 61 #[zp (some ⟨b,0,none⟩),(Ag #[zn zo k,zn zo i,zn zo n,zt x])] w (nk T w b (s.d,2)):=by
 obtain ⟨wX,hwX,kE,aa,hz⟩:=n8 w #[zn zo k,zn zo i,zn zo n,zt x] 50;have cn:=fun W (hW:Below wX wX W)=>oS ((h.later aa).later hW).blk;have cf:=LE true (some ⟨rb,0,none⟩) ⟨#[]⟩ s.m.a s.m.l.length s.m.c s.u.a s.u.l.length s.u.c s.r.a s.r.l.length s.r.c s.o s.g.a s.g.l.length s.g.c;have cq:=TW;have CN:=zk cn;have CM:=zk (xE k hk);have ab:=zk aa;have H:=zk h;obtain ⟨z0,z1,z2,z3,-,-,-,-⟩:=kE.four;clear cn kE aa hz h hk;go_enter func61,ntmps61;go_wp2_with fail;refine (CM.out _).mono ?_;rintro e w1 ⟨rfl,rfl⟩;go_wp2_with fail;refine (CN.out _ (Below.refl _ _)).mono ?_;rintro e w1 ⟨rfl,ac⟩;have ad:=zk (ab.out.trans (ac.mono ab.out.size));clear z0 z1 z2 z3 hwX ac;go_wp2;go_ret;exact ⟨s,rb,p,L,rfl,H.out.later ad.out,rfl,.of_below ad.out⟩
theorem JM {s:l7} (h:n7 T w b s rb p L) (k i n:Int) (x:ByteArray) (hi:oi i) (hx:x.size≤1000000) :
 zw prog 61 #[zp (some ⟨b,0,none⟩),(Ag #[zn zo k,zn zo i,zn zo n,zt x])] w (nk T w b (yb s.d k i n x)):=by
 by_cases hk:1≤k∧k≤8
 case neg =>
  have e:yb s.d k i n x=(s.d,2):=by
   unfold yb;rw [if_neg lg,if_neg lg,if_neg lg,if_neg lg,if_neg lg,if_neg lg,if_neg lg,if_neg lg]
  rw [e];exact QP h k i n x hk
 obtain ⟨t,m,u,ro,so,g⟩:=s;have hxm:x.size≤Ap:=lq;rcases (show k=1∨k=2∨k=3∨k=4∨k=5∨k=6∨k=7∨k=8 by omega) with rfl|rfl|rfl|rfl|rfl|rfl|rfl|rfl
 ·show zw _ _ _ w (nk T w b (vd _ i x));refine gB h 1 (fun _ _=>lm) GR TM i n x fun W hW=>?_;by_cases h1:oj t i x=0
  ·exact uM (h.later hW) 1 i n x hx hi h1
  ·have e:vd (l7.d ⟨t,m,u,ro,so,g⟩) i x=(l7.d ⟨t,m,u,ro,so,g⟩,oj t i x):=by unfold vd;exact if_pos h1
   rw [e];exact yL (h.later hW) 1 i n x hx hi h1
 ·show zw _ _ _ w (nk T w b (ve _ i n));refine gB h 2 (fun _ _=>lm) EG SY i n x fun W hW=>?_;by_cases h1:pa t i n=0
  ·exact uT (h.later hW) 2 i n x hi h1
  ·have e:ve (l7.d ⟨t,m,u,ro,so,g⟩) i n=(l7.d ⟨t,m,u,ro,so,g⟩,pa t i n):=by unfold ve;exact if_pos h1
   rw [e];exact vX (h.later hW) 2 i n x hi h1
 ·show zw _ _ _ w (nk T w b (va _ i x));refine gB h 3 (fun _ _=>lm) DF TY i n x fun W hW=>?_;have h':=h.later hW;unfold va;by_cases h1:mv x.data.toList=false
  ·rw [if_pos h1];exact vL h' 3 i n x hxm h1
  rw [if_neg h1];have h1:=aO h1;by_cases h2:i<0∨(t.size:Int)<i
  ·rw [if_pos (show i<0∨((l7.d ⟨t,m,u,ro,so,g⟩).t.size:Int)<i from h2)];rcases h2 with h2|h2
   ·exact uK h' 3 i n x hxm h1 h2
   ·exact rA h' 3 i n x hxm h1 h2
  rw [if_neg (show ¬ (i<0∨((l7.d ⟨t,m,u,ro,so,g⟩).t.size:Int)<i) from h2)];have h3:0≤i∧i≤t.size:=lg;by_cases h4:me t.data.toList i=false
  ·rw [if_pos (show me (l7.d ⟨t,m,u,ro,so,g⟩).t.data.toList i=false from h4)];exact uP h' 3 i n x hxm h1 h3 h4
  rw [if_neg (show ¬ me (l7.d ⟨t,m,u,ro,so,g⟩).t.data.toList i=false from h4)];have h4:=aO h4;unfold sc;by_cases h5:(qy m.l ⟨x,i⟩).2=0
  ·have e:(qy (l7.d ⟨t,m,u,ro,so,g⟩).m ⟨x,i⟩).2=0:=h5;rw [if_pos e,e];exact AJ h' 3 i n x hxm h1 h3 h4 h5
  ·rw [if_neg (show ¬ (qy (l7.d ⟨t,m,u,ro,so,g⟩).m ⟨x,i⟩).2=0 from h5)];exact AX h' 3 i n x hxm h1 h3 h4 h5
 ·show zw _ _ _ w (nk T w b (te _ x));refine gB h 4 (fun _ _=>lm) FU TG i n x fun W hW=>?_;have h':=h.later hW;unfold te sc;by_cases h5:(pk m.l x).2=0
  ·have e:(pk (l7.d ⟨t,m,u,ro,so,g⟩).m x).2=0:=h5;rw [if_pos e,e];exact uS h' 4 i n x h5
  ·rw [if_neg (show ¬ (pk (l7.d ⟨t,m,u,ro,so,g⟩).m x).2=0 from h5)];exact uJ h' 4 i n x h5
 ·exact gB h 5 (fun _ _=>lm) DW UG i n x fun W hW=>RP (h.later hW) 5 i n x
 ·exact gB h 6 (fun _ _=>lm) EJ TP i n x fun W hW=>SO (h.later hW) 6 i n x
 ·show zw _ _ _ w (nk T w b (tw _));refine gB h 7 (fun _ _=>lm) DJ UC i n x fun W hW=>?_;cases so with
  | true=>exact AY (h.later hW) 7 i n x
  | false=>exact wB (h.later hW) 7 i n x
 ·show zw _ _ _ w (nk T w b (s7 _));refine gB h 8 (fun _ _=>lm) EX UJ i n x fun W hW=>?_;cases so with
  | false=>exact LJ (h.later hW) 8 i n x
  | true =>
   by_cases hg:g.l.length=0
   ·have e:s7 (l7.d ⟨t,m,u,ro,true,g⟩)=(⟨t,m.l,mf u.l,mf ro.l,false,[]⟩,0):=by unfold s7;rw [if_neg (fun h=>by cases h),show (l7.d ⟨t,m,u,ro,true,g⟩).g.length=0 from hg];rfl
    rw [e];exact zL (h.later hW) 8 i n x hg
   ·have e:s7 (l7.d ⟨t,m,u,ro,true,g⟩)=(⟨t,m.l,np (mf u.l) g.l,mf ro.l,false,[]⟩,0):=by unfold s7;rw [if_neg (fun h=>by cases h),if_neg (show ¬ (l7.d ⟨t,m,u,ro,true,g⟩).g.length=0 from hg)];rfl
    rw [e];exact BB (h.later hW) 8 i n x hg
end Go.Proofs.YtbagenpobcgjnaaGreat
namespace Go.Proofs.YtbagenpobcgjnaaGreat
open Go.Proofs.Tryz
set_option maxRecDepth 100000
open Lib (hid)
open Go.RowKit
set_option linter.unusedVariables false
set_option linter.unusedSimpArgs false
theorem v7.off {base:Nat} {x:qx} (h:v7 w base x) (hS:∀ i∈S,i<base):tx S w x∧x.l.length≤x.c∧x.c≤Ap:=by
 obtain ⟨a,c,ev,hr⟩:=xS h;obtain ⟨xa,xl,xc⟩:=x;injection ev with e1 e2 e3;simp only at e1 e3;subst e1;subst e3;exact ⟨⟨hr.row.more fun b hb=>⟨hb.2,fun g=>by have:=hS b g;have:=hb.1;omega⟩,hr.nil⟩,hr.le,hr.cap⟩
theorem tr.off {base:Nat} {x:mo} (h:tr w base x) (hS:∀ i∈S,i<base):sv S w x:=by
 obtain ⟨a,c,ev,hr⟩:=dV h;obtain ⟨xa,xl,xc⟩:=x;injection ev with e1 e2 e3;simp only at e1 e3;subst e1;subst e3;exact hr.off hS
theorem tt.off {base:Nat} {x:o7} (h:tt w base x) (hs:nz w x) (hS:∀ i∈S,i<base):tf S w x:=by
 rcases h with h|⟨g,h1,h2,h3,h4⟩
 ·exact ⟨fun k hk=>absurd hk (by rw [h];simp),fun y hy=>absurd hy (by rw [h];simp),hs.nil,hs.le,hs.cap⟩
 ·refine ⟨fun k hk=>?_,fun y hy=>(h4 y hy).off fun i hi=>by have:=hS i hi;omega,hs.nil,hs.le,hs.cap⟩;obtain ⟨ad,e,hb,q⟩:=hs.row k hk;refine ⟨ad,e,⟨hb,fun gi=>?_⟩,q⟩;rw [h1] at e;cases e;have:=hS _ gi;simp only at this;omega
theorem CopI.off {s s':l7} {b1 b2 b3:Nat} {w':zq} (h:CopI w s s' b1 b2 b3 w') (hS:∀ i∈S,i<w.heap.size):mm S w' s'∧s'.m.l.length≤s'.m.c∧s'.m.c≤Ap:=by
 have l1:=h.l1;have l2:=h.l2;have l3:=h.l3;have hm:=v7.off h.m hS;exact ⟨⟨hm.1,h.u.off h.us fun i hi=>by have:=hS i hi;omega,h.r.off h.rs fun i hi=>by have:=hS i hi;omega,tr.off h.g fun i hi=>by have:=hS i hi;omega⟩,hm.2⟩
structure StaF (s:l7):Prop where
 m:s.m.l.length≤1000
 u:s.u.l.length≤1000
 r:s.r.l.length≤1000
 g:s.g.l.length≤1000
 z:∀ x∈s.u.l++s.r.l,x.l.length≤1000000
theorem mx.few {s:l7} (h:mx s.d):StaF s:=by
 have h1:s.m.l.length≤16:=h.ml;have h2:(mf s.u.l).length≤16:=h.ul.1;have h3:(mf s.r.l).length≤16:=h.rl.1;have h4:s.g.l.length≤32:=h.gl;rw [aD] at h2 h3;refine ⟨lg,lg,lg,lg,fun x hx=>?_⟩;rcases List.mem_append.1 hx with hx|hx
 ·exact zv (eH (fun y hy=>(h.ul.2 y hy).2) x hx) lj
 ·exact zv (eH (fun y hy=>(h.rl.2 y hy).2) x hx) lj
set_option maxHeartbeats 1600000 in
theorem PH {e:Option Ao} {made:Bool} {r:Option Ao} {s:l7} (hn:Nw w e (edN made r ⟨#[]⟩ s.m.a s.m.l.length s.m.c s.u.a s.u.l.length s.u.c s.r.a s.r.l.length s.r.c s.o s.g.a s.g.l.length s.g.c)) (hr:n9 w r p L s.t) (hin:ol w s) (hf:StaF s) (S:List Nat) (hS:qg S w) :
 zw prog 32 #[zp e] w fun x w'=>∃ s':l7,x=Ad s'.v∧s'.d=s.d∧mm S w' s'∧Below w w w':=by
 obtain ⟨wX,hwX,kC,d0,hz⟩:=n8 w #[zt ⟨#[]⟩,zm none 0 0,zm none 0 0,zm none 0 0,zr false,zm none 0 0] 26;have ag:=zk (kC);have aa:=zk (d0);have d7:=zk (Af wX);have hsx:∀ W:zq,wX.heap.size≤W→∀ i∈(w.heap.size::S),i<W:=fun W h i hi=>by
  rcases Aa.1 hi with rfl|hi
  ·omega
  ·have:=hS i hi;omega
 have cn:=fun W (hW:Below w w W)=>hn.out W hW;have cf:=TQ made r ⟨#[]⟩ s.m.a s.m.l.length s.m.c s.u.a s.u.l.length s.u.c s.r.a s.r.l.length s.r.c s.o s.g.a s.g.l.length s.g.c;have cc:=fun W (hW:Below w w W)=>xM ⟨⟨#[]⟩,s.m,s.u,s.r,s.o,s.g⟩ W ⟨(hin.later hW).m,(hin.later hW).u,(hin.later hW).r,(hin.later hW).g⟩ hf.m hf.u hf.r hf.g hf.z;have cr:=fun W (hW:Below w w W)=>BH (hn.later hW);have ct:=fun W (hW:Below w w W)=>nR (hr.later hW);have CN:=zk cn;have CC:=zk cc;have CR:=zk cr;have CT:=zk ct;have ef:=zk hsx;have hzl:w.heap.size<wX:=lg;clear cn cc cr ct hsx d0 kC hz hn hr hin hf hS;obtain ⟨aw,ax,ay,az,a0,a1,a2,a3,a4,a5,a6,a7⟩:=ag.out.all6;go_enter func32,ntmps32;go_wp2_with fail;refine (CN.out _ aa.out).mono ?_;rintro e w1 ⟨rfl,hb⟩;clear aw ax ay az a0 a1 a2 a3 a4 a5 a6 a7;have ah:=zk (ag.out.onto hb);have ab:=zk (aa.out.trans (hb.mono aa.out.size));have ai:=zk (zv d7.out hb.size);clear hb ag aa d7;obtain ⟨a8,a9,ba,bb,bc,bd,be,bf,bg,bh,bi,bj⟩:=ah.out.all6;clear hwX;go_wp2_with fail;refine (CC.out _ ab.out).mono ?_;rintro e w2 ⟨⟨t1,m1,u1,r1,o1,g1⟩,b1,b2,b3,rfl,hci⟩;clear a8 a9 ba bb bc bd be bf bg bh bi bj;have hb:=hci.bel;have hof:=hci.off (S:=w.heap.size::S) (ef.out _ ai.out);have hd:=hci.d;unfold l7.d at hd;injection hd with d1 d2 d3 d4 d5 d6;simp only at d1 d2 d3 d4 d5 d6;subst d1;subst d5;have HD:=zk (zx d2 (zx d3 (zx d4 d6)));clear hci d2 d3 d4 d6;have aj:=zk (ah.out.onto hb);have ak:=zk (ab.out.trans (hb.mono ab.out.size));have al:=zk (zv ai.out hb.size);have ac:=zk hof.1;clear hb hof ah ab ai;obtain ⟨bk,bl,bm,bn,bo,bp,bq,br,bs,bu,bv,bw⟩:=aj.out.all6;replace ac:=zk (ac.out.wide (S':=(w.heap.size::w2::S)) (fun i hi=>by simp only [Aa] at hi;rcases hi with rfl|rfl|hi;exact .inl li;exact .inr (Af _);exact .inl (by simp [hi])));have fs:wX.heap.size≤w2:=al.out;obtain ⟨eg,hwA2,kA,hbA,hzA⟩:=n8 w2 #[zt ⟨#[]⟩,zm m1.a m1.l.length m1.c,zm u1.a u1.l.length u1.c,zm r1.a r1.l.length r1.c,zr s.o,zm g1.a g1.l.length g1.c] 26;have am:=zk (aj.out.onto hbA);have d8:=zk (ac.out.later hbA);have ad:=zk (ak.out.trans (hbA.mono ak.out.size));have d9:=zk (zv al.out hbA.size);have an:=zk kA;have ao:w2.heap.size<eg:=lg;have ft:=zk ao;clear kA hbA hzA ao aj ac ak al;obtain ⟨bx,bz,b4,b5,b6,b7,b8,b9,ca,cb,cd,ce⟩:=am.out.all6;obtain ⟨cg,ch,ci,cj,ck,cl,cm,co,cp,cq,cu,cv⟩:=an.out.all6;go_wp2_with fail;refine (CR.out _ ad.out).mono ?_;rintro e w4 ⟨rfl,hb⟩;clear bk bl bm bn bo bp bq br bs bu bv bw hwA2 bx bz b4 b5 b6 b7 b8 b9 ca cb cd ce cg ch ci cj ck cl cm co cp cq cu cv;have aq:=zk (am.out.onto hb);have ar:=zk (an.out.onto hb);have ea:=zk (d8.out.later hb);have ae:=zk (ad.out.trans (hb.mono ad.out.size));have eb:=zk (zv d9.out hb.size);clear hb am an d8 ad d9;obtain ⟨cw,cx,cy,cz,c3,c4,c5,c6,c7,c8,c9,da⟩:=aq.out.all6;obtain ⟨db,dc,dd,de,df,dg,dh,di,dj,dk,dl,dm⟩:=ar.out.all6;go_wp2_with fail;refine (CT.out _ ae.out).mono ?_;rintro e w5 ⟨rfl,hb⟩;clear cw cx cy cz c3 c4 c5 c6 c7 c8 c9 da db dc dd de df dg dh di dj dk dl dm;have au:=zk (aq.out.onto hb);have av:=zk (ar.out.onto hb);have ec:=zk (ea.out.later hb);have ed:=zk (ae.out.trans (hb.mono ae.out.size));have ee:=zk (zv eb.out hb.size);clear hb aq ar ea ae eb;obtain ⟨el,em,en,eo,er,es,et,eu,ev,ew,ey,e0⟩:=au.out.all6;obtain ⟨e3,e4,e5,e6,e7,e8,e9,fa,fb,fc,fd,fe⟩:=av.out.all6;have kD:l6 (w5.setCell ⟨w2,0,none⟩ (zt s.t)) (w2) #[zt s.t,zm m1.a m1.l.length m1.c,zm u1.a u1.l.length u1.c,zm r1.a r1.l.length r1.c,zr s.o,zm g1.a g1.l.length g1.c] 26:=(av.out.set 0 _);have kC:l6 (w5.setCell ⟨w2,0,none⟩ (zt s.t)) (w) #[zt ⟨#[]⟩,zm none 0 0,zm none 0 0,zm none 0 0,zr false,zm none 0 0] 26:=(au.out.other ⟨w2,0,none⟩ (by show w2.heap.size≠w;omega) _);have ap:lx (w::w2::S) w5 (w5.setCell ⟨w2,0,none⟩ (zt s.t)):=(lx.refl (w::w2::S) w5).setCell (p:=⟨w2,0,none⟩) (.inl li) _;have rF:=ec.out.apart ap;have hB:=((ed.out.setCell (p:=⟨w2,0,none⟩) (by show w.heap.size≤w2;omega) _):Below w w (w5.setCell ⟨w2,0,none⟩ (zt s.t)));have hz:(w5.setCell ⟨w2,0,none⟩ (zt s.t)).heap.size=w5:=li;obtain ⟨v6,eh⟩:∃ V,(w5.setCell ⟨w2,0,none⟩ (zt s.t))=V:=⟨_,rfl⟩;rw [eh] at kC kD rF hB hz;have ei:=zk kC;have ej:=zk kD;have af:=zk rF;have ek:=zk hB;have fu:=zk (zv ee.out (Aq hz.symm));clear kC kD rF hB hz ap au av ec ed ee;obtain ⟨dn,dp,dq,dr,ds,dt,ff,fg,fh,fi,fj,fk⟩:=ei.out.all6;obtain ⟨du,dv,dw,dx,dy,dz,fm,fn,fo,fp,fq,fr⟩:=ej.out.all6;go_wp2;refine Av (v:=l7.v ⟨s.t,m1,u1,r1,s.o,g1⟩) (by simp [Ay,results32,go_sem,dn,dp,dq,dr,ds,dt,du,dv,dw,dx,dy,dz]) rfl ?_;have hD:=HD.out;refine ⟨⟨s.t,m1,u1,r1,s.o,g1⟩,rfl,?_,?_,?_⟩
 ·unfold l7.d;simp only [hD.1,hD.2.1,hD.2.2.1,hD.2.2.2]
 ·refine mm.wide (S:=(w.heap.size::w2::S)) (s:=⟨s.t,m1,u1,r1,s.o,g1⟩) (mm.apart (w:=v6) ⟨af.out.m,af.out.u,af.out.r,af.out.g⟩ ?_) (fun i hi=>.inl (by simp [hi]))
  iterate 6 refine lx.setCell ?_ (.inl li) _
  exact lx.refl _ _
 ·iterate 6 refine Below.setCell ?_ (by show w.heap.size≤w;omega) _
  exact ek.out
set_option maxHeartbeats 1600000 in
theorem FY (s:l7) (w:zq) (hin:ol w s) (hz2:tg s) (hri:pz s=false) :
 zw prog 28 #[s.v] w fun e w'=>e=Ad (Ak #[zp none,zn zo 5])∧Below w w w':=by
 obtain ⟨wX,hwX,kA,ao,hz⟩:=n8 w #[zt s.t,zm s.m.a s.m.l.length s.m.c,zm s.u.a s.u.l.length s.u.c,zm s.r.a s.r.l.length s.r.c,zr s.o,zm s.g.a s.g.l.length s.g.c] 26;have ab:=zk (kA);have aa:=zk (ao);have aq:=zk (Below.refl wX wX);have ar:=zk (Af wX);have cr:=fun W (hW:Below w w W)=>oN s W (hin.later hW) hz2;simp only [hri] at cr;have CR:=zk cr;have hzl:w.heap.size<wX:=lg;clear cr kA ao hz hin hz2 hri;obtain ⟨ac,ad,ae,af,ag,ah,ai,aj,ak,al,am,an⟩:=ab.out.all6;go_enter func28,ntmps28;go_wp2_with fail;refine (CR.out _ aa.out).mono ?_;rintro e w1 ⟨rfl,hb⟩;clear ac ad ae af ag ah ai aj ak al am an;have au:=zk (ab.out.onto hb);have av:=zk (aa.out.trans (hb.mono aa.out.size));have a8:=zk (zv ar.out hb.size);have a9:=zk (aq.out.trans (hb.mono aq.out.size));clear hb ab aa ar;obtain ⟨aw,ax,ay,az,a0,a1,a2,a3,a4,a5,a6,a7⟩:=au.out.all6;go_wp2;go_ret2;exact ⟨rfl,av.out⟩
set_option maxHeartbeats 1600000 in
theorem AD {T:List Nat} (s:l7) (w:zq) (hT:qg T w) (hin:ol w s) (hz2:tg s) (hri:pz s=true) :
 zw prog 28 #[s.v] w fun e w'=>∃ (b:Nat) (s':l7) (rb:Nat) (p:Option Ao) (L:List ByteArray),e=Ad (Ak #[zp (some ⟨b,0,none⟩),zn zo 0])∧n7 T w' b s' rb p L∧s'.d=s.d∧w≤b∧Below w w w':=by
 have hinv:=(jR s).1 hri;have hf:=hinv.few;have hof:ofE s.t=0:=rC hinv.v hinv.z;have HI:=zk hinv;have HT:=zk hT;clear hinv hT;obtain ⟨wX,hwX,kA,bv,hz⟩:=n8 w #[zt s.t,zm s.m.a s.m.l.length s.m.c,zm s.u.a s.u.l.length s.u.c,zm s.r.a s.r.l.length s.r.c,zr s.o,zm s.g.a s.g.l.length s.g.c] 26;have ai:=zk (kA);have ae:=zk (bv);have bw:=zk (Below.refl wX wX);have bx:=zk (Af wX);have cr:=fun W (hW:Below w w W)=>oN s W (hin.later hW) hz2;simp only [hri] at cr;have co:=fun W=>(EH s.t (by have:=hz2.t;unfold Ap;omega) W).mono fun e w' h=>h.yes hof;have cc:=fun W (hW:Below w w W)=>xM s W (hin.later hW) hf.m hf.u hf.r hf.g hf.z;have CO:=zk co;have CC:=zk cc;clear co cc hof hf;have CR:=zk cr;have hzl:w.heap.size<wX:=lg;clear cr kA bv hz hin hz2 hri;obtain ⟨au,av,aw,ax,ay,az,a0,a1,a2,a3,a4,a5⟩:=ai.out.all6;go_enter func28,ntmps28;go_wp2_with fail;refine (CR.out _ ae.out).mono ?_;rintro e w1 ⟨rfl,hb⟩;clear au av aw ax ay az a0 a1 a2 a3 a4 a5;have aj:=zk (ai.out.onto hb);have ak:=zk (ae.out.trans (hb.mono ae.out.size));have bz:=zk (zv bx.out hb.size);have b4:=zk (bw.out.trans (hb.mono bw.out.size));clear hb ai ae bx;obtain ⟨a6,a7,a8,a9,ba,bb,bc,bd,be,bf,bg,bh⟩:=aj.out.all6;clear hwX;go_wp2_with fail;refine (CO.out _).mono ?_;rintro e w2 ⟨rb,p,L,rfl,hR,hb⟩;clear a6 a7 a8 a9 ba bb bc bd be bf bg bh;have af:=zk (aj.out.onto hb);have ab:=zk (ak.out.trans (hb.mono ak.out.size));have b5:=zk (zv bz.out hb.size);have b6:=zk (b4.out.trans (hb.mono b4.out.size));have cf:=zk hR;clear hb hR aj ak bz;obtain ⟨bi,bj,bk,bl,bm,bn,bo,bp,bq,br,bs,bu⟩:=af.out.all6;go_wp2_with fail;refine (CC.out _ ab.out).mono ?_;rintro e w3 ⟨⟨t1,m1,u1,r1,o1,g1⟩,b1,b2,b3,rfl,hci⟩;clear bi bj bk bl bm bn bo bp bq br bs bu;have hb:=hci.bel;have hof:=hci.off (S:=w.heap.size::T) (fun i hi=>by rcases Aa.1 hi with rfl|hi;exact af.out.lt;exact Ai (HT.out i hi) ab.out.size);have hd:=hci.d;unfold l7.d at hd;injection hd with d1 d2 d3 d4 d5 d6;simp only at d1 d2 d3 d4 d5 d6;subst d1;subst d5;have HD:=zk (zx d2 (zx d3 (zx d4 d6)));have ad:=zk hb;clear hci d2 d3 d4 d6;have al:=zk (af.out.onto hb);have am:=zk (ab.out.trans (hb.mono ab.out.size));have an:=zk (zv b5.out hb.size);have b7:=zk (b6.out.trans (hb.mono b6.out.size));have ag:=zk hof.1;have b8:=zk hof.2;clear hb hof af ab b5;obtain ⟨ck,cl,cm,cn,cp,cq,ct,cu,cv,cw,cx,cy⟩:=al.out.all6;replace ag:=zk (ag.out.wide (S':=w.heap.size::w3::T) (pr (Af _)));have el:wX.heap.size≤w3:=an.out;obtain ⟨aa,hwA3,kA,hbA,hzA⟩:=n8 w3 #[zt s.t,zm m1.a m1.l.length m1.c,zm u1.a u1.l.length u1.c,zm r1.a r1.l.length r1.c,zr s.o,zm g1.a g1.l.length g1.c] 26;have ao:=zk (al.out.onto hbA);have b9:=zk (ag.out.later hbA);have ca:=zk (am.out.trans (hbA.mono am.out.size));have cb:=zk (zv an.out hbA.size);have em:=zk (b7.out.trans (hbA.mono b7.out.size));have aq:=zk kA;have ar:w3.heap.size<aa:=lg;have en:=zk ar;clear kA hbA hzA ar al ag am an;obtain ⟨cz,c3,c4,c5,c6,c7,c8,c9,da,db,dc,dd⟩:=ao.out.all6;obtain ⟨de,df,dg,dh,di,dj,dk,dl,dm,dn,dp,dq⟩:=aq.out.all6;have ce:=zk (show Below w2.heap.size w2 aa by rw [← hwA3];exact ad.out.alloc ad.out.size _);have kD:l6 (aa.setCell ⟨w3,0,none⟩ (zt ⟨#[]⟩)) (w3) #[zt ⟨#[]⟩,zm m1.a m1.l.length m1.c,zm u1.a u1.l.length u1.c,zm r1.a r1.l.length r1.c,zr s.o,zm g1.a g1.l.length g1.c] 26:=(aq.out.set 0 _);have kA:l6 (aa.setCell ⟨w3,0,none⟩ (zt ⟨#[]⟩)) (w) #[zt s.t,zm s.m.a s.m.l.length s.m.c,zm s.u.a s.u.l.length s.u.c,zm s.r.a s.r.l.length s.r.c,zr s.o,zm s.g.a s.g.l.length s.g.c] 26:=(ao.out.other ⟨w3,0,none⟩ (by show w3.heap.size≠w;omega) _);have ap:lx (w::w3::T) aa (aa.setCell ⟨w3,0,none⟩ (zt ⟨#[]⟩)):=(lx.refl (w::w3::T) aa).setCell (p:=⟨w3,0,none⟩) (.inl li) _;have rF:=b9.out.apart ap;have hB:=((ca.out.setCell (p:=⟨w3,0,none⟩) (by show w.heap.size≤w3;omega) _):Below w w (aa.setCell ⟨w3,0,none⟩ (zt ⟨#[]⟩)));have hz:(aa.setCell ⟨w3,0,none⟩ (zt ⟨#[]⟩)).heap.size=aa:=li;obtain ⟨v5,cd⟩:∃ V,(aa.setCell ⟨w3,0,none⟩ (zt ⟨#[]⟩))=V:=⟨_,rfl⟩;rw [cd] at kA kD rF hB hz;have cg:=zk kA;have ch:=zk kD;have ci:=zk rF;have ac:=zk hB;have eo:=zk (zv cb.out (Aq hz.symm));clear kA kD rF hB hz ap ao aq b9 ca cb;obtain ⟨dr,ds,dt,du,dv,dw,dx,dy,dz,d0,d7,d8⟩:=cg.out.all6;obtain ⟨d9,ea,eb,ec,ed,ee,ef,eg,eh,ei,ej,ek⟩:=ch.out.all6;have cj:=zk (cf.out.later (show Below w2.heap.size w2 v5 by rw [← cd];exact ce.out.setCell (p:=⟨w3,0,none⟩) ad.out.size _));obtain ⟨wE,hwE,kE,hbE,hzE⟩:=n8 v5 #[zr true,zp (some ⟨rb,0,none⟩),zt ⟨#[]⟩,zm m1.a m1.l.length m1.c,zm u1.a u1.l.length u1.c,zm r1.a r1.l.length r1.c,zr s.o,zm g1.a g1.l.length g1.c] 100;have KE:=zk kE;have ah:=zk hbE;clear kE hbE hzE;go_wp2;go_ret2;have hD:=HD.out;refine ⟨v5,⟨s.t,m1,u1,r1,s.o,g1⟩,rb,p,L,rfl,⟨KE.out,cj.out.later ah.out,(ci.out.wide (S':=v5.heap.size::T) (fun i hi=>by rcases Aa.1 hi with rfl|hi;exact .inr (Af _);exact .inl (by simp [hi]))).later ah.out |> fun h=>⟨h.m,h.u,h.r,h.g⟩,b8.out.1,b8.out.2,?_,fun i hi=>Ai (HT.out i hi) (ac.out.trans (ah.out.mono ac.out.size)).size⟩,?_,ac.out.size,ac.out.trans (ah.out.mono ac.out.size)⟩
 ·rw [show l7.d ⟨s.t,m1,u1,r1,s.o,g1⟩=s.d by unfold l7.d;simp only [hD.1,hD.2.1,hD.2.2.1,hD.2.2.2]];exact HI.out
 ·unfold l7.d;simp only [hD.1,hD.2.1,hD.2.2.1,hD.2.2.2]
attribute [local go_sem] Oper.semAt_some
structure wk (b n:Nat) (A B:zq):Prop where
 os:B.os=A.os
 tape:B.tape=A.tape
 output:B.output=A.output
 size:A.heap.size≤B
 block:∀ k,k<n→k≠b→k<A.heap.size→B.heap[k]? = A.heap[k]?
section
variable {b n l : Nat} {A B C : World}
theorem wk.of_below (h:Below A A B):wk b n A B:=⟨h.os,h.tape,h.output,h.size,fun k _ _ hk=>h.block k hk⟩
theorem wk.of_apart (h:lx S A B) (hS:∀ x∈S,x=b∨n≤x):wk b n A B:=⟨h.os,h.tape,h.output,h.size,fun k h1 h2 h3=>h.block k h3 fun g=>by rcases hS k g with e|e <;> omega⟩
theorem wk.trans (h:wk b n A B) (k:wk b n B C):wk b n A C:=⟨k.os.trans h.os,k.tape.trans h.tape,k.output.trans h.output,zv h.size k.size,fun i h1 h2 h3=>(k.block i h1 h2 (Ai h3 h.size)).trans (h.block i h1 h2 h3)⟩
theorem wk.put (h:n≤l) (o:Obj):wk b n A (A.putObj l o):=⟨rfl,rfl,rfl,li,fun k h1 _ _=>A0 lg⟩
theorem wk.set (h:n≤l∨l=b) (v:Ae):wk b n A (A.setCell ⟨l,0,none⟩ v):=⟨rfl,rfl,rfl,by rw [A5];exact Af _,fun k h1 h2 _=>Below.heap_setCell _ _ _ k (by show k≠l;omega)⟩
end
def qo (T:List Nat) (b:Nat) (d:mg) (A:zq):Prop:=∃ (s:l7) (rb:Nat) (p:Option Ao) (L:List ByteArray),n7 T A b s rb p L∧s.d=d
theorem qo.later {T:List Nat} {d:mg} {B:zq} (h:qo T b d A) (hb:Below A A B):qo T b d B:=by
 obtain ⟨s,rb,p,L,hi,hd⟩:=h;exact ⟨s,rb,p,L,hi.later hb,hd⟩
theorem qo.mild {T:List Nat} {d:mg} {B:zq} (h:qo T b d A) (hS:∀ x∈S,x∈T) (hb:b ∉ S) (hm:o9 S A B):qo T b d B:=by
 obtain ⟨s,rb,p,L,hi,hd⟩:=h;exact ⟨s,rb,p,L,hi.mild hS hb hm,hd⟩
theorem qo.less {T T':List Nat} {d:mg} (h:qo T b d A) (hT:∀ x∈T',x∈T):qo T' b d A:=by
 obtain ⟨s,rb,p,L,hi,hd⟩:=h;exact ⟨s,rb,p,L,hi.less hT,hd⟩
theorem qo.grow {T T':List Nat} {d:mg} {B:zq} (h:qo T b d A) (hb:Below A A B) (hT:∀ x∈T',x∈T∨A.heap.size≤x) (hz:∀ x∈T',x<B.heap.size):qo T' b d B:=by
 obtain ⟨s,rb,p,L,hi,hd⟩:=h;exact ⟨s,rb,p,L,hi.grow hb hT hz,hd⟩
theorem qo.lt {T:List Nat} {d:mg} (h:qo T b d A):b<A:=by
 obtain ⟨s,rb,p,L,hi,hd⟩:=h;exact hi.lt
theorem qo.put {T:List Nat} {d:mg} {o:Obj} (h:qo T b d A) (hl:A.heap[l]? = some o) (ho:o.isCells=false) (o':Obj):qo T b d (A.putObj l o'):=by
 obtain ⟨s,rb,p,L,hi,hd⟩:=h;exact ⟨s,rb,p,L,hi.put hl ho o',hd⟩
theorem qo.firm (T:List Nat) (b:Nat) (d:mg) (l:Nat):Firm l (qo T b d):=⟨fun A B h hb=>h.later hb,fun A r r' h hl=>h.put hl rfl _⟩
theorem Firm.ex {ι:Sort _} {K:ι→zq→Prop} (h:∀ i,Firm l (K i)):Firm l (fun w=>∃ i,K i w):=⟨fun A B ⟨i,p⟩ b=>⟨i,(h i).below A B p b⟩,fun A r r' ⟨i,p⟩ q=>⟨i,(h i).put A r r' p q⟩⟩
theorem Firm.box (l b:Nat) (t:Ar) (v:Ae):Firm l (fun A=>zy A b t v):=⟨fun A B h hb=>(hb.block b h.lt).trans h,fun A r r' h hl=>tS hl _ h⟩
theorem Firm.blk (l b:Nat) (cs:Array Ae) (t:Ar):Firm l (fun A=>l6 A b cs t):=⟨fun A B h hb=>h.onto hb,fun A r r' h hl=>tS hl _ h⟩
abbrev yw (x:Nat×Int):Array Ae:=#[zn zo x.1,zn zo x.2]
def YS (T:List Nat) (b:Nat) (d:mg) (xs:List (ru×Int)) (s:Nat×Int) (x:Nat×Int) (s':Nat×Int) (A:zq):Prop:=
 (s.2=0∧s'.2=x.2)∧((x.2=0∧x.1=s.1∧s'.1=s.1+1∧s.1≤(qm d xs).2.1)∨(x.2≠0∧s.1=x.1+1∧s'.1=s.1∧x.1=(qm d xs).2.1))∧∃ t,(x.2=0→xz d xs s.1 t)∧qo T b t A
theorem YS.firm (T:List Nat) (b:Nat) (d:mg) (xs:List (ru×Int)) (l:Nat) (s x s':Nat×Int):Firm l (YS T b d xs s x s'):=(Firm.const l _).both ((Firm.const l _).both (Firm.ex fun t=>(Firm.const l _).both (qo.firm T b t l)))
theorem FN (b gf:Nat) (lb:Array Ae) (w:zq):zw prog 33 #[zp (some ⟨b,0,none⟩),.func (.func gf) #[] lb] w fun e w' =>
 e=Ad (.func (.func 60) #[] #[zp (some ⟨w+1,0,none⟩),zp (some ⟨w,0,none⟩)])∧w'=(w.alloc (.cells #[zp (some ⟨b,0,none⟩)] 67)).alloc (.cells #[.func (.func gf) #[] lb] 57):=by
 have hmf:∀ (fn:Fn) (first cap:Array Ae) (w:zq),(Instr.makeFunc fn first cap).run prog w=.ok (.func fn first cap) w:=fun _ _ _ _=>rfl;go_enter func33,ntmps33;go_wp2;go_ret;exact ⟨rfl,rfl⟩
def StJ (T:List Nat) (l b N n be:Nat) (d:mg) (xs:List (ru×Int)) (J:Nat×Int→zq→Prop) (k:Nat) (A:zq):Prop:=
 J (k+1,0) A∧(∃ t,xz d xs k t∧qo ((N+1)::T) b t A)∧zy A N 104 (.func (.yield l) #[] #[])∧zy A (N+1) 3 (zn zo k)∧zy A be 67 (zp (some ⟨b,0,none⟩))∧n≤A
def StX (T:List Nat) (b:Nat) (d:mg) (xs:List (ru×Int)) (J:Nat×Int→zq→Prop) (Jx:zq→Prop) (c:Code) (A:zq):Prop:=
 c=.ret∧((J ((qm d xs).2.1+1,(qm d xs).2.2) A∧qo T b (qm d xs).1 A)∨Jx A)
theorem StJ.firm {T:List Nat} {N n:Nat} {d:mg} {xs:List (ru×Int)} {J:Nat×Int→zq→Prop} (hJ:∀ s A B,J s A→wk b N A B→J s B) (lp:Nat) (hlp:N≤lp) (k:Nat):Firm lp (StJ T l b N n be d xs J k):=
 Firm.both ⟨fun A B h hb=>hJ _ _ _ h (.of_below hb),fun A r r' h _=>hJ _ _ _ h (.put hlp _)⟩ <| (Firm.ex fun t=>(Firm.const lp _).both (qo.firm _ _ _ lp)).both <| (Firm.box lp _ _ _).both <| (Firm.box lp _ _ _).both <| (Firm.box lp _ _ _).both ⟨fun A B h hb=>zv h hb.size,fun A r r' h _=>by rw [A6];exact h⟩
theorem StX.firm {T:List Nat} {N:Nat} {d:mg} {xs:List (ru×Int)} {J:Nat×Int→zq→Prop} {Jx:zq→Prop} (hJ:∀ s A B,J s A→wk b N A B→J s B) (hJx:∀ A B,Jx A→wk b N A B→Jx B) (lp:Nat) (hlp:N≤lp) (c:Code):Firm lp (StX T b d xs J Jx c):=
 (Firm.const lp _).both ⟨fun A B h hb=>h.elim (fun g=>.inl ⟨hJ _ _ _ g.1 (.of_below hb),g.2.later hb⟩) (fun g=>.inr (hJx _ _ g (.of_below hb))),fun A r r' h hl=>h.elim (fun g=>.inl ⟨hJ _ _ _ g.1 (.put hlp _),g.2.put hl rfl _⟩) (fun g=>.inr (hJx _ _ g (.put hlp _)))⟩
def StF (l bo be N gf:Nat) (lb:Array Ae) (x:ru×Int) (a:Act) (A:zq):Prop:=∃ bx:Nat,a={ tmps:=#[.func (.yield l) #[] #[],zp (some ⟨bo,0,none⟩),zp (some ⟨be,0,none⟩),zp (some ⟨N,0,none⟩),zp (some ⟨N+1,0,none⟩),zp (some ⟨bx,0,none⟩),zn zo x.2,.func (.yield l) #[] #[],zn zo 0,zr true,zr false,.func (.func gf) #[] lb,Ag #[zn zo x.1.k,zn zo x.1.a,zn zo x.1.n,zt x.1.s],zn zo x.2,zz,zz,zz,zz,zz,zz,zz,zz,zz,zz,zz,zz,zz,zz,zz,zz,zz,zz],defers:=[] }∧l6 A bx #[zn zo x.1.k,zn zo x.1.a,zn zo x.1.n,zt x.1.s] 50
theorem StF.firm (lp l bo be N gf:Nat) (lb:Array Ae) (x:ru×Int) (a:Act):Firm lp (StF l bo be N gf lb x a):=Firm.ex fun bx=>(Firm.const lp _).both (Firm.blk lp _ _ _)
theorem qz.int {t:Ar} {v:Int} (h:zy A b t (zn zo v)) (ht:t≠212):qz A b:=.of h ht (fun p h=>by simp at h)
theorem qo.plain {T:List Nat} {d:mg} (h:qo T b d A):qz A b:=by
 obtain ⟨s,rb,p,L,hi,hd⟩:=h;exact .of hi.blk lj (fun p h=>by simp at h)
theorem o9.one {t:Ar} {v:Int} (h:zy A b t (zn zo v)) (ht:t≠212) (u:Ae):o9 [b] A (A.setCell ⟨b,0,none⟩ u):=⟨(lx.refl _ _).setCell (.inl li) u,fun x hx=>by rw [A7.1 hx];exact .inl (.int h ht)⟩
set_option maxHeartbeats 1600000 in
theorem UP {T:List Nat} {bo:Nat} {d:mg} (h:qo T b d w) {xs:List (ru×Int)} {gf:Nat} {lb:Array Ae} {D:Nat→Prop} (ho:vr gf lb xs D w) (eg:∀ args w,(Ax gf args).run prog w=.ok (.enter gf args) w)
 (h1:zy w bo 57 (.func (.func gf) #[] lb)) (h2:zy w be 67 (zp (some ⟨b,0,none⟩))) (hbe:be≠b) (hfit:∀ x∈xs,oi x.1.a∧x.1.s.size≤1000000) (hlen:xs.length≤1000000) (hlb:¬ D b) (hlo:∀ k,D k→k<w.heap.size)
 (hST:∀ x∈S,x∈T) (hSz:∀ x∈T,x<w.heap.size) (hSb:b ∉ S) (hSe:be ∉ S) (hSo:bo ∉ S) (hSlo:∀ x∈S,¬ D x) (hinv:mx d) (m l:Nat) :
 Iter prog m l 60 #[zp (some ⟨bo,0,none⟩),zp (some ⟨be,0,none⟩)] yw (YS T b d xs) (qo T b (qm d xs).1) (wk b w) S (0,0) ((qm d xs).2.1+1,(qm d xs).2.2) w:=by
 intro J Jx hJ hJx hY h0;obtain ⟨W2,an,kA,kB,af,ba⟩:=vo w #[.func (.yield l) #[] #[]] #[zn zo 0] 104 3;have ay:=h.grow (T':=(w.heap.size+1)::T) af (fun x hx=>by rcases Aa.1 hx with rfl|hx;exact .inr lg;exact .inl hx) (fun x hx=>by rcases Aa.1 hx with rfl|hx;omega;have:=hSz x hx;omega);have hlt:=h.lt;have hy:=hY (0,0) (0,0) (1,0) W2 ⟨⟨rfl,rfl⟩,.inl ⟨rfl,rfl,rfl,Nat.zero_le _⟩,d,fun _=>xz.zero d xs,h.later af⟩ (hJ _ _ _ h0 (.of_below af));have q1:zy W2 bo _ _:=(af.block bo h1.lt).trans h1;have q2:zy W2 be _ _:=(af.block be h2.lt).trans h2;have b2:=h2.lt;have hSN:∀ x∈S,x<w.heap.size:=fun x hx=>by have:=hSz x (hST x hx);omega
 obtain ⟨fn,tmps,assign,body,hyr,hR⟩:=dW hy;rw [show yw (0,0)=#[zn zo 0,zn zo 0] from rfl,← an] at hyr;have HR:=zk hR;have bb:=zk an;have HY:=zk hY;have HJ:=zk hJ;have ao:=zk hJx;have am:=zk hST;have ak:=zk hSN;have aq:=zk hSlo;have az:=zk ay;have a0:=zk af;have HO:=zk ho;have a6:=zk hfit;have KA:zy W2 w _ _:=kA;have KB:zy W2 (w+1) _ _:=kB;have k3:=KA.cell;have k4:=KB.cell;have Q:=zk (zx KA (zx KB (zx q1 q2)));clear hy hR an hY hJ hJx h0 hST hSN hSlo h ay af ho hfit KA KB kA kB q1 q2 h1 h2 hSz;refine A8 func60 rfl trivial ?_ rfl;simp only [ntmps60,A9,Bc,Bd,Nat.reduceAdd,Nat.reduceSub,Be,Bf,Bg,Bh,Bi,Bj]
 gi_wp2_with fail
 rw [bb.out];refine ⟨fun e=>(by cases e),(HR.out none _).mono ?_⟩;rintro e V (⟨rfl,a2,ag⟩|⟨rfl,bc,ag⟩)
 case inr =>
  gi_wp2
  exact ⟨_,A3 rfl _ _ _,⟨_,rfl⟩,.inr bc⟩
 have hoff:∀ k,k ∉ S→k<w.heap.size+1+1→V.heap[k]? = W2.heap[k]? :=fun k h1 h2=>ag.apart.block k lg h1;obtain ⟨KA,KB,q1,q2⟩:=Q.out;have p3:zy V w _ _:=(hoff w (fun g=>by have:=ak.out _ g;omega) lg).trans KA;have p4:zy V (w+1) _ _:=(hoff (w+1) (fun g=>by have:=ak.out _ g;omega) lg).trans KB;have p2:zy V be _ _:=(hoff be hSe lg).trans q2;have p1:zy V bo _ _:=(ag.apart.block bo q1.lt hSo).trans q1;have hzV:=ag.apart.size;have hed:=az.out.mild (S:=S) (fun x hx=>Ah _ (am.out x hx)) hSb ag;have hbV:tl D w V:=(tl.of_below a0.out).trans (.of_apart ag.apart aq.out);have k1:=p1.cell;have J0:=zk (show StJ T l b w.heap.size V.heap.size be d xs J 0 V from ⟨a2,⟨d,xz.zero d xs,hed⟩,p3,p4,p2,Af _⟩);have bd:=zk hbV;clear a2 ag hoff KA KB q1 q2 p1 p2 p3 p4 hed hbV HR Q a0 az k3 k4
 gi_wp2_with fail
 have hSi:∀ x∈b::(w.heap.size+1)::S,x<V∧¬ D x:=fun x hx=>by
  simp only [Aa] at hx;rcases hx with rfl|rfl|hx
  ·exact ⟨lg,hlb⟩
  ·exact ⟨lg,fun h=>by have:=hlo _ h;omega⟩
  ·have h1:=ak.out x hx;exact ⟨lg,aq.out x hx⟩
 have a3:=zk hSi;clear hSi;refine lP (gf:=gf) (lb:=lb) (encs:=encO) (Y:=YO xs) (E:=fun _=>True) (R:=fun A B=>Below A A B) (S:=b::(w.heap.size+1)::S) (s0:=0) (s1:=xs.length) rfl eg (fun x hx=>(a3.out x hx).1)
  (fun W1 hb hz=>HO.out W1 (m - 1) (V+1) _ (bd.out.trans (.of_below hb)) (fun x hx=>by
   rcases Aa.1 hx with rfl|hx
   ·exact fun h=>by have:=hlo _ h;omega
   ·exact (a3.out x hx).2))
  (fun A B h hz=>⟨h.size,fun k h1 h2=>h.block k lg⟩) (fun _=>rfl)
  (StJ T l b w V be d xs J) (StX T b d xs J Jx) (fun s A B h hz hb=>(StJ.firm HJ.out (V+1) lg s).below A B h hb) (fun c A B h hz hb=>(StX.firm HJ.out ao.out (V+1) lg c).below A B h hb)
  (StJ.firm HJ.out _ lg) (StX.firm HJ.out ao.out _ lg) (fun s x s'=>YO.firm xs _ _ _ _) (Firm.triv _) J0.out
  (StF l bo be w gf lb) (StF.firm _ l bo be w gf lb) ?assign ?body ?done ?stop
 case assign =>
  intro l' x W K hK
  gi_wp2
  exact hK _ _ (ns _ _) ⟨_,rfl,l6.new _ _ _⟩
 case body =>
  rintro l' k x k' A a1 hzA ⟨hk,hx,rfl⟩ ⟨j0,⟨t,hat,hed⟩,p3,p4,p2,hz⟩ ⟨bx,rfl,kx⟩;have hfit:=a6.out xs[k] (List.getElem_mem hk);have hst:=hat.step hk;have hno:=hat.no hk;rw [← hx] at hfit hst hno;obtain ⟨⟨xk,xa,xn,xs'⟩,xe⟩:=x;simp only at hfit kx;have hpl:=hed.plain;have bh:=zk hat;have ar:=zk hpl;have au:=zk hed;have J1:=zk j0;have P:=zk (zx p3 (zx p4 p2));have x0:=kx.cell 0 _ rfl;have x1:=kx.cell 1 _ rfl;have x2:=kx.cell 2 _ rfl;have x3:=kx.cell 3 _ rfl;have k3:=p3.cell;have k4:=p4.cell;have k2:=p2.cell;clear hx hat hpl j0 p3 p4 p2 kx;by_cases hxe:xe=0
  ·subst hxe;obtain ⟨s,rb,p,L,hi,hd⟩:=hed;have cd:=JM hi xk xa xn xs' hfit.1 hfit.2;rw [hd] at cd;have hr:rx t (⟨xk,xa,xn,xs'⟩,0)=yb t xk xa xn xs':=rfl;rw [hr] at hst hno;have hdn:=UU (s:=t) (k:=xk) (i:=xa) (n:=xn) (x:=xs');generalize yb t xk xa xn xs'=r at cd hst hno hdn;obtain ⟨rs,re⟩:=r;simp only at hst hno hdn;have CD:=zk cd;have a7:=zk hst;have bf:=zk hno;have bg:=zk hdn;clear cd hst hno hi hd hdn
   gi_wp2_with fail
   refine ⟨trivial,fun e=>(by cases e),(Az.2 CD.out).mono ?_⟩;rintro e B ⟨s2,rb2,p2',L2,rfl,a4,a5,ad⟩;have ah:qo ((w.heap.size+1)::T) b rs B:=⟨s2,rb2,p2',L2,a4,a5⟩;obtain ⟨p3,p4,p2⟩:=P.out;have hab:∀ {i:Nat} {t:Ar} {v:Ae},zy A i t v→i≠b→zy B i t v:=fun h hi=>(ad.block _ h.lt (by simpa using hi)).trans h;have r3:=hab p3 lg;have r4:=hab p4 lg;have r2:=hab p2 hbe;have hzB:=ad.size;have k3:=r3.cell;have k4:=r4.cell;have f4:=r4.frozen;clear k2 x0 x1 x2 x3 CD a4 a5;by_cases hre:re=0
   ·subst hre;have hmo:=o9.one r4 lj (zn zo ((k:Int)+1));have s4:=r4.set (zn zo ((k:Int)+1));have s3:=r3.other (show w.heap.size≠w+1 by omega) (zn zo ((k:Int)+1));have s2:=r2.other (show be≠w+1 by omega) (zn zo ((k:Int)+1));have ai:=ah.mild (S:=[w.heap.size+1]) li lr hmo;have jC:=HJ.out _ _ _ J1.out ((wk.of_apart (b:=b) (n:=w.heap.size) ad li).trans (wk.set (l:=w.heap.size+1) (.inl lg) (zn zo ((k:Int)+1))));obtain ⟨C,hC⟩:∃ C,zu B ⟨w+1,0,none⟩ (zn zo ((k:Int)+1))=C:=⟨_,rfl⟩;rw [hC] at hmo s4 s3 s2 ai jC;have aj:=a7.out rfl;have hy:=HY.out (k+1,0) (k+1,0) (k+2,0) C ⟨⟨rfl,rfl⟩,.inl ⟨rfl,rfl,rfl,aj.most⟩,rs,fun _=>aj,ai.less (fun x hx=>Ah _ hx)⟩ jC;obtain ⟨fn,tmps,assign,body,hyr,hR⟩:=dW hy;have HR:=zk hR;rw [show yw (k+1,0)=#[zn zo ((k:Int)+1),zn zo 0] from rfl] at hyr;have g3:=s3.cell;have g4:=s4.cell;have HC:=zk hC;have HM:=zk (show o9 [b,w.heap.size+1] A C from o9.join (S:=[b]) ⟨ad,fun x hx=>by rw [A7.1 hx];exact .inl ar.out⟩ hmo);have PC:=zk (zx s3 (zx s4 s2));have a8:=zk ai;have a9:=zk aj;rw [← hC] at hyr g3 g4;have hzC:A.heap.size≤C:=by rw [← hC,A5];exact hzB
    clear hC hy hR hmo s4 s3 s2 ai jC aj r3 r4 r2 ah ad p3 p4 p2 hab
    gi_wp2_with fail
    rw [HC.out];refine ⟨fun e=>(by cases e),(HR.out (some l') _).mono ?_⟩;rintro e D (⟨rfl,ab,aa⟩|⟨rfl,ae,aa⟩)
    ·have hCD:∀ {i:Nat} {t:Ar} {v:Ae},zy C i t v→i ∉ S→zy D i t v:=fun h hi=>(aa.apart.block _ h.lt hi).trans h;obtain ⟨s3,s4,s2⟩:=PC.out;have HF:=zk (show o9 (b::(w.heap.size+1)::S) A D∧StJ T l b w V be d xs J (k+1) D from ⟨HM.out.join aa,ab,⟨rs,a9.out,a8.out.mild (fun x hx=>Ah _ (am.out x hx)) hSb aa⟩,hCD s3 (fun g=>by have:=ak.out _ g;omega),hCD s4 (fun g=>by have:=ak.out _ g;omega),hCD s2 hSe,by have:=aa.apart.size;omega⟩);clear ab aa HR hCD s3 s4 s2
     gi_wp2
     exact HF.out
    ·have HF:=zk (zx ae (HM.out.join aa));clear ae aa HR
     gi_wp2
     exact ⟨HF.out.2,rfl,.inr HF.out.1⟩
   ·obtain rfl:t=rs:=(bg.out hre).symm;have hrun:=bf.out hre;have hedB:=ah;have hmB:o9 [b,w.heap.size+1] A B:=⟨ad.more li,fun x hx=>by
     simp only [Aa,An,or_false] at hx;rcases hx with rfl|rfl
     ·exact .inl ar.out
     ·exact .inl (.int p4 lj)⟩
    have jB:=HJ.out _ _ _ J1.out (wk.of_apart (b:=b) (n:=w.heap.size) ad li);clear ah ad hab r3 r4 r2 p3 p4 p2;have hedT:=hedB.less (T':=T) (fun x hx=>Ah _ hx);have hy:=HY.out (k+1,0) (k,re) (k+1,re) B ⟨⟨rfl,rfl⟩,.inr ⟨hre,rfl,rfl,by rw [hrun]⟩,t,(fun h=>absurd h hre),hedT⟩ jB;obtain ⟨fn,tmps,assign,body,hyr,hR⟩:=dW hy;have HR:=zk hR;have ac:=zk hrun;have al:=zk hmB;have av:=zk hedB;have e1:(re != 0)=true:=by simp [hre]
    have e0:(re == 0)=false:=by simp [hre]
    dsimp only [yw] at hyr;clear hy hR hrun hedT hmB hedB jB
    gi_wp2_with fail
    refine ⟨fun e=>(by cases e),(HR.out (some l') _).mono ?_⟩;rintro e D (⟨rfl,ab,aa⟩|⟨rfl,ae,aa⟩)
    ·have HF:=zk (zx ab (zx (av.out.mild (fun x hx=>Ah _ (am.out x hx)) hSb aa) ((o9.join (S:=[b,w.heap.size+1]) al.out aa))));clear ab aa HR
     gi_wp2
     obtain ⟨ab,aw,ax⟩:=HF.out;exact ⟨ax,rfl,.inl ⟨by rw [ac.out];exact ab,by rw [ac.out];exact aw.less (fun x hx=>Ah _ hx)⟩⟩
    ·have HF:=zk (zx ae ((o9.join (S:=[b,w.heap.size+1]) al.out aa)));clear ae aa HR
     gi_wp2
     exact ⟨HF.out.2,rfl,.inr HF.out.1⟩
  ·obtain ⟨p3,p4,p2⟩:=P.out;have hre:=hxe;have hstp:rx t (⟨xk,xa,xn,xs'⟩,xe)=(t,xe):=if_neg hxe;have hrun:=hno (by rw [hstp];exact hxe);rw [hstp] at hrun;have hedB:=au.out;have hmB:o9 [b,w.heap.size+1] A A:=⟨lx.refl _ _,fun x hx=>by
    simp only [Aa,An,or_false] at hx;rcases hx with rfl|rfl
    ·exact .inl ar.out
    ·exact .inl (.int p4 lj)⟩
   have jB:=J1.out;clear p3 p4 p2 hst hno hstp hed;have hedT:=hedB.less (T':=T) (fun x hx=>Ah _ hx);have hy:=HY.out (k+1,0) (k,xe) (k+1,xe) A ⟨⟨rfl,rfl⟩,.inr ⟨hre,rfl,rfl,by rw [hrun]⟩,t,(fun h=>absurd h hre),hedT⟩ jB;obtain ⟨fn,tmps,assign,body,hyr,hR⟩:=dW hy;have HR:=zk hR;have ac:=zk hrun;have al:=zk hmB;have av:=zk hedB;have e1:(xe != 0)=true:=by simp [hre]
   have e0:(xe == 0)=false:=by simp [hre]
   dsimp only [yw] at hyr;clear hy hR hrun hedT hmB hedB jB
   gi_wp2_with fail
   refine ⟨fun e=>(by cases e),(HR.out (some l') _).mono ?_⟩;rintro e D (⟨rfl,ab,aa⟩|⟨rfl,ae,aa⟩)
   ·have HF:=zk (zx ab (zx (av.out.mild (fun x hx=>Ah _ (am.out x hx)) hSb aa) ((o9.join (S:=[b,w.heap.size+1]) al.out aa))));clear ab aa HR
    gi_wp2
    obtain ⟨ab,aw,ax⟩:=HF.out;exact ⟨ax,rfl,.inl ⟨by rw [ac.out];exact ab,by rw [ac.out];exact aw.less (fun x hx=>Ah _ hx)⟩⟩
   ·have HF:=zk (zx ae ((o9.join (S:=[b,w.heap.size+1]) al.out aa)));clear ae aa HR
    gi_wp2
    exact ⟨HF.out.2,rfl,.inr HF.out.1⟩
 case done =>
  rintro D' W hD hz ⟨j0,⟨t,hat,hed⟩,p3,p4,p2,ba⟩ - hK;have hrun:=hat.done rfl;have J1:=zk j0;have au:=zk hed;have ac:=zk hrun;clear j0 hat hed hrun p3 p4 p2
  gi_wp2
  refine cL hK (A3 rfl _ _ _) ⟨⟨_,rfl⟩,.inl ⟨?_,?_⟩⟩
  ·rw [ac.out];exact HJ.out _ _ _ J1.out (.put lg _)
  ·rw [ac.out];exact (au.out.less (fun x hx=>Ah _ hx)).put hK rfl _
 case stop =>
  rintro D' c W hD hz ⟨rfl,hs⟩ hK;have HS:=zk hs;clear hs
  gi_wp2
  refine cL hK (A3 rfl _ _ _) ⟨⟨_,rfl⟩,?_⟩;rcases HS.out with ⟨hj,he⟩|hx
  ·exact .inl ⟨HJ.out _ _ _ hj (.put lg _),he.put hK rfl _⟩
  ·exact .inr (ao.out _ _ hx (.put lg _))
def wa:l7:=⟨⟨#[]⟩,⟨none,[],0⟩,⟨none,[],0⟩,⟨none,[],0⟩,false,⟨none,[],0⟩⟩
theorem RQ (w:zq):ol w wa:=⟨vf.empty w,nz.empty w,nz.empty w,o0.empty w⟩
theorem ST:tg wa:=⟨lj,lj,fun x hx=>absurd hx (by simp [wa]),lj,lj,fun x hx=>by
 have:x=⟨none,[],0⟩:=by simpa [l7.rows,wa] using hx
 subst this;exact ⟨lj,fun y hy=>absurd hy li⟩⟩
theorem ED:pz wa=true:=(jR wa).2 DC
theorem n7.nw {T:List Nat} {s:l7} (h:n7 T w b s rb p L):Nw w (some ⟨b,0,none⟩) (edN true (some ⟨rb,0,none⟩) ⟨#[]⟩ s.m.a s.m.l.length s.m.c s.u.a s.u.l.length s.u.c s.r.a s.r.l.length s.r.c s.o s.g.a s.g.l.length s.g.c):=Nw.some h.blk
theorem n7.state {T:List Nat} {s:l7} (h:n7 T w b s rb p L) (S:List Nat) (hS:qg S w) :
 zw prog 32 #[zp (some ⟨b,0,none⟩)] w fun x w'=>∃ s':l7,x=Ad s'.v∧s'.d=s.d∧mm S w' s'∧Below w w w':=PH h.nw h.rope h.rows.in h.inv.few S hS
attribute [local go_sem] Oper.semAt_some
def se (s:l7) (xs:List (ru×Int)):mg×Nat×Int:=if pz s=true then qm s.d xs else (wl,0,5)
def p9 (S:List Nat) (w:zq) (r:mg×Nat×Int) (e:Ending) (w':zq):Prop:=∃ s':l7,e=Ad (Ak #[s'.v,zn zo r.2.1,zn zo r.2.2])∧s'.d=r.1∧mm S w' s'∧Below w w w'
def EnJ (bd be:Nat) (w:zq) (s:Nat×Int) (A:zq):Prop:=zy A bd 3 (zn zo ((s.1 - 1:Nat):Int))∧zy A be 31 (zn zo s.2)∧Below w w A∧l6 A (w+1) #[zt ⟨#[]⟩,zm none 0 0,zm none 0 0,zm none 0 0,zr false,zm none 0 0] 26
theorem KV {N:Nat} {o:Obj} (h:Below N w A) (hl:N≤l):Below N w (A.putObj l o):=⟨h.os,h.tape,h.output,by rw [A6];exact h.size,fun i hi=>(A0 lg).trans (h.block i hi)⟩
theorem aQ {V:zq} {p q:Ao} {v u:Ae} (h:V p=some v) (hn:p.block≠q.block):(V.setCell q u) p=some v:=(World.cell?_setCell_other _ _ _ _ (fun e=>hn (by rw [e]))).trans h
theorem EnJ.but {bd n:Nat} (hd:bd<n) (he:be<n) (hdb:bd≠b) (heb:be≠b) (hb:w+1<b) (hn:w+1<n):∀ s A B,EnJ bd be w s A→wk b n A B→EnJ bd be w s B:=fun s A B ⟨h1,h2,h3,h4⟩ k =>
 ⟨(k.block _ hd hdb h1.lt).trans h1,(k.block _ he heb h2.lt).trans h2,h3.trans ⟨k.os,k.tape,k.output,k.size,fun i hi=>k.block i lg lg (Ai hi h3.size)⟩,(k.block _ lg lg h4.lt).trans h4⟩
theorem EnJ.firm {bd:Nat} (s:Nat×Int) (l:Nat) (hl:w≤l):Firm l (EnJ bd be w s):=(Firm.box l _ _ _).both <| (Firm.box l _ _ _).both <| Firm.both ⟨fun A B h hb=>h.trans (hb.mono h.size),fun A r r' h hl2=>h.trans ⟨rfl,rfl,rfl,li,fun i hi=>A0 lg⟩⟩ (Firm.blk l _ _ _)
set_option maxHeartbeats 1600000 in
theorem KU (s:l7) (xs:List (ru×Int)) {gf:Nat} {lb:Array Ae} {D:Nat→Prop} (S:List Nat) (w:zq) (hS:qg S w) (hin:ol w s) (hz:tg s) (hri:pz s=true) (ho:vr gf lb xs D w) (hlo:∀ k,D k→k<w.heap.size) (eg:∀ args w,(Ax gf args).run prog w=.ok (.enter gf args) w)
 (hfit:∀ x∈xs,oi x.1.a∧x.1.s.size≤1000000) (hlen:xs.length≤1000000) :
 zw prog 19 #[s.v,.func (.func gf) #[] lb] w (p9 S w (qm s.d xs)):=by
 have hmix:prog.follows .mixedOrders=true:=lh;obtain ⟨wX,hwX,kA,kB,af,a9⟩:=vo w s.cs #[zt ⟨#[]⟩,zm none 0 0,zm none 0 0,zm none 0 0,zr false,zm none 0 0] 26 26;have CL:=zk (AD (T:=[]) s wX (fun i hi=>absurd hi li) (hin.later af) hz hri);have hw:=hwX;have a0:=zk hwX;have HO:=zk ho;have az:=zk hfit;have ag:=zk af;have KB:=zk kB;have a2:=zk hS;have ah:=zk ((jR s).1 hri);obtain ⟨z0,z1,z2,z3,z4,z5,f0,f1,f2,f3,f4,f5⟩:=l6.all6 (x0:=zt s.t) (x1:=zm s.m.a s.m.l.length s.m.c) (x2:=zm s.u.a s.u.l.length s.u.c) (x3:=zm s.r.a s.r.l.length s.r.c) (x4:=zr s.o) (x5:=zm s.g.a s.g.l.length s.g.c) kA;rw [← hwX] at z0 z1 z2 z3 z4 z5 f0 f1 f2 f3 f4 f5;clear hwX ho hfit af kA kB hS hin hz hri hw;refine (Az (n:=5)).1 ?_;refine A8 func19 rfl trivial ?_ rfl;simp only [ntmps19,A9,Bc,Bd,Nat.reduceAdd,Nat.reduceSub,Be,Bf,Bg,Bh,Bi,Bj]
 gi_wp2_with fail
 rw [a0.out];refine ⟨trivial,(Az.2 CL.out).mono ?_⟩;rintro e w2 ⟨b,s1,rb,p,L,rfl,hi,hd,hbl,ac⟩;clear z0 z1 z2 z3 z4 z5 f0 f1 f2 f3 f4 f5 CL
 gi_wp2_with fail
 refine ⟨trivial,(Az.2 (FN b gf lb _)).mono ?_⟩;rintro e w4 ⟨rfl,rfl⟩;obtain ⟨W3,al,kE,kD,ai,a3⟩:=vo w2 #[zn zo 0] #[zn zo 0] 31 3;rw [al];obtain ⟨W4,am,kP,kQ,ad,ba⟩:=vo W3 #[zp (some ⟨b,0,none⟩)] #[.func (.func gf) #[] lb] 67 57;rw [am];rw [a3] at kP kQ;have hblt:=hi.lt;have aj:=ac.size;have aa:Below w2 w2 W4:=ai.trans (ad.mono ai.size);have hed:qo [w2.heap.size,w2.heap.size+1] b s.d W4:=⟨s1,rb,p,L,hi.grow aa (fun x hx=>.inr (by simp only [Aa,An,or_false] at hx;omega)) (fun x hx=>by simp only [Aa,An,or_false] at hx;omega),hd⟩;have ab:Below w w W4:=(ag.out.trans (ac.mono ag.out.size)).trans (aa.mono (zv ag.out.size aj));have kR:=KB.out.onto (ac.trans (aa.mono aj));have an:zy W4 w2 _ _:=(ad.block w2 lg).trans kE;have ao:zy W4 (w2+1) _ _:=(ad.block (w2+1) lg).trans kD;have hinv:=ah.out;have a4:=zk hed;have a5:=zk ab;have J0:=zk (show EnJ (w2+1) w2.heap.size w (0,0) W4 from ⟨ao,an,ab,kR⟩);have K4:=zk (zx (show zy W4 (w2+1+1) _ _ from kP) (show zy W4 ((w2.heap.size+1+1)+1) _ _ from kQ));clear hi hd ac al am kE kD kP kQ ai ad aa hed ab kR an ao ah
 gi_wp2_with fail
 refine lP (gf:=60) (lb:=#[zp (some ⟨w2+1+1+1,0,none⟩),zp (some ⟨w2+1+1,0,none⟩)]) (encs:=yw) (Y:=YS [W4.heap.size+1,w2.heap.size,w2.heap.size+1] b s.d xs) (E:=qo [W4.heap.size+1,w2.heap.size,w2.heap.size+1] b (qm s.d xs).1) (R:=wk b (W4+2)) (S:=[w2.heap.size,w2.heap.size+1]) (s0:=((0:Nat),(0:Int))) (s1:=((qm s.d xs).2.1+1,(qm s.d xs).2.2)) rfl (enters_of func60 lh rfl) (fun x hx=>by simp only [Aa,An,or_false] at hx;omega)
  (fun W1 hb hz=>by
   have h1:=UP (xs:=xs) (T:=[W4.heap.size+1,w2.heap.size,w2.heap.size+1]) (S:=[W4.heap.size+1,w2.heap.size,w2.heap.size+1]) (b:=b) (bo:=(w2.heap.size+1+1)+1) (be:=(w2.heap.size+1+1)) (a4.out.grow hb (fun x hx=>by simp only [Aa,An,or_false] at hx ⊢;omega) (fun x hx=>by simp only [Aa,An,or_false] at hx;omega)) (HO.out.later (.of_below (a5.out.trans (hb.mono lg)))) eg ((hb.block _ lg).trans K4.out.2) ((hb.block _ lg).trans K4.out.1) lg az.out hlen (fun h=>by have:=hlo _ h;omega) (fun k h=>by have:=hlo _ h;omega) (fun _ h=>h) (fun x hx=>by simp only [Aa,An,or_false] at hx;omega) lr lr lr (fun x hx h=>by have:=hlo _ h;simp only [Aa,An,or_false] at hx;omega) hinv 4 (W4+1);rw [hz] at h1;exact h1)
  (fun A B h hz=>⟨h.size,fun k h1 h2=>h.block k lg lg lg⟩) (fun _=>rfl)
  (EnJ (w2+1) w2 w) (fun _ _=>False) (fun s A B h _ k=>EnJ.but lg lg lg lg lg lg s A B h k) (fun _ _ _ h _ _=>h)
  (fun s=>EnJ.firm s _ lg) (fun _=>Firm.const _ _) (fun s x s'=>YS.firm _ _ _ _ _ _ _ _) (qo.firm _ _ _ _) J0.out
  (fun x a A=>a={ tmps:=#[s.v,.func (.func gf) #[] lb,zp (some ⟨w,0,none⟩),zz,zp (some ⟨w+1,0,none⟩),zn zo 0,zn zo 0,zp (some ⟨b,0,none⟩),zp (some ⟨w2,0,none⟩),zp (some ⟨w2+1,0,none⟩),zn zo x.1,zn zo x.2,Ak #[zp (some ⟨b,0,none⟩),zn zo 0],s.v,Ak #[zp (some ⟨b,0,none⟩),zn zo 0],zp (some ⟨b,0,none⟩),zn zo 0,zn zo 0,zr false,zz,zz,zp (some ⟨b,0,none⟩),.func (.func gf) #[] lb,.func (.func 60) #[] #[zp (some ⟨w2+1+1+1,0,none⟩),zp (some ⟨w2+1+1,0,none⟩)],zn zo x.1,zn zo x.2,zz,zz,zz,zz,zz,zz],defers:=[] }) (fun x a=>Firm.const _ _) ?assign ?body ?done ?stop
 case assign =>
  intro l' x W K hK
  gi_wp2
  exact hK _ _ (Below.refl _ _) rfl
 case body =>
  rintro l' ⟨m,e⟩ ⟨n,f⟩ ⟨m',e'⟩ A a1 hzA ⟨⟨he,he'⟩,hy,-⟩ ⟨j1,j2,j3,j4⟩ rfl;simp only at he he' hy j1 j2;subst he he';have k1:=j1.cell;have k2:=j2.cell;have f1:=j1.frozen;have f2:=j2.frozen;have s1:=(j1.set (zn zo n)).other (show w2.heap.size+1≠w2 by omega) (zn zo e');have s2:=(j2.other (show w2.heap.size≠w2+1 by omega) (zn zo n)).set (zn zo e');have s3:=(j3.setCell (p:=⟨w2+1,0,none⟩) (by show w.heap.size≤w2+1;omega) (zn zo n)).setCell (p:=⟨w2,0,none⟩) (by show w.heap.size≤w2;omega) (zn zo e');have s4:l6 ((A.setCell ⟨w2+1,0,none⟩ (zn zo n)).setCell ⟨w2,0,none⟩ (zn zo e')) (w+1) _ _:=(Below.heap_setCell _ _ _ _ (by show w.heap.size+1≠w2;omega)).trans ((Below.heap_setCell _ _ _ _ (by show w.heap.size+1≠w2+1;omega)).trans j4);have hm:=o9.join (o9.one j1 lj (zn zo n)) (o9.one (j2.other (show w2.heap.size≠w2+1 by omega) (zn zo n)) lj (zn zo e'));have hn:m' - 1=n:=lg;have S1:=zk (zx s1 (zx s2 (zx s3 s4)));have HM:=zk hm;clear j1 j2 j3 j4 s1 s2 s3 s4 hm
  gi_wp2
  refine ⟨?_,?_⟩
  ·exact HM.out.less li
  ·show EnJ _ _ _ (m',e') _;unfold EnJ;simp only [hn];exact S1.out
 case done =>
  rintro D' W hD hz ⟨j1,j2,j3,j4⟩ ⟨s5,r5,p5,L5,aq,ae⟩ hK;generalize hrr:qm s.d xs=r at j1 j2 ae;obtain ⟨rd,n,e⟩:=r;simp only [Nat.add_sub_cancel] at j1 j2 ae;have CS:=zk (fun V (hV:Below W W V)=>(aq.later hV).state (S:=(w.heap.size+1)::S) (fun x hx=>by rcases Aa.1 hx with rfl|hx;have:=hV.size;omega;have:=a2.out x hx;have:=j3.size;have:=hV.size;omega));have FS:=zk (fun V (hV:Below W W V)=>(⟨(hV.cell (p:=⟨w2+1,0,none⟩) (show w2.heap.size+1<W by omega)).trans j1.cell,(hV.cell (p:=⟨w2,0,none⟩) (show w2.heap.size<W by omega)).trans j2.cell⟩:(fun V:zq=>V ⟨w2+1,0,none⟩=some (zn zo n)∧V ⟨w2,0,none⟩=some (zn zo e)) V));have J3:=zk j3;have J4:=zk j4;have HK:=zk hK;have a6:=zk ae;clear j1 j2 j3 j4 aq ae hK
  gi_wp2_with fail
  refine wpIn_wide.2 (wp_region_noPanic ?_);refine Al (S:=(fun V:zq=>V ⟨w2+1,0,none⟩=some (zn zo n)∧V ⟨w2,0,none⟩=some (zn zo e))) lh (FS.out _ (Below.refl _ _).drew) (fun hHeld=>?_);refine lz 0 ?_;refine lz 2 ?_;refine lz 3 ?_;refine m8 1 fun K hK=>?_;go_simp
  (go_at_call 32;refine (CS.out _ (Below.refl _ _).drew).mono ?_;rintro e v5 ⟨⟨t6,⟨ma,ml,mc⟩,⟨ua,ul,uc⟩,⟨ra,rl,rc⟩,so,⟨ga,gl,gc⟩⟩,rfl,ar,au,av⟩;have hx:=(Below.refl W W).drew.trans av;have HX:=zk hx;have a7:=zk au;have a8:=zk ar;have K6:=zk (J4.out.onto hx);clear av hx au ar CS)
  try go_wp2_with fail
  refine hK.out _ _ ?_ (fun hHeld=>?_)
  ·exact FS.out _ HX.out
  clear hK K
  try simp only [Ab,mj]
  obtain ⟨x0,x1,x2,x3,x4,x5,y0,y1,y2,y3,y4,y5⟩:=K6.out.all6;refine m8 4 fun K hK=>?_;go_simp;skip
  try go_wp2_with fail
  refine hK.out _ _ ?_ (fun hHeld=>?_)
  ·refine ⟨?_,?_⟩
   ·iterate 6 refine aQ ?_ (by dsimp only;omega)
    exact (FS.out _ HX.out).1
   ·iterate 6 refine aQ ?_ (by dsimp only;omega)
    exact (FS.out _ HX.out).2
  clear hK K
  try simp only [Ab,mj]
  refine lz 5 ?_;refine lz 6 ?_;refine Am lh ?_ _;refine NoPanic.normal ?_;have kF:l6 (zu (zu (zu (zu (zu (zu v5 ⟨w+1,0,none⟩ (zt t6)) ⟨w+1,1,none⟩ (zm ma ml.length mc)) ⟨w+1,2,none⟩ (zm ua ul.length uc)) ⟨w+1,3,none⟩ (zm ra rl.length rc)) ⟨w+1,4,none⟩ (zr so)) ⟨w+1,5,none⟩ (zm ga gl.length gc)) (w+1) #[zt t6,zm ma ml.length mc,zm ua ul.length uc,zm ra rl.length rc,zr so,zm ga gl.length gc] 26:=(((((K6.out.set 0 _).set 1 _).set 2 _).set 3 _).set 4 _).set 5 _;have hDW:=(Array.getElem?_eq_some_iff.1 HK.out).1;have ak:(zu (zu (zu (zu (zu (zu v5 ⟨w+1,0,none⟩ (zt t6)) ⟨w+1,1,none⟩ (zm ma ml.length mc)) ⟨w+1,2,none⟩ (zm ua ul.length uc)) ⟨w+1,3,none⟩ (zm ra rl.length rc)) ⟨w+1,4,none⟩ (zr so)) ⟨w+1,5,none⟩ (zm ga gl.length gc)).heap[D']? = some (.deferred (some [])):=by
   iterate 6 refine (Below.heap_setCell _ _ _ _ (by dsimp only;omega)).trans ?_
   exact (HX.out.block D' hDW).trans HK.out
  have aw:Below w w (zu (zu (zu (zu (zu (zu v5 ⟨w+1,0,none⟩ (zt t6)) ⟨w+1,1,none⟩ (zm ma ml.length mc)) ⟨w+1,2,none⟩ (zm ua ul.length uc)) ⟨w+1,3,none⟩ (zm ra rl.length rc)) ⟨w+1,4,none⟩ (zr so)) ⟨w+1,5,none⟩ (zm ga gl.length gc)):=by
   iterate 6 refine Below.setCell ?_ (by dsimp only;omega) _
   exact J3.out.trans (HX.out.mono J3.out.size)
  have ax:mm ((w.heap.size+1)::S) (zu (zu (zu (zu (zu (zu v5 ⟨w+1,0,none⟩ (zt t6)) ⟨w+1,1,none⟩ (zm ma ml.length mc)) ⟨w+1,2,none⟩ (zm ua ul.length uc)) ⟨w+1,3,none⟩ (zm ra rl.length rc)) ⟨w+1,4,none⟩ (zr so)) ⟨w+1,5,none⟩ (zm ga gl.length gc)) ⟨t6,⟨ma,ml,mc⟩,⟨ua,ul,uc⟩,⟨ra,rl,rc⟩,so,⟨ga,gl,gc⟩⟩:=a7.out.apart (by
   iterate 6 refine lx.setCell ?_ (.inl li) _
   exact lx.refl _ _)
  obtain ⟨V7,ay⟩:∃ V7,zu (zu (zu (zu (zu (zu v5 ⟨w+1,0,none⟩ (zt t6)) ⟨w+1,1,none⟩ (zm ma ml.length mc)) ⟨w+1,2,none⟩ (zm ua ul.length uc)) ⟨w+1,3,none⟩ (zm ra rl.length rc)) ⟨w+1,4,none⟩ (zr so)) ⟨w+1,5,none⟩ (zm ga gl.length gc)=V7:=⟨_,rfl⟩;rw [ay] at kF ak aw ax ⊢;have hc:∀ (k:Nat) (v:Ae),#[zt t6,zm ma ml.length mc,zm ua ul.length uc,zm ra rl.length rc,zr so,zm ga gl.length gc][k]? = some v→(V7.putObj D' (.deferred none)) ⟨w+1,k,none⟩=some v:=fun k v h=>(pG (by show w+1≠D';omega)).trans (kF.cell k v h);have c0:=hc 0 _ rfl;have c1:=hc 1 _ rfl;have c2:=hc 2 _ rfl;have c3:=hc 3 _ rfl;have c4:=hc 4 _ rfl;have c5:=hc 5 _ rfl;clear x0 x1 x2 x3 x4 x5 y0 y1 y2 y3 y4 y5 ay kF hc
  gi_wp2
  refine cL (v:=Ak #[Ag #[zt t6,zm ma ml.length mc,zm ua ul.length uc,zm ra rl.length rc,zr so,zm ga gl.length gc],zn zo n,zn zo e]) ak (by simp [Ay,results19,go_sem,c0,c1,c2,c3,c4,c5]) ?_;rw [hrr];exact ⟨⟨t6,⟨ma,ml,mc⟩,⟨ua,ul,uc⟩,⟨ra,rl,rc⟩,so,⟨ga,gl,gc⟩⟩,rfl,a8.out.trans a6.out,(ax.putn ak rfl _).wide (fun i hi=>.inl (Ah _ hi)),KV aw lg⟩
 case stop =>
  rintro D' c W hD hz h hK;exact h.elim
set_option maxHeartbeats 1600000 in
theorem OC (s:l7) (f:Ae) (S:List Nat) (w:zq) (hin:ol w s) (hz:tg s) (hri:pz s=false):zw prog 19 #[s.v,f] w (p9 S w (wl,0,5)):=by
 obtain ⟨wX,hwX,kA,kB,ac,an⟩:=vo w s.cs #[zt ⟨#[]⟩,zm none 0 0,zm none 0 0,zm none 0 0,zr false,zm none 0 0] 26 26;have CL:=zk (FY s wX (hin.later ac) hz hri);have aj:=zk hwX;have ab:=zk ac;have KB:=zk kB;clear hwX ac kA kB hin hz hri;unfold l7.v l7.cs at *;go_enter func19,ntmps19;go_wp2_with fail;rw [aj.out];refine CL.out.mono ?_;rintro e w2 ⟨rfl,aa⟩;obtain ⟨x0,x1,x2,x3,x4,x5,y0,y1,y2,y3,y4,y5⟩:=(KB.out.onto aa).all6;have ao:=zk (ab.out.trans (aa.mono ab.out.size));have ak:=aa.size;clear CL;go_wp2;obtain ⟨W4,af,kE,ag,aq⟩:=n8 w2 #[zn zo 5] 31;rw [af];have FS:=zk (fun V (hV:Below W4 W4 V)=>((kE.onto hV).cell 0 _ rfl:(fun V:zq=>V ⟨w2,0,none⟩=some (zn zo 5)) V));have al:=zk (aa.trans (ag.mono ak));clear x0 x1 x2 x3 x4 x5 y0 y1 y2 y3 y4 y5 af kE ag aa;refine Al (S:=(fun V:zq=>V ⟨w2,0,none⟩=some (zn zo 5))) lh (FS.out _ (Below.refl _ _).drew) (fun hHeld=>?_);obtain ⟨W5,ah,ad⟩:∃ X,W4.drew=X∧Below W4 W4 X:=⟨_,rfl,(Below.refl _ _).drew⟩;rw [ah] at hHeld ⊢;have HX:=zk (al.out.trans (ad.mono lg));have K6:=zk (KB.out.onto HX.out);have am:=zk (FS.out _ ad);obtain ⟨x0,x1,x2,x3,x4,x5,y0,y1,y2,y3,y4,y5⟩:=K6.out.all6;clear ad ah FS;refine lz 0 ?_;refine lz 1 ?_;refine m8 2 fun K hK=>?_;go_simp;skip
 try go_wp2_with fail
 refine hK.out _ _ ?_ (fun hHeld=>?_)
 ·iterate 6 refine aQ ?_ (by dsimp only;omega)
  exact am.out
 clear hK K
 try simp only [Ab,mj]
 refine lz 3 ?_;refine lz 4 ?_;refine Am lh ?_ _;have kF:l6 (zu (zu (zu (zu (zu (zu W5 ⟨w+1,0,none⟩ (zt ⟨#[]⟩)) ⟨w+1,1,none⟩ (zm none 0 0)) ⟨w+1,2,none⟩ (zm none 0 0)) ⟨w+1,3,none⟩ (zm none 0 0)) ⟨w+1,4,none⟩ (zr false)) ⟨w+1,5,none⟩ (zm none 0 0)) (w+1) #[zt ⟨#[]⟩,zm none 0 0,zm none 0 0,zm none 0 0,zr false,zm none 0 0] 26:=(((((K6.out.set 0 _).set 1 _).set 2 _).set 3 _).set 4 _).set 5 _;have ae:Below w w (zu (zu (zu (zu (zu (zu W5 ⟨w+1,0,none⟩ (zt ⟨#[]⟩)) ⟨w+1,1,none⟩ (zm none 0 0)) ⟨w+1,2,none⟩ (zm none 0 0)) ⟨w+1,3,none⟩ (zm none 0 0)) ⟨w+1,4,none⟩ (zr false)) ⟨w+1,5,none⟩ (zm none 0 0)):=by
  iterate 6 refine Below.setCell ?_ (by dsimp only;omega) _
  exact ab.out.trans (HX.out.mono ab.out.size)
 obtain ⟨V7,ai⟩:∃ V7,zu (zu (zu (zu (zu (zu W5 ⟨w+1,0,none⟩ (zt ⟨#[]⟩)) ⟨w+1,1,none⟩ (zm none 0 0)) ⟨w+1,2,none⟩ (zm none 0 0)) ⟨w+1,3,none⟩ (zm none 0 0)) ⟨w+1,4,none⟩ (zr false)) ⟨w+1,5,none⟩ (zm none 0 0)=V7:=⟨_,rfl⟩;rw [ai] at kF ae ⊢;have HF:=zk (show p9 S w (wl,0,5) (Ad (Ak #[Ag #[zt ⟨#[]⟩,zm none 0 0,zm none 0 0,zm none 0 0,zr false,zm none 0 0],zn zo 0,zn zo 5])) V7 from ⟨wa,rfl,rfl,⟨tx.empty _ _,tf.empty _ _,tf.empty _ _,sv.empty _ _⟩,ae⟩);clear x0 x1 x2 x3 x4 x5 y0 y1 y2 y3 y4 y5 ai ae;obtain ⟨x0,x1,x2,x3,x4,x5,-,-,-,-,-,-⟩:=kF.all6;go_wp2;exact Av (v:=Ak #[Ag #[zt ⟨#[]⟩,zm none 0 0,zm none 0 0,zm none 0 0,zr false,zm none 0 0],zn zo 0,zn zo 5]) (by simp [Ay,results19,go_sem,x0,x1,x2,x3,x4,x5]) rfl HF.out
theorem sT (s:l7) (xs:List (ru×Int)) {gf:Nat} {lb:Array Ae} {D:Nat→Prop} (S:List Nat) (w:zq) (hS:qg S w) (hin:ol w s) (hz:tg s) (ho:vr gf lb xs D w) (hlo:∀ k,D k→k<w.heap.size) (eg:∀ args w,(Ax gf args).run prog w=.ok (.enter gf args) w)
 (hfit:∀ x∈xs,oi x.1.a∧x.1.s.size≤1000000) (hlen:xs.length≤1000000) :
 zw prog 19 #[s.v,.func (.func gf) #[] lb] w (p9 S w (se s xs)):=by
 unfold se;split
 ·exact KU s xs S w hS hin hz ln ho hlo eg hfit hlen
 ·exact OC s _ S w hin hz (by simpa using (by assumption:¬ pz s=true))
set_option maxHeartbeats 1600000 in
theorem LZ (s:l7) (l:List ru) (a:Option Ao) (c n:Nat) (S:List Nat) (w:zq) (hS:qg S w) (hin:ol w s) (hz:tg s) (hr:ud w (·<w) a l) (hn:l.length=n) (hnz:n≤1000000) (hf:∀ x∈l,oi x.a∧x.s.size≤1000000) :
 zw prog 10 #[s.v,zm a n c] w (p9 S w (se s (uf l))):=by
 obtain ⟨W,hW,kA,kB,ab,al⟩:=vo w s.cs #[zt ⟨#[]⟩,zm none 0 0,zm none 0 0,zm none 0 0,zr false,zm none 0 0] 26 26;have FS:=zk (fun V (hV:Below W W V)=>(⟨(kA.onto hV).cell 0 _ rfl,(kA.onto hV).cell 1 _ rfl,(kA.onto hV).cell 2 _ rfl,(kA.onto hV).cell 3 _ rfl,(kA.onto hV).cell 4 _ rfl,(kA.onto hV).cell 5 _ rfl⟩:(fun V:zq=>V ⟨w,0,none⟩=some (zt s.t)∧V ⟨w,1,none⟩=some (zm s.m.a s.m.l.length s.m.c)∧V ⟨w,2,none⟩=some (zm s.u.a s.u.l.length s.u.c)∧V ⟨w,3,none⟩=some (zm s.r.a s.r.l.length s.r.c)∧V ⟨w,4,none⟩=some (zr s.o)∧V ⟨w,5,none⟩=some (zm s.g.a s.g.l.length s.g.c)) V));have ae:=zk (fun V (hV:Below W W V) (ao:V.heap.size=W+1) (kL:zy V W 27 (zm a n c)) =>
  (show zw prog 19 #[s.v,.func (.func 36) #[] #[zp (some ⟨w+1+1,0,none⟩)]] V (p9 ((w.heap.size+1)::S) V (se s (uf l))) from by
   rw [← al];exact sT s (uf l) ((w.heap.size+1)::S) V (fun x hx=>by rcases Aa.1 hx with rfl|hx;omega;have:=hS x hx;omega) (hin.later (ab.trans (hV.mono ab.size))) hz
    (PX l a c n (D:=(·<V)) (bl:=W.heap.size) (w:=V) ((hr.below (N:=w.heap.size) (fun _ h=>h) (ab.trans (hV.mono ab.size))).more fun _ h=>lg) hn kL (by show W.heap.size<V;omega) (fun _ h=>h) hnz) (fun _ h=>h) (enters_of func36 lh rfl)
    (fun x hx=>by obtain ⟨y,hy,rfl⟩:=List.mem_map.1 hx;exact hf y hy) (by simp [uf];omega)))
 have KR:=zk kB;have HW:=zk hW;have af:=zk ab;clear hW kA kB ab hS hin hz hr hn hf;unfold l7.v l7.cs at *;go_enter func10,ntmps10;go_wp2_with fail;rw [HW.out];refine Al (S:=(fun V:zq=>V ⟨w,0,none⟩=some (zt s.t)∧V ⟨w,1,none⟩=some (zm s.m.a s.m.l.length s.m.c)∧V ⟨w,2,none⟩=some (zm s.u.a s.u.l.length s.u.c)∧V ⟨w,3,none⟩=some (zm s.r.a s.r.l.length s.r.c)∧V ⟨w,4,none⟩=some (zr s.o)∧V ⟨w,5,none⟩=some (zm s.g.a s.g.l.length s.g.c))) lh (FS.out _ (Below.refl _ _).drew) (fun hHeld=>?_);refine lz 0 ?_;refine lz 1 ?_;refine m8 2 fun K hK=>?_;go_simp
 (go_at_call 20;refine (KI l a c n _).mono ?_;rintro e v1 ⟨rfl,rfl⟩;obtain ⟨V1,ag,kL,hbl,hzl⟩:=n8 (W.drew) #[zm a n c] 27;have hzd:W.drew.heap.size=W:=rfl;rw [ag];have hx:=(Below.refl W W).drew.trans hbl;have HX:=zk hx;have HL:=zk (show zy V1 W.heap.size _ _ from kL);have CE:=zk (ae.out V1 hx lg kL);clear ag kL hbl hx ae)
 try go_wp2_with fail
 refine hK.out _ _ ?_ (fun hHeld=>?_)
 ·exact FS.out _ HX.out
 clear hK K
 try simp only [Ab,mj]
 refine m8 3 fun K hK=>?_;go_simp
 (go_at_call 19;refine CE.out.mono ?_;rintro e v2 ⟨⟨t6,⟨ma,ml,mc⟩,⟨ua,ul,uc⟩,⟨ra,rl,rc⟩,so,⟨ga,gl,gc⟩⟩,rfl,ah,ai,aj⟩;have hx:=HX.out.trans (aj.mono HX.out.size);have aa:=zk hx;have am:=zk ai;have an:=zk ah;have K6:=zk (KR.out.onto hx);clear aj hx ai ah CE)
 try go_wp2_with fail
 refine hK.out _ _ ?_ (fun hHeld=>?_)
 ·exact FS.out _ aa.out
 clear hK K
 try simp only [Ab,mj]
 obtain ⟨x0,x1,x2,x3,x4,x5,y0,y1,y2,y3,y4,y5⟩:=K6.out.all6;refine lz 4 ?_;refine lz 5 ?_;refine lz 6 ?_;refine m8 7 fun K hK=>?_;go_simp;skip
 try go_wp2_with fail
 refine hK.out _ _ ?_ (fun hHeld=>?_)
 ·refine ⟨?_,?_,?_,?_,?_,?_⟩
  ·iterate 6 refine aQ ?_ (by dsimp only;omega)
   exact (FS.out _ aa.out).1
  ·iterate 6 refine aQ ?_ (by dsimp only;omega)
   exact (FS.out _ aa.out).2.1
  ·iterate 6 refine aQ ?_ (by dsimp only;omega)
   exact (FS.out _ aa.out).2.2.1
  ·iterate 6 refine aQ ?_ (by dsimp only;omega)
   exact (FS.out _ aa.out).2.2.2.1
  ·iterate 6 refine aQ ?_ (by dsimp only;omega)
   exact (FS.out _ aa.out).2.2.2.2.1
  ·iterate 6 refine aQ ?_ (by dsimp only;omega)
   exact (FS.out _ aa.out).2.2.2.2.2
 clear hK K
 try simp only [Ab,mj]
 refine lz 8 ?_;refine lz 9 ?_;refine Am lh ?_ _;have kF:l6 (zu (zu (zu (zu (zu (zu v2 ⟨w+1,0,none⟩ (zt t6)) ⟨w+1,1,none⟩ (zm ma ml.length mc)) ⟨w+1,2,none⟩ (zm ua ul.length uc)) ⟨w+1,3,none⟩ (zm ra rl.length rc)) ⟨w+1,4,none⟩ (zr so)) ⟨w+1,5,none⟩ (zm ga gl.length gc)) (w+1) #[zt t6,zm ma ml.length mc,zm ua ul.length uc,zm ra rl.length rc,zr so,zm ga gl.length gc] 26:=(((((K6.out.set 0 _).set 1 _).set 2 _).set 3 _).set 4 _).set 5 _;have ac:Below w w (zu (zu (zu (zu (zu (zu v2 ⟨w+1,0,none⟩ (zt t6)) ⟨w+1,1,none⟩ (zm ma ml.length mc)) ⟨w+1,2,none⟩ (zm ua ul.length uc)) ⟨w+1,3,none⟩ (zm ra rl.length rc)) ⟨w+1,4,none⟩ (zr so)) ⟨w+1,5,none⟩ (zm ga gl.length gc)):=by
  iterate 6 refine Below.setCell ?_ (by dsimp only;omega) _
  exact af.out.trans (aa.out.mono af.out.size)
 have ad:mm ((w.heap.size+1)::S) (zu (zu (zu (zu (zu (zu v2 ⟨w+1,0,none⟩ (zt t6)) ⟨w+1,1,none⟩ (zm ma ml.length mc)) ⟨w+1,2,none⟩ (zm ua ul.length uc)) ⟨w+1,3,none⟩ (zm ra rl.length rc)) ⟨w+1,4,none⟩ (zr so)) ⟨w+1,5,none⟩ (zm ga gl.length gc)) ⟨t6,⟨ma,ml,mc⟩,⟨ua,ul,uc⟩,⟨ra,rl,rc⟩,so,⟨ga,gl,gc⟩⟩:=am.out.apart (by
  iterate 6 refine lx.setCell ?_ (.inl li) _
  exact lx.refl _ _)
 obtain ⟨V7,ak⟩:∃ V7,zu (zu (zu (zu (zu (zu v2 ⟨w+1,0,none⟩ (zt t6)) ⟨w+1,1,none⟩ (zm ma ml.length mc)) ⟨w+1,2,none⟩ (zm ua ul.length uc)) ⟨w+1,3,none⟩ (zm ra rl.length rc)) ⟨w+1,4,none⟩ (zr so)) ⟨w+1,5,none⟩ (zm ga gl.length gc)=V7:=⟨_,rfl⟩;rw [ak] at kF ac ad ⊢;have HF:=zk (show p9 S w (se s (uf l)) (Ad (Ak #[Ag #[zt t6,zm ma ml.length mc,zm ua ul.length uc,zm ra rl.length rc,zr so,zm ga gl.length gc],zn zo (se s (uf l)).2.1,zn zo (se s (uf l)).2.2])) V7 from ⟨⟨t6,⟨ma,ml,mc⟩,⟨ua,ul,uc⟩,⟨ra,rl,rc⟩,so,⟨ga,gl,gc⟩⟩,rfl,an.out,ad.wide (fun i hi=>.inl (Ah _ hi)),ac⟩);clear x0 x1 x2 x3 x4 x5 y0 y1 y2 y3 y4 y5 ak ac ad;obtain ⟨x0,x1,x2,x3,x4,x5,-,-,-,-,-,-⟩:=kF.all6;go_wp2;exact Av (v:=Ak #[Ag #[zt t6,zm ma ml.length mc,zm ua ul.length uc,zm ra rl.length rc,zr so,zm ga gl.length gc],zn zo (se s (uf l)).2.1,zn zo (se s (uf l)).2.2]) (by simp [Ay,results10,go_sem,x0,x1,x2,x3,x4,x5]) rfl HF.out
theorem zG (a b:l7) (w:zq) (ha:ol w a) (hb:ol w b) (fa:StaF a) (fb:StaF b):zw prog 12 #[a.v,b.v] w (wp (sameD a.d b.d) w):=
 GV a.t b.t _ _ _ _ _ _ _ _ _ _ _ _ a.o b.o _ _ _ _ w
  (fun W hW=>zX a.m.a b.m.a a.m.l b.m.l a.m.c b.m.c _ _ W (ha.later hW).m.row (hb.later hW).m.row (fun _ h=>h) (fun _ h=>h) (zv fa.m lj) (zv fb.m lj))
  (fun W hW=>mX a.u.a b.u.a a.u.l b.u.l a.u.c b.u.c W (ha.later hW).u (hb.later hW).u (fun x hx=>fa.z x (by simp [hx])) (fun x hx=>fb.z x (by simp [hx])))
  (fun W hW=>mX a.r.a b.r.a a.r.l b.r.l a.r.c b.r.c W (ha.later hW).r (hb.later hW).r (fun x hx=>fa.z x (by simp [hx])) (fun x hx=>fb.z x (by simp [hx])))
  (fun W hW=>oK a.g.a b.g.a a.g.l b.g.l a.g.c b.g.c W (ha.later hW).g.row (hb.later hW).g.row (zv fa.g lj) (zv fb.g lj))
abbrev l7.cells (s:l7):Array Ae:=#[zt s.t,zm s.m.a s.m.l.length s.m.c,zm s.u.a s.u.l.length s.u.c,zm s.r.a s.r.l.length s.r.c,zr s.o,zm s.g.a s.g.l.length s.g.c]
end Go.Proofs.YtbagenpobcgjnaaGreat
