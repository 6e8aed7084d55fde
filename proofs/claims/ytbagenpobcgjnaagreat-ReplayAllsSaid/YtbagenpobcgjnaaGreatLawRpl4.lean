/-
  LawRpl4
-/
import Derived.Test.YtbagenpobcgjnaaGreatJOpenSta4
import Derived.Test.YtbagenpobcgjnaaGreatJRplAll
import Derived.Test.YtbagenpobcgjnaaGreatOpenOpc
open And renaming intro->zf
open Array renaming getElem?_eq_some_iff->zt
open Go renaming Boxed->zi,bodyPost_ret->zp,callsIn_wide->zh,maxLen->zk,undef->yy
open Go.Lib renaming hid->yv
open Go.RowKit renaming Below->zd
open Go.Value renaming bool->yx,int->yz,pointer->zj,slice->yw,string->zg
open Nat renaming le_trans->zo,lt_of_lt_of_le->zn,zero_le->zr
namespace Go.Proofs.YtbagenpobcgjnaaGreat
open Go.Proofs.Tryz
set_option maxRecDepth 100000
open Lib (hid)
open Go.RowKit
set_option linter.unusedVariables false
set_option linter.unusedSimpArgs false
attribute [local go_sem] Oper.semAt_some
set_option maxHeartbeats 3200000 in
theorem pW (s:lz) (a:Option Addr) (l:List oo) (c n:Nat) (m0:Int) (w:World) (hin:n9 w s) (hl:ym s) (hr:qk w (·<w) a l) (hn:l.length=n) (hm:n≤zk) (hfew:s.few=false) :
 Calls prog 5 #[s.v,yw a n c,yz .u8 m0] w fun e w'=>e=.returned (yx true)∧zd w w w':=by
 unfold zk at hm;obtain ⟨wX,hwX,kS,kM,kR,aa,ag⟩:=xi w #[zg s.t,yw s.m.a s.m.l.length s.m.c,yw s.u.a s.u.l.length s.u.c,yw s.r.a s.r.l.length s.r.c,yx s.o,yw s.g.a s.g.l.length s.g.c] #[yz .u8 m0] #[yx false] 26 5 4;have cf:=lS s wX (hin.later aa) hl;have cw:=fun W (hW:zd w w W)=>lY a l c W ((hr.below (fun _ h=>h) hW).more fun b h=>zn h hW.size) ln;rw [hn] at cw;rw [hfew] at cf;have CF:=yv cf;have CW:=yv cw;have ad:=yv aa;have KR:=yv kR;have ah:=yv hwX;obtain ⟨z0,z1,z2,z3,z4,z5,f0,f1,f2,f3,f4,f5⟩:=kS.all6;rw [← hwX] at z0 z1 z2 z3 z4 z5 f0 f1 f2 f3 f4 f5;clear cf cw kS kM kR aa ag hin hl hr hn hm hwX;go_enter func5,ntmps5;go_wp2_with fail;rw [ah.out];refine CF.out.mono ?_;rintro e w1 ⟨rfl,ab⟩;have ae:=yv (ad.out.trans (ab.mono ad.out.size));have af:=yv ab;clear ab;go_wp2_with fail;refine (fB _).mono ?_;rintro e w3 ⟨rfl,ac⟩;have ai:=yv (ae.out.trans (ac.mono ae.out.size));have kr:=KR.out.onto (af.out.trans (ac.mono af.out.size));have y0:=kr.cell 0 _ rfl;have y1:=kr.free 0;have aj:=yv (ai.out.setCell (p:=⟨w+1+1,0,none⟩) (by show w.heap.size≤w+1+1;omega) (yx true));have hr:=(kr.set 0 (yx true)).cell 0 _ rfl;clear ac z0 z1 z2 z3 z4 z5 f0 f1 f2 f3 f4 f5 kr;go_wp2;exact zp (v:=yx true) (by simp [results,results5,go_sem,hr]) rfl ⟨rfl,aj.out⟩
set_option maxHeartbeats 3200000 in
theorem pS (s:lz) (a:Option Addr) (l:List oo) (c n:Nat) (m0:Int) (w:World) (hin:n9 w s) (hl:ym s) (hr:qk w (·<w) a l) (hn:l.length=n) (hm:n≤zk) (hfew:s.few=true) (hw:wd l=false) :
 Calls prog 5 #[s.v,yw a n c,yz .u8 m0] w fun e w'=>e=.returned (yx true)∧zd w w w':=by
 unfold zk at hm;obtain ⟨wX,hwX,kS,kM,kR,aa,ag⟩:=xi w #[zg s.t,yw s.m.a s.m.l.length s.m.c,yw s.u.a s.u.l.length s.u.c,yw s.r.a s.r.l.length s.r.c,yx s.o,yw s.g.a s.g.l.length s.g.c] #[yz .u8 m0] #[yx false] 26 5 4;have cf:=lS s wX (hin.later aa) hl;have cw:=fun W (hW:zd w w W)=>lY a l c W ((hr.below (fun _ h=>h) hW).more fun b h=>zn h hW.size) ln;rw [hn] at cw;rw [hfew] at cf;simp only [hw] at cw;have CF:=yv cf;have CW:=yv cw;have ae:=yv aa;have KR:=yv kR;have ah:=yv hwX;obtain ⟨z0,z1,z2,z3,z4,z5,f0,f1,f2,f3,f4,f5⟩:=kS.all6;rw [← hwX] at z0 z1 z2 z3 z4 z5 f0 f1 f2 f3 f4 f5;clear cf cw kS kM kR aa ag hin hl hr hn hm hwX;go_enter func5,ntmps5;go_wp2_with fail;rw [ah.out];refine CF.out.mono ?_;rintro e w1 ⟨rfl,ab⟩;have ac:=yv (ae.out.trans (ab.mono ae.out.size));have af:=yv ab;clear ab;go_wp2_with fail;refine (CW.out _ ac.out).mono ?_;rintro e w2 ⟨rfl,rfl⟩;go_wp2_with fail;refine (fB _).mono ?_;rintro e w3 ⟨rfl,ad⟩;have ai:=yv (ac.out.trans (ad.mono ac.out.size));have kr:=KR.out.onto (af.out.trans (ad.mono af.out.size));have y0:=kr.cell 0 _ rfl;have y1:=kr.free 0;have aj:=yv (ai.out.setCell (p:=⟨w+1+1,0,none⟩) (by show w.heap.size≤w+1+1;omega) (yx true));have hr:=(kr.set 0 (yx true)).cell 0 _ rfl;clear ad z0 z1 z2 z3 z4 z5 f0 f1 f2 f3 f4 f5 kr;go_wp2;exact zp (v:=yx true) (by simp [results,results5,go_sem,hr]) rfl ⟨rfl,aj.out⟩
set_option maxHeartbeats 3200000 in
theorem tM (s:lz) (a:Option Addr) (l:List oo) (c n:Nat) (m0:Int) (w:World) (hin:n9 w s) (hl:ym s) (hr:qk w (·<w) a l) (hn:l.length=n) (hz:sd s) (hfew:s.few=true) (hf:∀ x∈l,x.fits) (hw:wd l=true) (hnil:a=none→c=0) (hm0:0≤m0∧m0≤255) :
 Calls prog 5 #[s.v,yw a n c,yz .u8 m0] w fun e w'=>e=.returned (yx true)∧zd w w w':=by
 have h40:=(kH.1 hw).1;rw [hn] at h40;obtain ⟨wX,hwX,kS,kM,kR,aq,a0⟩:=xi w #[zg s.t,yw s.m.a s.m.l.length s.m.c,yw s.u.a s.u.l.length s.u.c,yw s.r.a s.r.l.length s.r.c,yx s.o,yw s.g.a s.g.l.length s.g.c] #[yz .u8 m0] #[yx false] 26 5 4;have cf:=lS s wX (hin.later aq) hl;have cw:=fun W (hW:zd w w W)=>lY a l c W ((hr.below (fun _ h=>h) hW).more fun b h=>zn h hW.size) ln;rw [hn] at cw;rw [hfew] at cf;simp only [hw] at cw;have hmix:prog.follows .mixedOrders=true:=lg;have hfit:∀ x∈l,o8 x.a∧x.s.size≤1000000:=fun x hx=>⟨OB (hf x hx),zo ((kH.1 hw).2 x hx) li⟩;have hrow:=fun V (hV:zd w w V)=>(hr.below (fun _ h=>h) hV).more (B':=(·<V)) fun b h=>zn h hV.size;have cd:=fun V (hV:zd w w V)=>AO s l a c n [] V (fun i hi=>absurd hi lh) (hin.later hV).bare hz (hrow V hV) hn lf hfit;have ca:=fun (L:List lz) (hL:L.map lz.d=if o0 s=true then rr s.d (qy l) else []) V (hV:zd w w V)=>MH s l L a c n V (hin.later hV) hz hL (hrow V hV) hn hnil lf hfit;have hinv:∀ (L:List lz),L.map lz.d=(if o0 s=true then rr s.d (qy l) else [])→L.length≤41:=fun L hL=>by
  have h1:L.length=(if o0 s=true then rr s.d (qy l) else []).length:=by rw [← hL,List.length_map]
  split at h1
  ·rw [zU] at h1;have h2:(pk s.d (qy l)).2.1≤(qy l).length:=by
    clear hL h1;generalize s.d=d;generalize qy l=xs
    induction xs generalizing d with
    | nil=>exact Nat.le_refl _
    | cons x t ih =>
     by_cases h:(qw d x).2=0
     ·simp only [pk,if_pos h,List.length_cons];exact Nat.succ_le_succ (ih _)
     ·simp only [pk,if_neg h];exact zr _
   rw [gU,hn] at h2;omega
  ·rw [h1];exact zr _
 obtain ⟨M,hM⟩:∃ M:Nat,m0=M:=⟨m0.toNat,lf⟩;subst hM;have CF:=yv cf;have CW:=yv cw;have a3:=yv aq;have CA:=yv ca;have CD:=yv cd;have KS:=yv kS;have KM:=yv kM;have KR:=yv kR;have bc:=yv hinv;have bd:=yv hwX;have a4:=yv a0;obtain ⟨z0,z1,z2,z3,z4,z5,f0,f1,f2,f3,f4,f5⟩:=kS.all6;rw [← hwX] at z0 z1 z2 z3 z4 z5 f0 f1 f2 f3 f4 f5;clear cf cw ca cd hinv kS kM kR aq a0 hin hl hr hn hz hfew hw hf hfit hrow h40 hwX hnil;refine (zh (n:=5)).1 ?_;refine callsIn_of_wp_marks func5 rfl trivial ?_ rfl;simp only [ntmps5,List.size_toArray,List.length_cons,List.length_nil,Nat.reduceAdd,Nat.reduceSub,Array.replicate_succ,Array.replicate_zero,List.push_toArray,List.append_toArray,List.nil_append,List.cons_append]
 gi_wp2_with fail
 rw [bd.out];refine ⟨trivial,(zh.2 CF.out).mono ?_⟩;rintro e w1 ⟨rfl,ar⟩;have au:=yv ar;have ah:=yv (a3.out.trans (ar.mono a3.out.size));clear ar z0 z1 z2 z3 z4 z5 f0 f1 f2 f3 f4 f5
 gi_wp2_with fail
 refine ⟨trivial,(zh.2 (CW.out _ ah.out)).mono ?_⟩;rintro e w2 ⟨rfl,rfl⟩;obtain ⟨z0,z1,z2,z3,z4,z5,-,-,-,-,-,-⟩:=(KS.out.onto au.out).all6
 gi_wp2_with fail
 refine ⟨trivial,(zh.2 (CD.out _ ah.out)).mono ?_⟩;rintro e w3 ⟨a2,L,c2,rfl,hrow,hLin,hLd,ac⟩;obtain ⟨N,hN⟩:∃ N,L.length=N:=⟨_,rfl⟩;rw [hN];obtain ⟨W3,av,kW,ai,a5⟩:=nu w3 #[yw a2 N c2] 41;obtain ⟨W4,aw,kN,al,be⟩:=nu W3 #[yz .i64 0] 3;have am:=au.out.trans ((ac.trans (ai.mono ac.size)).mono au.out.size);have hle:=bc.out L hLd;rw [hN] at hle;have ba:=yv (hrow.later ai);have bb:=yv (fun y hy=>(hLin y hy).later ai);have ab:=yv am;have KW:=yv kW;have KN:=yv (show zi W4 W3.heap.size _ _ from kN);have ax:=yv al;have a6:=yv hN;have an:=yv (ah.out.trans ((ac.trans (ai.mono ac.size)).mono ah.out.size));have a7:=yv (CA.out L hLd W4 ((ah.out.trans ((ac.trans (ai.mono ac.size)).mono ah.out.size)).trans (al.mono (zo ah.out.size (ac.trans (ai.mono ac.size)).size))));have bf:=yv (show (w3.alloc (.cells #[yw a2 N c2] 41)).alloc (.cells #[yz .i64 0] 3)=W4 by rw [av,aw]);obtain ⟨y0,y1,y2,y3,y4,y5,-,-,-,-,-,-⟩:=(KS.out.onto (am.trans (al.mono am.size))).all6;rw [← aw,← av] at y0 y1 y2 y3 y4 y5;have hzz:W3.heap.size=w3+1:=a5;clear hrow hLin hLd ac hN av kW ai a5 aw kN al be am z0 z1 z2 z3 z4 z5 CA CD CF CW;have ao:=yv hzz;clear hzz
 gi_wp2_with fail
 rw [bf.out];refine ⟨trivial,(zh.2 a7.out).mono ?_⟩;rintro e w5 ⟨G,lb,rfl,eg,hnil,hit,a8⟩;have bg:=yv hit;have ay:=yv a8;have EG:=yv eg;clear hit a8 a7 y0 y1 y2 y3 y4 y5 eg
 gi_wp2_with fail
 have af:=yv (show w.heap.size+1+1+1≤w5 from by have h1:=ab.out.size;have h2:=ax.out.size;have h3:=ay.out.size;have h4:=a4.out;omega);have h35:zd W3 W3 w5:=ax.out.trans (ay.out.mono ax.out.size);have kn5:zi w5 (w3+1) 3 (yz .i64 0):=by
  have h1:=(ay.out.block _ KN.out.lt).trans KN.out;have h2:=ao.out;rw [h2] at h1;exact h1
 have aa:w3.heap.size+1<w5:=kn5.lt;have a9:W3.heap.size=w3+1:=ao.out;have J0:=yv (show (zd W3 W3 w5∧zi w5 (w3+1) 3 (yz .i64 ((0:Nat):Int))∧(0=0∨0<M)) from ⟨h35,kn5,.inl rfl⟩);have ag:=yv a9;clear h35 kn5 a9 hnil;refine dU (gf:=G) (lb:=lb) (encs:=encA) (Y:=YL L) (E:=fun _=>True) (R:=fun A B=>zd (w5+2) A B) (S:=[w3.heap.size+1]) (s0:=0) (s1:=L.length) rfl EG.out (fun x hx=>by rw [List.mem_singleton.1 hx];exact aa)
  (fun W1 hb hz=>by
   have h1:=bg.out W1 4 (w5+1) [w5.heap.size+1,w3.heap.size+1] hb (fun x hx=>by
    simp only [List.mem_cons,List.not_mem_nil,or_false] at hx;have h2:=KN.out.lt;have h3:=ag.out;omega)
   rw [hz] at h1;exact h1)
  (fun A B h hz=>⟨h.size,fun k h1 h2=>h.block k lf⟩) (fun _=>rfl)
  (fun k A=>zd W3 W3 A∧zi A (w3+1) 3 (yz .i64 (k:Nat))∧(k=0∨k<M)) (fun c A=>c=.exit 0∧∃ k:Nat,zd W3 W3 A∧zi A (w3+1) 3 (yz .i64 k)∧0<k∧k≤N∧M≤k∧(k=1∨k=M))
  (fun k A B ⟨h1,h2,h3⟩ _ k=>⟨h1.trans (k.mono (by have:=ag.out;omega)),(k.block _ lf).trans h2,h3⟩)
  (fun c A B ⟨h0,q,h1,h2,h3⟩ _ k=>⟨h0,q,h1.trans (k.mono (by have:=ag.out;omega)),(k.block _ lf).trans h2,h3⟩)
  (fun k=>⟨fun A B ⟨h1,h2,h3⟩ hb=>⟨h1.trans (hb.mono h1.size),(hb.block _ h2.lt).trans h2,h3⟩,fun A r r' ⟨h1,h2,h3⟩ hl=>⟨bB h1 (by have:=ag.out;omega),dX hl _ h2,h3⟩⟩)
  (fun c=>⟨fun A B ⟨h0,q,h1,h2,h3⟩ hb=>⟨h0,q,h1.trans (hb.mono h1.size),(hb.block _ h2.lt).trans h2,h3⟩,fun A r r' ⟨h0,q,h1,h2,h3⟩ hl=>⟨h0,q,bB h1 (by have:=ag.out;omega),dX hl _ h2,h3⟩⟩) (fun m x m'=>YL.firm L _ m x m') (Firm.triv _) J0.out
  (fun x a1 A=>∃ bx:Nat,a1={ tmps:=#[s.v,yw a n c,yz .u8 M,zj (some ⟨w,0,none⟩),yy,zj (some ⟨w+1,0,none⟩),zj (some ⟨w+1+1,0,none⟩),zj (some ⟨w3,0,none⟩),zj (some ⟨w3+1,0,none⟩),.func (.func G) #[] lb,zj (some ⟨bx,0,none⟩),.agg #[zg s.t,yw s.m.a s.m.l.length s.m.c,yw s.u.a s.u.l.length s.u.c,yw s.r.a s.r.l.length s.r.c,yx s.o,yw s.g.a s.g.l.length s.g.c],yx true,yx false,yx false,yw a n c,yx true,yx false,yx false,yy,.agg #[zg s.t,yw s.m.a s.m.l.length s.m.c,yw s.u.a s.u.l.length s.u.c,yw s.r.a s.r.l.length s.r.c,yx s.o,yw s.g.a s.g.l.length s.g.c],yw a n c,yw a2 N c2,.agg #[zg s.t,yw s.m.a s.m.l.length s.m.c,yw s.u.a s.u.l.length s.u.c,yw s.r.a s.r.l.length s.r.c,yx s.o,yw s.g.a s.g.l.length s.g.c],yw a n c,.func (.func G) #[] lb,.func (.func G) #[] lb,yx false,.func (.func G) #[] lb,.agg #[zg x.t,yw x.m.a x.m.l.length x.m.c,yw x.u.a x.u.l.length x.u.c,yw x.r.a x.r.l.length x.r.c,yx x.o,yw x.g.a x.g.l.length x.g.c],yy,yy,yy,yy,yy,yy,yy,yy,yy,yy,yy,yy,yy,yy,yy,yy,yy,yy,yy,yy,yy,yy,yy,yy,yy,yy,yy,yy,yy,yy,yy,yy,yy],defers:=[] }∧l6 A bx #[zg x.t,yw x.m.a x.m.l.length x.m.c,yw x.u.a x.u.l.length x.u.c,yw x.r.a x.r.l.length x.r.c,yx x.o,yw x.g.a x.g.l.length x.g.c] 26) (fun x a1=>Firm.ex fun bx=>(Firm.const _ _).both (Firm.blk _ _ _ _)) ?assign ?body ?done ?stop
 case assign =>
  intro l' x W K hK
  gi_wp2
  exact hK _ _ (ni _ _) ⟨_,rfl,l6.new _ _ _⟩
 case body =>
  rintro l' k x k' A a1 hzA ⟨⟨rfl,⟨hkL,hxd⟩,hinv⟩,hst⟩ ⟨j1,j2,j3⟩ ⟨bx,rfl,kx⟩;have hbA:=(Below.refl A A).drew;have hrow:=(ba.out.later j1).later hbA;obtain ⟨ad,hade,hadl,q0,q1,q2,q3,q4,q5⟩:=hrow k hkL;have hy:=(bb.out L[k] (List.getElem_mem hkL)).later (j1.trans (hbA.mono j1.size));have cs:=yM x L[k] A.drew (hst.later hbA).in hy hinv.few (show mx (lz.d L[k]) by rw [← hxd];exact hinv).few;rw [hxd,DA] at cs;have hkN:k<N:=by rw [← a6.out];exact hkL
  have km:=KM.out.onto (ab.out.trans (j1.mono ab.out.size));have kw:l6 A w3 #[yw a2 N c2] 41:=(j1.block w3 (by have:=ag.out;omega)).trans KW.out;obtain ⟨t3,⟨ma3,ml3,mc3⟩,⟨ua3,ul3,uc3⟩,⟨ra3,rl3,rc3⟩,so3,⟨ga3,gl3,gc3⟩⟩:=x;generalize L[k]=y at q0 q1 q2 q3 q4 q5 cs;obtain ⟨t4,⟨ma4,ml4,mc4⟩,⟨ua4,ul4,uc4⟩,⟨ra4,rl4,rc4⟩,so4,⟨ga4,gl4,gc4⟩⟩:=y;simp only at q0 q1 q2 q3 q4 q5 kx;subst hade;obtain ⟨x0,x1,x2,x3,x4,x5,-,-,-,-,-,-⟩:=(kx.onto hbA).all6;have t8:A.drew ⟨w3+1,0,none⟩=some (yz .i64 k):=j2.cell;have t7:=(kw.onto hbA).cell 0 _ rfl;have CS:=yv cs;have J1:=yv j1;have J2:=yv j2;have J3:=yv j3;have bh:=yv km;have b0:(0:Int)≤(k:Int):=lf;have b1:(k:Int)<(N:Int):=lf;have b2:¬ (N:Int)≤(k:Int):=lf;clear cs j1 j2 j3 km kw kx hrow hy hst hinv hxd hkL hadl hbA
  gi_wp2_with fail
  refine nJ 10 hmix lg lg ?_;simp only [List.take_succ_cons,List.take_zero,List.drop_succ_cons,List.drop_zero]
  repeat still_step
  refine wpStill_nil ?_;clear x0 x1 x2 x3 x4 x5 q0 q1 q2 q3 q4 q5 t7 t8
  gi_wp2_with fail
  refine ⟨trivial,(zh.2 CS.out).mono ?_⟩;rintro e B ⟨rfl,hbB⟩;have hAB:zd A A B:=(Below.refl A A).drew.trans hbB;have j2:zi B (w3+1) _ _:=(hAB.block _ J2.out.lt).trans J2.out;have t8:=j2.cell;have f8:=j2.frozen;have t5:=(bh.out.onto hAB).cell 0 _ rfl;have hm:=oi.join (oi.of_below hAB) (oi.one j2 li (yz .i64 ((k:Int)+1)));have s2:=j2.set (yz .i64 ((k:Int)+1));have s1:=(J1.out.trans (hAB.mono J1.out.size)).setCell (p:=⟨w3+1,0,none⟩) (by have:=ag.out;show W3.heap.size≤w3+1;omega) (yz .i64 ((k:Int)+1));have n5:w.heap.size+1≠w3+1:=by have h1:=ab.out.size;have h2:=a4.out;have h3:=ag.out;omega
  have HF:=yv (zf hm (zf s1 s2));clear hbB hAB j2 hm s1 s2 CS;by_cases hge:M≤k+1
  ·have g1:(M:Int)≤(k:Int)+1:=lf
   gi_wp2
   exact ⟨HF.out.1,rfl,k+1,HF.out.2.1,HF.out.2.2,lf,lf,lf,by have:=J3.out;omega⟩
  ·have g1:¬ (M:Int)≤(k:Int)+1:=lf
   gi_wp2
   exact ⟨HF.out.1,HF.out.2.1,HF.out.2.2,lf⟩
 case done =>
  rintro D' W hD hz ⟨j1,j2,j3⟩ - hK;rw [a6.out] at j2 j3;have aa:zd w w W:=an.out.trans (j1.mono an.out.size);have kr:=KR.out.onto (ab.out.trans (j1.mono ab.out.size));have km:=KM.out.onto (ab.out.trans (j1.mono ab.out.size));have kw:l6 W w3 #[yw a2 N c2] 41:=(j1.block w3 (by have:=ao.out;omega)).trans KW.out;have t8:=j2.cell;have t7:=kw.cell 0 _ rfl;have t5:=km.cell 0 _ rfl;have r1:((N:Int) == min (N:Int) (max (M:Int) (min (N:Int) 1)))=true:=lq;have hDW:=(zt.1 hK).1;have J1:=yv (zf aa (zf kr hK));have J2:=yv (zf j1 j2);clear aa kr km kw j1 j2 hK
  gi_wp2_with fail
  refine ⟨trivial,(zh.2 (fB _)).mono ?_⟩;rintro e W9 ⟨rfl,ae⟩;obtain ⟨aa,kr,hK⟩:=J1.out;have kr9:=kr.onto ae;have u0:=kr9.cell 0 _ rfl;have u1:=kr9.free 0;have ak:(W9.setCell ⟨w+1+1,0,none⟩ (yx true)).heap[D']? = some (.deferred (some [])):=(Below.heap_setCell _ _ _ _ (by have:=af.out;dsimp only;omega)).trans ((ae.block D' hDW).trans hK);have aj:=yv (zf ((kr9.set 0 (yx true)).cell 0 _ rfl) ((aa.trans (ae.mono aa.size)).setCell (p:=⟨w+1+1,0,none⟩) (by show w.heap.size≤w+1+1;omega) (yx true)));have az:=yv ak;clear ae kr kr9 hK aa ak t8 t7 t5 r1 J1 J2
  gi_wp2
  refine aO (v:=yx true) az.out (dT rfl underlying4 (by intro w;kernel_rfl) _ _ ⟨w+1+1,0,none⟩ true rfl ?_) ⟨rfl,bB aj.out.2 (by have:=af.out;omega)⟩;rw [gQ (by have:=af.out;show w+1+1≠D';omega)];exact aj.out.1
 case stop =>
  rintro D' c W hD hz ⟨rfl,k,j1,j2,j3,j4,j5,j6⟩ hK;have aa:zd w w W:=an.out.trans (j1.mono an.out.size);have kr:=KR.out.onto (ab.out.trans (j1.mono ab.out.size));have km:=KM.out.onto (ab.out.trans (j1.mono ab.out.size));have kw:l6 W w3 #[yw a2 N c2] 41:=(j1.block w3 (by have:=ao.out;omega)).trans KW.out;have t8:=j2.cell;have t7:=kw.cell 0 _ rfl;have t5:=km.cell 0 _ rfl;have r1:((k:Int) == min (N:Int) (max (M:Int) (min (N:Int) 1)))=true:=lq;have hDW:=(zt.1 hK).1;have J1:=yv (zf aa (zf kr hK));have J2:=yv (zf j1 j2);clear aa kr km kw j1 j2 hK
  gi_wp2_with fail
  refine ⟨trivial,(zh.2 (fB _)).mono ?_⟩;rintro e W9 ⟨rfl,ae⟩;obtain ⟨aa,kr,hK⟩:=J1.out;have kr9:=kr.onto ae;have u0:=kr9.cell 0 _ rfl;have u1:=kr9.free 0;have ak:(W9.setCell ⟨w+1+1,0,none⟩ (yx true)).heap[D']? = some (.deferred (some [])):=(Below.heap_setCell _ _ _ _ (by have:=af.out;dsimp only;omega)).trans ((ae.block D' hDW).trans hK);have aj:=yv (zf ((kr9.set 0 (yx true)).cell 0 _ rfl) ((aa.trans (ae.mono aa.size)).setCell (p:=⟨w+1+1,0,none⟩) (by show w.heap.size≤w+1+1;omega) (yx true)));have az:=yv ak;clear ae kr kr9 hK aa ak t8 t7 t5 r1 J1 J2
  gi_wp2
  refine aO (v:=yx true) az.out (dT rfl underlying4 (by intro w;kernel_rfl) _ _ ⟨w+1+1,0,none⟩ true rfl ?_) ⟨rfl,bB aj.out.2 (by have:=af.out;omega)⟩;rw [gQ (by have:=af.out;show w+1+1≠D';omega)];exact aj.out.1
theorem replayAlls_walk (s:lz) (a:Option Addr) (l:List oo) (c:Nat) (m0:Int) (w:World) (hin:n9 w s) (hl:ym s) (he:StaE s) (hr:qk w (·<w) a l) (hf:∀ x∈l,x.fits) (hlc:l.length≤c) (hcm:c≤zk) (hnil:a=none→c=0) (hm:(Lit.int .u8 m0).wf=true) :
 Calls prog 5 #[s.v,yw a l.length c,yz .u8 m0] w fun e w'=>e=.returned (yx true)∧zd w w w':=by
 have hb:=bounds_u8 hm;cases hs:s.few
 ·exact pW s a l c _ m0 w hin hl hr rfl (zo hlc hcm) hs
 cases ho:wd l
 ·exact pS s a l c _ m0 w hin hl hr rfl (zo hlc hcm) hs ho
 exact tM s a l c _ m0 w hin hl hr rfl (RT he hs) hs hf ho hnil hb
end Go.Proofs.YtbagenpobcgjnaaGreat
