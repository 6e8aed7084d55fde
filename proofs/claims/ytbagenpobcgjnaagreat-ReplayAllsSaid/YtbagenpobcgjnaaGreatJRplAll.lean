/-
  Joined: RplAll, RplAll2, RplRef3, RplAll3.
-/
import Derived.Test.YtbagenpobcgjnaaGreatJEdrDev5
open And renaming intro->zy
open Array renaming replicate_succ->An,replicate_zero->Ao
open Go renaming Addr->zh,Boxed->zf,Calls->zw,TypeId->Af,Value->zi,World->zd,callsIn_wide->zz,results_none->Ax,undef->zr,wpAnyIn_done->Aw,wpAnyIn_ready->zp
open Go.Addr renaming add->zv
open Go.AllReadyIn renaming cons->zo,nil->zq
open Go.Ending renaming returned->zu
open Go.Lib renaming hid->yw
open Go.RowKit renaming Below->zg
open Go.RowKit.Below renaming refl->zn,setCell->Ak
open Go.Value renaming bool->yz,int->zk,pointer->ze,slice->yv,string->yy
open Go.World renaming cell?_alloc_new->Ad,putObj_size->Av,setCell->yx,size_alloc->Aj
open List renaming append_toArray->Aq,cons_append->Au,length_cons->Ag,length_nil->Ah,mem_cons->zj,mem_singleton->Ai,nil_append->Ar,push_toArray->Ap,size_toArray->Am
open Nat renaming le_refl->zs,le_trans->zx,lt_of_lt_of_le->zt
variable {w:Go.World}
namespace Go.Proofs.YtbagenpobcgjnaaGreat
open Go.Proofs.Tryz
set_option maxRecDepth 100000
open Lib (hid)
open Go.RowKit
set_option linter.unusedVariables false
set_option linter.unusedSimpArgs false
attribute [local go_sem] Oper.semAt_some
abbrev encA (x:lz):Array zi:=#[.agg #[yy x.t,yv x.m.a x.m.l.length x.m.c,yv x.u.a x.u.l.length x.u.c,yv x.r.a x.r.l.length x.r.c,yz x.o,yv x.g.a x.g.l.length x.g.c]]
def YA (d:mb) (xs:List (oo×Int)) (m:Nat) (x:lz) (m':Nat) (A:zd):Prop:=(m'=m+1∧∃ t,wz d xs m t∧x.d=t∧mx t)∧mq [] A x
theorem vn.below {b n N:Nat} {A B:zd} (h:vn b n A B) (hn:N≤n) (hb:N≤b) (hA:N≤A):zg N A B:=⟨h.os,h.tape,h.output,h.size,fun k hk=>h.block k lf lf lf⟩
def AlJ (l N be b:Nat) (J:Nat→zd→Prop) (s:Nat×Int) (A:zd):Prop:=J s.1 A∧zf A N 28 (.func (.yield l) #[] #[])∧zf A be 67 (ze (some ⟨b,0,none⟩))∧N<A
def AlX (N n:Nat) (J:Nat→zd→Prop) (Jx:zd→Prop) (c:Code) (A:zd):Prop:=c=.exit 0∧N<A∧(J n A∨Jx A)
set_option maxHeartbeats 1600000 in
theorem SO {b1 bf bo:Nat} {d:mb} (h:po [] b1 d w) {xs:List (oo×Int)} {gf:Nat} {lb:Array zi} {D:Nat→Prop} (ho:vc gf lb xs D w) (eg:∀ args w,(callFunc gf args).run prog w=.ok (.enter gf args) w)
 (h1:zf w bf 67 (ze (some ⟨b1,0,none⟩))) (h2:zf w bo 57 (.func (.func gf) #[] lb)) (hfit:∀ x∈xs,o8 x.1.a∧x.1.s.size≤1000000) (hlen:xs.length≤1000000) (hlo:∀ k,D k→k<w.heap.size)
 {S:List Nat} (hSz:∀ x∈S,x<w.heap.size) (hSlo:∀ x∈S,¬ D x) (hinv:mx d) (m l:Nat) :
 yh prog m l 31 #[ze (some ⟨bf,0,none⟩),ze (some ⟨bo,0,none⟩)] encA (YA d xs) (fun _=>True) (fun A B=>zg w A B) S 0 ((pk d xs).2.1+1) w:=by
 intro J Jx hJ hJx hY h0;have hmix:prog.follows .mixedOrders=true:=lg;obtain ⟨s1,rb1,p1,L1,hi,hd⟩:=h;obtain ⟨W1,an,kY,ae,bw⟩:=nu w #[.func (.yield l) #[] #[]] 28;have CS:=yw ((hi.later ae).state [] (fun i hi=>absurd hi lh));have k1:zf W1 bf _ _:=(ae.block bf h1.lt).trans h1;have k2:zf W1 bo _ _:=(ae.block bo h2.lt).trans h2;have q1:=k1.cell;have bm:=yw an;have ao:=yw ae;have HY:=yw hY;have HJ:=yw hJ;have aj:=yw hJx;have HO:=yw ho;have bg:=yw hfit;have aq:=yw hinv;have ab:=yw hSz;have bh:=yw hSlo;have HD:=yw hd;have Q:=yw (zy (show zf W1 w.heap.size _ _ from kY) k2);have H0:=yw (hJ 0 w W1 h0 ae);rw [← an] at q1;have hbo:=h2.lt;clear hi hd ae an kY k1 k2 hY hJ hJx h0 ho hfit hinv hSz hSlo h1 h2;refine callsIn_of_wp_marks func31 rfl trivial ?_ rfl;simp only [ntmps31,Am,Ag,Ah,Nat.reduceAdd,Nat.reduceSub,An,Ao,Ap,Aq,Ar,Au]
 gi_wp2_with fail
 refine wpIn_wide.2 (wp_scope_straight ((wpIn_wide (n:=m)).1 ?_));refine wpIn_seq_k ?_;intro K1 az;have a0:=yw az;clear az
 gi_wp2_with fail
 rw [bm.out];refine ⟨trivial,fun e=>(by cases e),(zz.2 CS.out).mono ?_⟩;rintro e w2 ⟨s5,rfl,a2,a3,ar⟩;have af:s5.d=d:=a2.trans HD.out;have hiv:mx s5.d:=by rw [af];exact aq.out
 have hzw:=ar.size;have CL:=yw (iQ (T:=S) s5 w2 (fun i hi=>by have:=ab.out i hi;omega) a3.in hiv.z25 ((gK s5).2 hiv));have a4:=yw ar;have bn:=yw af;clear a2 a3 ar af hiv CS q1
 gi_wp2_with fail
 refine ⟨trivial,fun e=>(by cases e),(zz.2 CL.out).mono ?_⟩;rintro e w3 ⟨b,s6,rb,p,L,rfl,au,af,hbl,ak⟩
 gi_wp2_with fail
 refine a0.out _ _ (wpIn_seq_k ?_);intro K2 a5;refine wpIn_label (a5 _ _ ?_);clear a5 a0;obtain ⟨W3,a6,kE,av,bp⟩:=nu w3 #[ze (some ⟨b,0,none⟩)] 67;rw [a6];have bv:=ak.size;have ad:zg W1 W1 W3:=a4.out.trans ((ak.trans (av.mono ak.size)).mono hzw);have q3:zf W3 w _ _:=(ad.block w lf).trans Q.out.1;have q4:zf W3 bo _ _:=(ad.block bo lf).trans Q.out.2;have hed:po S b d W3:=⟨s6,rb,p,L,au.later av,af.trans bn.out⟩;have hbw:zg w w W3:=ao.out.trans (ad.mono ao.out.size);have J0:=yw (HJ.out 0 W1 W3 H0.out (ad.mono ao.out.size));have kc:=(show zf W3 w3.heap.size _ _ from kE).cell;have kd:=q4.cell;have a7:=yw hed;have aw:=yw hbw;have Q3:=yw (zy q3 (show zf W3 w3.heap.size _ _ from kE));have hblt:=au.lt;clear a6 kE av ad q3 q4 hed hbw au af ak CL a4
 gi_wp2_with fail
 refine ⟨trivial,fun e=>(by cases e),(zz.2 (pT b gf lb W3)).mono ?_⟩;rintro e w4 ⟨rfl,rfl⟩;obtain ⟨W4,a8,kP,kQ,ag,bx⟩:=vk W3 #[ze (some ⟨b,0,none⟩)] #[.func (.func gf) #[] lb] 67 57;rw [a8];have q3:zf W4 w _ _:=(ag.block w lf).trans Q3.out.1;have q4:zf W4 w3 _ _:=(ag.block w3 lf).trans Q3.out.2;have ax:=a7.out.later ag;have ay:=aw.out.trans (ag.mono aw.out.size);rw [bp] at kP kQ;have K4:=yw (zy (show zf W4 (w3+1) _ _ from kP) (show zf W4 (w3+1+1) _ _ from kQ));have J4:=yw (show AlJ l w.heap.size w3.heap.size b J (0,0) W4 from ⟨HJ.out 0 W3 W4 J0.out (ag.mono lf),q3,q4,lf⟩);have bi:=yw ax;have bj:=yw ay;have hinv:=aq.out;clear a8 kP kQ ag q3 q4 ax ay kc kd J0 a7 aw Q3
 gi_wp2_with fail
 have bz:∀ {x n1 n2:Nat} {X:List Nat},x∈n1::X→x=n1∨x∈X:=fun h=>zj.1 h;refine dU (gf:=60) (lb:=#[ze (some ⟨w3+1+1,0,none⟩),ze (some ⟨w3+1,0,none⟩)]) (encs:=xq) (Y:=YS ((W4.heap.size+1)::S) b d xs) (E:=po ((W4.heap.size+1)::S) b (pk d xs).1) (R:=vn b (W4+2)) (S:=S) (s0:=((0:Nat),(0:Int))) (s1:=((pk d xs).2.1+1,(pk d xs).2.2)) rfl (enters_of func60 lg rfl) (fun x hx=>by have:=ab.out x hx;omega)
  (fun W1' hb hz=>by
   have h1:=ON (xs:=xs) (T:=(W4.heap.size+1)::S) (S:=(W4.heap.size+1)::S) (b:=b) (bo:=w3.heap.size+1+1) (be:=w3.heap.size+1) (bi.out.grow hb (fun x hx=>(zj.1 hx).elim (fun e=>.inr lf) .inl) (fun x hx=>(zj.1 hx).elim (fun e=>lf) (fun g=>by have:=ab.out x g;omega))) (HO.out.later (.of_below (bj.out.trans (hb.mono lf)))) eg ((hb.block _ lf).trans K4.out.2) ((hb.block _ lf).trans K4.out.1) lf bg.out hlen (fun h=>by have:=hlo _ h;omega) (fun k h=>by have:=hlo _ h;omega) (fun _ h=>h) (fun x hx=>(zj.1 hx).elim (fun e=>lf) (fun g=>by have:=ab.out x g;omega)) (fun g=>(zj.1 g).elim (fun e=>lf) (fun g=>by have:=ab.out _ g;omega)) (fun g=>(zj.1 g).elim (fun e=>lf) (fun g=>by have:=ab.out _ g;omega)) (fun g=>(zj.1 g).elim (fun e=>lf) (fun g=>by have:=ab.out _ g;omega)) (fun x hx=>(zj.1 hx).elim (fun e h=>by have:=hlo _ h;omega) (fun g=>bh.out x g)) hinv (m - 1) (W4+1);rw [hz] at h1;exact h1)
  (fun A B h hz=>⟨h.size,fun k h1 h2=>h.block k lf lf lf⟩) (fun _=>rfl)
  (AlJ l w w3 b J) (AlX w ((pk d xs).2.1+1) J Jx)
  (fun s A B ⟨h1,h2,h3,h4⟩ _ k=>⟨HJ.out _ _ _ h1 (k.below lf lf lf),(k.block _ lf lf h2.lt).trans h2,(k.block _ lf lf h3.lt).trans h3,zt h4 k.size⟩)
  (fun c A B ⟨h1,h3,h2⟩ hA k=>⟨h1,zt h3 k.size,h2.elim (fun h=>.inl (HJ.out _ _ _ h (k.below lf lf lf))) (fun h=>.inr (aj.out _ _ h (k.below lf lf lf)))⟩)
  (fun s=>⟨fun A B ⟨h1,h2,h3,h4⟩ hb=>⟨HJ.out _ _ _ h1 (hb.mono lf),(hb.block _ h2.lt).trans h2,(hb.block _ h3.lt).trans h3,zt h4 hb.size⟩,fun A r r' ⟨h1,h2,h3,h4⟩ hl=>⟨HJ.out _ _ _ h1 (bB (zn _ _) lf),dX hl _ h2,dX hl _ h3,by rw [Av];exact h4⟩⟩)
  (fun c=>⟨fun A B ⟨h1,h2,h3⟩ hb=>⟨h1,zt h2 hb.size,h3.elim (fun g=>.inl (HJ.out _ _ _ g (hb.mono lf))) (fun g=>.inr (aj.out _ _ g (hb.mono lf)))⟩,fun A r r' ⟨h1,h2,h3⟩ hl=>⟨h1,by rw [Av];exact h2,h3.elim (fun g=>.inl (HJ.out _ _ _ g (bB (zn _ _) lf))) (fun g=>.inr (aj.out _ _ g (bB (zn _ _) lf)))⟩⟩) (fun s x s'=>YS.firm _ _ _ _ _ _ _ _) (po.firm _ _ _ _) J4.out
  (fun x a A=>a={ tmps:=#[.func (.yield l) #[] #[],ze (some ⟨bf,0,none⟩),ze (some ⟨bo,0,none⟩),ze (some ⟨w,0,none⟩),ze (some ⟨w3,0,none⟩),zk .i64 0,zr,zk .i64 x.2,.tuple #[ze (some ⟨b,0,none⟩),zk .i64 0],ze (some ⟨b1,0,none⟩),s5.v,.tuple #[ze (some ⟨b,0,none⟩),zk .i64 0],ze (some ⟨b,0,none⟩),zk .i64 0,ze (some ⟨b,0,none⟩),.func (.func gf) #[] lb,.func (.func 60) #[] #[ze (some ⟨w3+1+1,0,none⟩),ze (some ⟨w3+1,0,none⟩)],zk .i64 x.1,zk .i64 x.2,zr,zr,zr,zr,zr,zr,zr,zr],defers:=[] }) (fun x a=>Firm.const _ _) ?assign ?body ?done ?stop
 case assign =>
  intro l' x W K hK
  gi_wp2
  exact hK _ _ (zn _ _) rfl
 case body =>
  rintro l' ⟨mm,e⟩ ⟨n,f⟩ ⟨m',e'⟩ A a1 hzA ⟨⟨he,he'⟩,hy,t,hat,hed⟩ ⟨j1,j2,j3,j4⟩ rfl;simp only at he he' hy hat j1;by_cases hf:f=0
  ·subst hf;obtain ⟨rfl,rfl,-⟩:n=mm∧m'=mm+1∧True:=by
    rcases hy with h|h
    ·exact ⟨h.2.1,h.2.2.1,trivial⟩
    ·exact absurd rfl h.1
   subst he he';obtain ⟨s7,rb7,p7,L7,a9,ba⟩:=hed;obtain ⟨A1,bq,hbA⟩:∃ X,A.drew=X∧zg A A X:=⟨_,rfl,(zn _ _).drew⟩;have CS:=yw ((a9.later hbA).state [] (fun i hi=>absurd hi lh));have ah:zf A1 w _ _:=(hbA.block _ j2.lt).trans j2;have al:zf A1 w3 _ _:=(hbA.block _ j3.lt).trans j3;have bk:=hbA.size;have k3:=ah.cell;have k4:=al.cell;have K3:=yw (fun B (hB:zg A1 A1 B)=>(show zf B w.heap.size _ _ from (hB.block _ ah.lt).trans ah).cell);have br:=yw (fun B (hB:zg A1 A1 B)=>zy (show zf B w.heap.size _ _ from (hB.block _ ah.lt).trans ah) (show zf B w3.heap.size _ _ from (hB.block _ al.lt).trans al));have J1:=yw (HJ.out _ _ _ j1 (hbA.mono lf));have bb:=yw (hat rfl);have bs:=yw ba;have bl:=yw hbA;clear hat a9 ba j1 j2 j3 hy hbA ah al
   gi_wp2_with fail
   refine wpIn_region_any hmix ?_;change wpAnyIn _ _ _ _ _ _ _ _ _ (World.drew A);rw [bq];refine zp (rs:=[0,1]) lg lh ?_;refine zo rfl (fun K hK=>?ga) (zo rfl (fun K hK=>?ha) zq)
   case' ha =>
    go_simp;skip;refine hK _ _ ?_;clear hK K;refine zp (rs:=[0,2]) lg lh ?_;refine zo rfl (fun K hK=>?gb) (zo rfl (fun K hK=>?hb) zq)
    case' hb =>
     go_simp;refine ⟨trivial,fun e=>(by cases e),(zz.2 CS.out).mono ?_⟩;rintro e B ⟨⟨t8,⟨ma8,ml8,mc8⟩,⟨ua8,ul8,uc8⟩,⟨ra8,rl8,rc8⟩,so8,⟨ga8,gl8,gc8⟩⟩,rfl,am,ai,aa⟩;have kb3:=K3.out B aa;refine hK _ _ ?_;clear hK K;refine zp (rs:=[0]) lg lh ?_;refine zo rfl (fun K hK=>?_) zq;go_simp;skip;refine hK _ _ ?_;clear hK K
    case' gb =>
     go_simp;skip;refine hK _ _ ?_;clear hK K;refine zp (rs:=[2]) lg lh ?_;refine zo rfl (fun K hK=>?_) zq;go_simp;refine ⟨trivial,fun e=>(by cases e),(zz.2 CS.out).mono ?_⟩;rintro e B ⟨⟨t8,⟨ma8,ml8,mc8⟩,⟨ua8,ul8,uc8⟩,⟨ra8,rl8,rc8⟩,so8,⟨ga8,gl8,gc8⟩⟩,rfl,am,ai,aa⟩;have kb3:=K3.out B aa;refine hK _ _ ?_;clear hK K
   case' ga =>
    go_simp;skip;refine hK _ _ ?_;clear hK K;refine zp (rs:=[1]) lg lh ?_;refine zo rfl (fun K hK=>?_) zq;go_simp;skip;refine hK _ _ ?_;clear hK K;refine zp (rs:=[2]) lg lh ?_;refine zo rfl (fun K hK=>?_) zq;go_simp;refine ⟨trivial,fun e=>(by cases e),(zz.2 CS.out).mono ?_⟩;rintro e B ⟨⟨t8,⟨ma8,ml8,mc8⟩,⟨ua8,ul8,uc8⟩,⟨ra8,rl8,rc8⟩,so8,⟨ga8,gl8,gc8⟩⟩,rfl,am,ai,aa⟩;have kb3:=K3.out B aa;refine hK _ _ ?_;clear hK K
   all_goals
    have b3:=yw ai;have hy:=HY.out n ⟨t8,⟨ma8,ml8,mc8⟩,⟨ua8,ul8,uc8⟩,⟨ra8,rl8,rc8⟩,so8,⟨ga8,gl8,gc8⟩⟩ (n+1) B ⟨⟨rfl,t,bb.out,am.trans bs.out,bb.out.inv hinv⟩,ai⟩ (HJ.out _ _ _ J1.out (aa.mono lf));obtain ⟨fn,tmps,assign,body,hyr,hR⟩:=dL hy;dsimp only [encA] at hyr;have HR:=yw hR;have hzB:=aa.size;have P8:=yw (zy (br.out B aa) (bl.out.trans (aa.mono bk)));clear hy hR ai aa am;refine zp (rs:=[3]) lg lh ?_;refine zo rfl (fun K hK=>?_) zq;go_simp;refine ⟨fun e=>(by cases e),(HR.out (some l') _).mono ?_⟩;rintro e D (⟨rfl,bc,ac⟩|⟨rfl,bd,ac⟩)
    ·have hCD:∀ {i:Nat} {t:Af} {v:zi},zf B i t v→i ∉ S→zf D i t v:=fun h hi=>(ac.apart.block _ h.lt hi).trans h;have HF:=yw (show oi S A D∧AlJ l w w3 b J (n+1,0) D from ⟨oi.join (.of_below P8.out.2) ac,bc,hCD P8.out.1.1 (fun g=>by have:=ab.out _ g;omega),hCD P8.out.1.2 (fun g=>by have:=ab.out _ g;omega),by have:=ac.apart.size;omega⟩);clear bc ac hCD HR;refine hK _ _ ?_;clear hK K;refine zp (rs:=[4]) lg lh ?_;refine zo rfl (fun K hK=>?_) zq;go_simp;skip;refine hK _ _ ?_;clear hK K;refine zp (rs:=[5]) lg lh ?_;refine zo rfl (fun K hK=>?_) zq;go_simp;skip;refine hK _ _ ?_;clear hK K;refine Aw lg ?_ _
     gi_wp2
     exact HF.out
    ·have HF:=yw (show oi S A D∧w.heap.size<D∧Jx D from ⟨oi.join (.of_below P8.out.2) ac,by have:=ac.apart.size;omega,bd⟩);clear bd ac HR;refine hK _ _ ?_;clear hK K;refine zp (rs:=[4]) lg lh ?_;refine zo rfl (fun K hK=>?_) zq;go_simp;skip;refine hK _ _ ?_;clear hK K;refine zp (rs:=[5]) lg lh ?_;refine zo rfl (fun K hK=>?_) zq;go_simp;skip;refine hK _ _ ?_;clear hK K;refine Aw lg ?_ _
     gi_wp2
     exact ⟨HF.out.1,rfl,HF.out.2.1,.inr HF.out.2.2⟩
  ·have g1:(f != 0)=true:=by simp [hf]
   obtain ⟨rfl,bu⟩:m'=mm∧mm=(pk d xs).2.1+1:=by
    rcases hy with h|h
    ·exact absurd h.1 hf
    ·exact ⟨h.2.2.1,by rw [h.2.1,h.2.2.2]⟩
   rw [bu] at j1;have J1:=yw j1;clear j1 j2 j3 hy hat hed
   gi_wp2
   exact ⟨oi.refl _ _,rfl,lf,.inl J1.out⟩
 case done =>
  rintro D' W hD hz ⟨j1,j2,j3,j4⟩ - hK;have J1:=yw j1;clear j1 j2 j3
  gi_wp2
  exact aO hK (Ax rfl _ _ _) ⟨⟨_,rfl⟩,.inl ⟨HJ.out _ _ _ J1.out (bB (zn _ _) lf),trivial⟩⟩
 case stop =>
  rintro D' c W hD hz ⟨rfl,-,hs⟩ hK;have HS:=yw hs;clear hs
  gi_wp2
  refine aO hK (Ax rfl _ _ _) ⟨⟨_,rfl⟩,?_⟩;rcases HS.out with hj|hx
  ·exact .inl ⟨HJ.out _ _ _ hj (bB (zn _ _) lf),trivial⟩
  ·exact .inr (aj.out _ _ hx (bB (zn _ _) lf))
theorem EM (a:Option zh) (l:List oo) (c n:Nat) (w:zd) (hr:qk w (·<w) a l) (hn:l.length=n) (hnil:a=none→c=0) (hl:n≤1000000) :
 zw prog 30 #[yv a n c] w fun e w'=>∃ a2 c2,e=zu (yv a2 n c2)∧qk w' (fun b=>w≤b∧b<w') a2 l∧zg w w w':=by
 subst hn;cases a with
 | none =>
  obtain rfl:l=[]:=by
   cases l with
   | nil=>rfl
   | cons x t=>obtain ⟨ad,e,-⟩:=hr 0 lh;cases e
  rw [hnil rfl];exact (DY w).mono fun e w' h=>⟨none,0,h.1,fun k hk=>absurd hk lh,by rw [← h.2];exact zn _ _⟩
 | some ad =>
  refine (yA ad l c w hr hl).mono ?_;rintro e w' ⟨v,rfl,hown,-,hb⟩;obtain ⟨a2,c2,rfl,hq⟩:=LF hown;exact ⟨a2,c2,rfl,hq,hb⟩
def RetAll (d:mb) (xs:List (oo×Int)) (w:zd) (e:Ending) (w':zd):Prop:=∃ (bf bo b1:Nat) (lb:Array zi) (D:Nat→Prop),e=zu (.func (.func 31) #[] #[ze (some ⟨bf,0,none⟩),ze (some ⟨bo,0,none⟩)])∧po [] b1 d w' ∧
 vc 36 lb xs D w'∧(∀ k,D k→w.heap.size≤k∧k<w'.heap.size)∧zf w' bf 67 (ze (some ⟨b1,0,none⟩))∧zf w' bo 57 (.func (.func 36) #[] lb)∧zg w w w'
set_option maxHeartbeats 1600000 in
theorem MG (s:lz) (v:zi) (w:zd) (hin:n9 w s) (hz:sd s) (hri:o0 s=false):zw prog 16 #[s.v,v] w fun e w'=>e=zu (.func (.func 29) #[] #[])∧zg w w w':=by
 obtain ⟨wX,hwX,kA,aa,af⟩:=nu w s.cs 26;have CL:=yw (pZ s wX (hin.later aa) hz hri);have ae:=yw hwX;have ab:=yw aa;clear hwX aa kA hin hz hri;unfold lz.v lz.cs at *;go_enter func16,ntmps16;go_wp2_with fail;rw [ae.out];refine CL.out.mono ?_;rintro e w2 ⟨rfl,ac⟩;have ad:=yw (ab.out.trans (ac.mono ab.out.size));clear ac CL;go_wp2;go_ret;exact ⟨rfl,ad.out.alloc ad.out.size _⟩
set_option maxHeartbeats 1600000 in
theorem FX (s:lz) (l:List oo) (a:Option zh) (c n:Nat) (w:zd) (hin:n9 w s) (hz:sd s) (hri:o0 s=true) (hr:qk w (·<w) a l) (hn:l.length=n) (hnil:a=none→c=0) (hnz:n≤1000000) :
 zw prog 16 #[s.v,yv a n c] w (RetAll s.d (qy l) w):=by
 have hmf:∀ (fn:Fn) (first cap:Array zi) (w:zd),(Instr.makeFunc fn first cap).run prog w=.ok (.func fn first cap) w:=fun _ _ _ _=>rfl;obtain ⟨wX,hwX,kA,ac,ar⟩:=nu w s.cs 26;have CL:=yw (iQ (T:=[]) s wX (fun i hi=>absurd hi lh) (hin.later ac) hz hri);have al:=yw hwX;have ag:=yw ac;have HN:=yw hn;have CC:=yw (fun V (hV:zg w w V)=>EM a l c n V ((hr.below (fun _ h=>h) hV).more fun b h=>zt h hV.size) hn hnil hnz);clear hwX ac kA hin hz hri hr hn hnil;unfold lz.v lz.cs at *;go_enter func16,ntmps16;go_wp2_with fail;rw [al.out];refine CL.out.mono ?_;rintro e w2 ⟨b,s1,rb,p,L,rfl,hi,hd,hbl,ad⟩;obtain ⟨W2,ah,kF,ae,am⟩:=nu w2 #[ze (some ⟨b,0,none⟩)] 67;have aa:=yw (ag.out.trans ((ad.trans (ae.mono ad.size)).mono ag.out.size));have an:=yw (show po [] b s.d W2 from ⟨s1,rb,p,L,hi.later ae,hd⟩);have KF:=yw (show zf W2 w2.heap.size _ _ from kF);have ao:=yw ah;clear hi hd hbl ad ae ah kF CL am;go_wp2_with fail;rw [ao.out];refine (CC.out _ aa.out).mono ?_;rintro e w3 ⟨a2,c2,rfl,hq,ai⟩;have af:=yw ai;have HQ:=yw hq;clear hq ai CC;go_wp2_with fail;refine (sL l a2 c2 n w3).mono ?_;rintro e w4 ⟨rfl,rfl⟩;obtain ⟨W4,aj,kL,kO,ab,au⟩:=vk w3 #[yv a2 n c2] #[.func (.func 36) #[] #[ze (some ⟨w3,0,none⟩)]] 27 57;have hx:=af.out.trans (ab.mono af.out.size);have ak:=(HQ.out.below (fun _ h=>h.2) ab).more (B':=fun k=>w≤k∧k<W4) fun b h=>⟨zx aa.out.size h.1,zt h.2 ab.size⟩;have HF:=yw (show RetAll s.d (qy l) w (zu (.func (.func 31) #[] #[ze (some ⟨w2,0,none⟩),ze (some ⟨w3+1,0,none⟩)])) W4 from
  ⟨w2,w3.heap.size+1,b,#[ze (some ⟨w3,0,none⟩)],(fun k=>w≤k∧k<W4),rfl,an.out.later hx,xB l a2 c2 n ak HN.out (show zf W4 w3.heap.size _ _ from kL) ⟨zx aa.out.size af.out.size,lf⟩ (fun k h=>h.2) hnz,(fun k h=>h),(hx.block _ KF.out.lt).trans KF.out,kO,aa.out.trans (hx.mono aa.out.size)⟩)
 have aq:=yw aj;clear aj kL kO ab hx ak;go_wp2;rw [aq.out];go_ret;exact HF.out
def lz.flat (l:List lz):List zi:=l.flatMap fun x=>[yy x.t,yv x.m.a x.m.l.length x.m.c,yv x.u.a x.u.l.length x.u.c,yv x.r.a x.r.l.length x.r.c,yz x.o,yv x.g.a x.g.l.length x.g.c]
theorem lz.flat_app (a b:List lz):lz.flat (a++b)=lz.flat a++lz.flat b:=by simp [lz.flat]
theorem lz.flat_get (l:List lz) (k:Nat) (h:k<l.length):∀ (j:Nat),j<6→(lz.flat l)[k * 6+j]? = ([yy (l[k]'h).t,yv (l[k]'h).m.a (l[k]'h).m.l.length (l[k]'h).m.c,yv (l[k]'h).u.a (l[k]'h).u.l.length (l[k]'h).u.c,yv (l[k]'h).r.a (l[k]'h).r.l.length (l[k]'h).r.c,yz (l[k]'h).o,yv (l[k]'h).g.a (l[k]'h).g.l.length (l[k]'h).g.c]:List zi)[j]? :=by
 induction l generalizing k with
 | nil=>simp at h
 | cons a r ih =>
  have e:lz.flat (a::r)=[yy a.t,yv a.m.a a.m.l.length a.m.c,yv a.u.a a.u.l.length a.u.c,yv a.r.a a.r.l.length a.r.c,yz a.o,yv a.g.a a.g.l.length a.g.c]++lz.flat r:=by simp [lz.flat]
  rw [e]
  match k,h with
  | 0,_=>intro j hj;rw [List.getElem?_append_left lq];simp
  | k+1,h =>
   intro j hj;have hr:=ih k (by simpa using h) j hj;rw [List.getElem?_append_right lq];simp only [Ag,Ah,Nat.zero_add,Nat.reduceAdd];rw [show (k+1) * 6+j - 6=k * 6+j by omega,hr];simp
theorem NC:(prog.info? 26).map (fun i=>(i.zero,i.size,i.bytes))=some (some (.agg #[yy ByteArray.empty,yv none 0 0,yv none 0 0,yv none 0 0,yz false,yv none 0 0]),6,120):=lg
theorem KO (w:zd) (x:lz) (t:Af):∀ j u,([yy x.t,yv x.m.a x.m.l.length x.m.c,yv x.u.a x.u.l.length x.u.c,yv x.r.a x.r.l.length x.r.c,yz x.o,yv x.g.a x.g.l.length x.g.c]:List zi)[j]? = some u→(w.alloc (.cells #[yy x.t,yv x.m.a x.m.l.length x.m.c,yv x.u.a x.u.l.length x.u.c,yv x.r.a x.r.l.length x.r.c,yz x.o,yv x.g.a x.g.l.length x.g.c] t)) ((⟨w,0,none⟩:zh).add j)=some u:=by
 intro j u hj
 match j,hj with
 | 0,hj=>simp at hj;subst hj;simp [zv]
 | 1,hj=>simp at hj;subst hj;simp [zv,Ad]
 | 2,hj=>simp at hj;subst hj;simp [zv,Ad]
 | 3,hj=>simp at hj;subst hj;simp [zv,Ad]
 | 4,hj=>simp at hj;subst hj;simp [zv,Ad]
 | 5,hj=>simp at hj;subst hj;simp [zv,Ad]
theorem OT (x:lz):∀ u∈([yy x.t,yv x.m.a x.m.l.length x.m.c,yv x.u.a x.u.l.length x.u.c,yv x.r.a x.r.l.length x.r.c,yz x.o,yv x.g.a x.g.l.length x.g.c]:List zi),u.oneCell'=true:=by
 intro u hu;simp only [zj,List.not_mem_nil,or_false] at hu;rcases hu with rfl|rfl|rfl|rfl|rfl|rfl <;> rfl
def Stas (w:zd) (a:Option zh) (L:List lz):Prop:=∀ (k:Nat) (h:k<L.length),∃ ad,a=some ad∧ad.block<w∧w (ad.add (k * 6))=some (yy (L[k]'h).t)∧w ⟨(ad.add (k * 6)).block,(ad.add (k * 6)).off+1,none⟩=some (yv (L[k]'h).m.a (L[k]'h).m.l.length (L[k]'h).m.c)∧w ⟨(ad.add (k * 6)).block,(ad.add (k * 6)).off+2,none⟩=some (yv (L[k]'h).u.a (L[k]'h).u.l.length (L[k]'h).u.c)∧w ⟨(ad.add (k * 6)).block,(ad.add (k * 6)).off+3,none⟩=some (yv (L[k]'h).r.a (L[k]'h).r.l.length (L[k]'h).r.c)∧w ⟨(ad.add (k * 6)).block,(ad.add (k * 6)).off+4,none⟩=some (yz (L[k]'h).o)∧w ⟨(ad.add (k * 6)).block,(ad.add (k * 6)).off+5,none⟩=some (yv (L[k]'h).g.a (L[k]'h).g.l.length (L[k]'h).g.c)
theorem Stas.later {w':zd} {a:Option zh} {L:List lz} (h:Stas w a L) (hb:zg w w w'):Stas w' a L:=fun k hk=>by
 obtain ⟨ad,e,hl,q0,q1,q2,q3,q4,q5⟩:=h k hk;have hc:∀ {p:zh} {v:zi},p.block=ad.block→w p=some v→w' p=some v:=fun hp q=>(hb.cell (by rw [hp];exact hl)).trans q;exact ⟨ad,e,zt hl hb.size,hc (aI ad _) q0,hc (aI ad _) q1,hc (aI ad _) q2,hc (aI ad _) q3,hc (aI ad _) q4,hc (aI ad _) q5⟩
theorem uU {base:Nat} {t:Af} {v:zi} {L:List lz} (h:w.ownsRow base t 6 v L.length (lz.flat L)):∃ a c,v=yv a L.length c∧Stas w a L:=by
 rcases h.2 with ⟨rfl,h0⟩|⟨g,cap,cur,rfl,hgb,hg,_⟩
 ·exact ⟨none,0,by rw [h0],fun k hk=>absurd hk lf⟩
 ·have hc:∀ k (hk:k<L.length) j,j<6→w ⟨((⟨g,0,none⟩:zh).add (k * 6)).block,((⟨g,0,none⟩:zh).add (k * 6)).off+j,none⟩=([yy L[k].t,yv L[k].m.a L[k].m.l.length L[k].m.c,yv L[k].u.a L[k].u.l.length L[k].u.c,yv L[k].r.a L[k].r.l.length L[k].r.c,yz L[k].o,yv L[k].g.a L[k].g.l.length L[k].g.c]:List zi)[j]? :=fun k hk j hj=>by
   have h1:=h.cellAt (k * 6+j) lf;rw [lz.flat_get L k hk j hj] at h1;have e:(⟨((⟨g,0,none⟩:zh).add (k * 6)).block,((⟨g,0,none⟩:zh).add (k * 6)).off+j,none⟩:zh)=⟨g,k * 6+j,none⟩:=by
    unfold zv;by_cases hk0:k * 6=0 <;> simp [hk0]
   rw [e];exact h1
  refine ⟨_,_,rfl,fun k hk=>⟨_,rfl,(h.lt g rfl).2,?_,hc k hk 1 li,hc k hk 2 li,hc k hk 3 li,hc k hk 4 li,hc k hk 5 li⟩⟩;have h0:=hc k hk 0 li;have e:(⟨((⟨g,0,none⟩:zh).add (k * 6)).block,((⟨g,0,none⟩:zh).add (k * 6)).off+0,none⟩:zh)=(⟨g,0,none⟩:zh).add (k * 6):=by
   unfold zv;by_cases hk0:k * 6=0 <;> simp [hk0]
  rw [e] at h0;exact h0
theorem FC {base:Nat} {e:Af} {size n:Nat} {v:zi} {xs:List zi} (h:w.ownsRow base e size v n xs) {p:zh} (hp:p.block<base) (u:zi):(w.setCell p u).ownsRow base e size v n xs:=by
 refine ⟨h.1,?_⟩;rcases h.2 with h2|⟨g,cap,cur,hv,aa,hg,hr⟩
 ·exact .inl h2
 ·exact .inr ⟨g,cap,cur,hv,aa,(Below.heap_setCell _ _ _ g lf).trans hg,hr⟩
def vg (w:zd) (ds:List mb) (e:Ending) (w':zd):Prop:=∃ (a:Option zh) (L:List lz) (c:Nat),e=zu (yv a L.length c)∧Stas w' a L∧(∀ y∈L,n9 w' y)∧L.map lz.d=ds∧zg w w w'
theorem MW {t:mb} {x:oo×Int} {r:List (oo×Int)} (h:(qw t x).2=0):rr t (x::r)=t::rr (qw t x).1 r:=by simp only [rr,if_pos h]
theorem NZ {t:mb} {x:oo×Int} {r:List (oo×Int)} (h:(qw t x).2≠0):rr t (x::r)=[t]:=by simp only [rr,if_neg h]
set_option maxHeartbeats 3200000 in
theorem JI (s:lz) (v:zi) (w:zd) (hin:n9 w s) (hz:sd s) (hri:o0 s=false):zw prog 15 #[s.v,v] w (vg w []):=by
 obtain ⟨W,hW,kA,aa,ad⟩:=nu w s.cs 26;have cr:=lN s W (hin.later aa) hz;rw [hri] at cr;have CR:=yw cr;have HW:=yw hW;have ab:=yw aa;clear cr hW aa kA hin hz hri;unfold lz.v lz.cs at *;go_enter func15,ntmps15;go_wp2_with fail;rw [HW.out];refine CR.out.mono ?_;rintro e w2 ⟨rfl,ac⟩;have HX:=yw (ab.out.trans (ac.mono ab.out.size));clear ac;go_wp2;go_ret;exact ⟨none,[],0,rfl,fun k hk=>absurd hk lh,fun y hy=>absurd hy lh,rfl,HX.out⟩
set_option maxHeartbeats 3200000 in
theorem EN (s:lz) (l:List oo) (a:Option zh) (c n:Nat) (S:List Nat) (w:zd) (hS:qf S w) (hin:mq S w s) (hz:sd s) (hri:o0 s=true) (hr:qk w (·<w) a l) (hn:l.length=n) (hnz:n≤1000000) (hf:∀ x∈l,o8 x.a∧x.s.size≤1000000) :
 zw prog 15 #[s.v,yv a n c] w (vg w (rr s.d (qy l))):=by
 have hmix:prog.follows .mixedOrders=true:=lg;obtain ⟨i0,b5,b6,b7,b8⟩:=info_parts NC;obtain ⟨W,hW,kA,av,bg⟩:=nu w s.cs 26;have cr:=lN s W (hin.in.later av) hz;rw [hri] at cr;obtain ⟨xs,hxs⟩:∃ xs,qy l=xs:=⟨_,rfl⟩;have hlen:xs.length=n:=by rw [← hxs,gU];exact hn
 have hget:∀ (k:Nat) (hk:k<l.length) (bh:k<xs.length),xs[k]=(l[k],0):=fun k hk bh=>by subst hxs;exact vL l k bh
 rw [hxs];have CR:=yw cr;have HW:=yw hW;have ay:=yw av;have KA:=yw (show l6 W w.heap.size #[yy s.t,yv s.m.a s.m.l.length s.m.c,yv s.u.a s.u.l.length s.u.c,yv s.r.a s.r.l.length s.r.c,yz s.o,yv s.g.a s.g.l.length s.g.c] 26 from kA);have HR:=yw hr;have HN:=yw hn;have HF:=yw hf;have az:=yw hlen;have a0:=yw hget;have b3:=yw ((gK s).1 hri);have bi:=yw ((hin.wide (S':=w.heap.size::S) (fun i hi=>by simp only [zj] at hi;rcases hi with rfl|hi;exact .inr (zs _);exact .inl hi)).later av);have b9:=yw (show qf (w::S) W from fun i hi=>by simp only [zj] at hi;rcases hi with rfl|hi;omega;have:=hS i hi;omega);have hbase:W.heap.size=w+1:=bg;have HBASE:=yw hbase;clear cr hW av kA hin hz hri hr hn hf hlen hget hS hxs bg hbase;unfold lz.v lz.cs at *;go_enter func15,ntmps15;go_wp2_with fail;rw [HW.out];refine CR.out.mono ?_;rintro e w2 ⟨rfl,al⟩;have ka2:=KA.out.onto al;obtain ⟨x0,x1,x2,x3,x4,x5,f0,f1,f2,f3,f4,f5⟩:=ka2.all6;have bj:=bi.out.later al;have hzw:=al.size;have af:=ay.out.trans (al.mono ay.out.size);have ab:=ni w2 (.cells #[yy s.t,yv s.m.a s.m.l.length s.m.c,yv s.u.a s.u.l.length s.u.c,yv s.r.a s.r.l.length s.r.c,yz s.o,yv s.g.a s.g.l.length s.g.c] 26);have HL:=yw (World.ownsRow_lit (base:=W.heap.size) (e:=26) (size:=6) w2 #[yy s.t,yv s.m.a s.m.l.length s.m.c,yv s.u.a s.u.l.length s.u.c,yv s.r.a s.r.l.length s.r.c,yz s.o,yv s.g.a s.g.l.length s.g.c] 1 hzw ln rfl);have ca:=yw (ka2.onto ab);have bk:=yw ((bj.wide (S':=w2.heap.size::w::S) (fun i hi=>(zj.1 hi).elim (fun e=>.inr lf) .inl)).later ab);have cb:=yw (af.trans (ab.mono af.size));have cc:=yw (zx hzw ab.size);clear al CR KA bi ay ka2 bj af ab hzw;go_wp2
 go_loopw [5,6] (fun o i wr=>∃ (k:Nat) (x:lz) (L:List lz) (g cap:Nat),k≤n∧i=zk .i64 k∧o=yv (some ⟨g,0,none⟩) L.length cap∧l6 wr w #[yy x.t,yv x.m.a x.m.l.length x.m.c,yv x.u.a x.u.l.length x.u.c,yv x.r.a x.r.l.length x.r.c,yz x.o,yv x.g.a x.g.l.length x.g.c] 26∧wr.ownsRow W 26 6 (yv (some ⟨g,0,none⟩) L.length cap) L.length (lz.flat L)∧L.length=k+1∧mq (g::w::S) wr x∧(∀ y∈L,mq (g::w::S) wr y)∧(∃ pre,L.map lz.d=pre++[x.d]∧rr s.d xs=pre++rr x.d (xs.drop k))∧mx x.d∧zg w w wr∧W.heap.size≤wr) (fun _ i _=>n - (intOf i).toNat)
 case atStart=>exact ⟨0,s,[s],w2.heap.size,1,Nat.zero_le _,rfl,rfl,ca.out,HL.out,rfl,bk.out,(fun y hy=>by rw [Ai.1 hy];exact bk.out),⟨[],rfl,rfl⟩,b3.out,cb.out,cc.out⟩
 case round =>
  obtain ⟨k,⟨t2,⟨ma2,ml2,mc2⟩,⟨ua2,ul2,uc2⟩,⟨ra2,rl2,rc2⟩,so2,⟨ga2,gl2,gc2⟩⟩,L,g,cap,hk,rfl,rfl,ka,hown,hLl,hst,hall,⟨pre,ae,ac⟩,hinv,hbel,hzr⟩:=hrel;simp only at ka;clear x0 x1 x2 x3 x4 x5 f0 f1 f2 f3 f4 f5;by_cases hlt:k<n
  ·have hkl:k<l.length:=by rw [HN.out];exact hlt
   have hkx:k<xs.length:=by rw [az.out];exact hlt
   have hfx:=HF.out l[k] (List.getElem_mem hkl);obtain ⟨ad,rfl,-⟩:=JO HR.out hbel hkl;have hq:∀ V,zg w w V→V (ad.add (k * 4))=some (zk .i64 l[k].k)∧V ⟨(ad.add (k * 4)).block,(ad.add (k * 4)).off+1,none⟩=some (zk .i64 l[k].a)∧V ⟨(ad.add (k * 4)).block,(ad.add (k * 4)).off+2,none⟩=some (zk .i64 l[k].n)∧V ⟨(ad.add (k * 4)).block,(ad.add (k * 4)).off+3,none⟩=some (yy l[k].s):=fun V hV=>by
    obtain ⟨ad',e,q⟩:=JO HR.out hV hkl;injection e with e;rw [e];exact q
   have cdo:=fun V (S':List Nat) (hV:zg wr wr V) (hS:∀ i∈S',i∈(g::w::S)∨wr.heap.size≤i) (hI:qf S' V)=>JM ⟨t2,⟨ma2,ml2,mc2⟩,⟨ua2,ul2,uc2⟩,⟨ra2,rl2,rc2⟩,so2,⟨ga2,gl2,gc2⟩⟩ S' V ((hst.wide hS).later hV) hI hinv l[k].k l[k].a l[k].n l[k].s hfx.1 hfx.2;have hmo:=fun h=>MW (t:=lz.d ⟨t2,⟨ma2,ml2,mc2⟩,⟨ua2,ul2,uc2⟩,⟨ra2,rl2,rc2⟩,so2,⟨ga2,gl2,gc2⟩⟩) (x:=xs[k]'hkx) (r:=xs.drop (k+1)) h;have hso:=fun h=>NZ (t:=lz.d ⟨t2,⟨ma2,ml2,mc2⟩,⟨ua2,ul2,uc2⟩,⟨ra2,rl2,rc2⟩,so2,⟨ga2,gl2,gc2⟩⟩) (x:=xs[k]'hkx) (r:=xs.drop (k+1)) h;have hiv:=wY hinv xs[k];rw [← List.drop_eq_getElem_cons hkx,a0.out k hkl hkx] at hmo hso;rw [a0.out k hkl hkx] at hiv;generalize l[k]=x at hq cdo hmo hso hiv;obtain ⟨xk,xa,xn,xs'⟩:=x;simp only at hq cdo;have bl:qw (lz.d ⟨t2,⟨ma2,ml2,mc2⟩,⟨ua2,ul2,uc2⟩,⟨ra2,rl2,rc2⟩,so2,⟨ga2,gl2,gc2⟩⟩) (⟨xk,xa,xn,xs'⟩,0)=xo (lz.d ⟨t2,⟨ma2,ml2,mc2⟩,⟨ua2,ul2,uc2⟩,⟨ra2,rl2,rc2⟩,so2,⟨ga2,gl2,gc2⟩⟩) xk xa xn xs':=rfl;rw [bl] at hmo hso hiv;generalize xo (lz.d ⟨t2,⟨ma2,ml2,mc2⟩,⟨ua2,ul2,uc2⟩,⟨ra2,rl2,rc2⟩,so2,⟨ga2,gl2,gc2⟩⟩) xk xa xn xs'=r at cdo hmo hso hiv;obtain ⟨rd,re⟩:=r;simp only at hmo hso hiv;have hglt:g<wr:=(hown.lt g rfl).2;have hgb:W≤g:=(hown.lt g rfl).1;have FS:=yw (fun V (hV:zg wr wr V)=>(⟨⟨(ka.onto hV).cell 0 _ rfl,(ka.onto hV).cell 1 _ rfl,(ka.onto hV).cell 2 _ rfl,(ka.onto hV).cell 3 _ rfl,(ka.onto hV).cell 4 _ rfl,(ka.onto hV).cell 5 _ rfl⟩,hq V (hbel.trans (hV.mono hbel.size))⟩:(fun V:zd=>(V ⟨w,0,none⟩=some (yy t2)∧V ⟨w,1,none⟩=some (yv ma2 ml2.length mc2)∧V ⟨w,2,none⟩=some (yv ua2 ul2.length uc2)∧V ⟨w,3,none⟩=some (yv ra2 rl2.length rc2)∧V ⟨w,4,none⟩=some (yz so2)∧V ⟨w,5,none⟩=some (yv ga2 gl2.length gc2))∧V (ad.add (k * 4))=some (zk .i64 xk)∧V ⟨(ad.add (k * 4)).block,(ad.add (k * 4)).off+1,none⟩=some (zk .i64 xa)∧V ⟨(ad.add (k * 4)).block,(ad.add (k * 4)).off+2,none⟩=some (zk .i64 xn)∧V ⟨(ad.add (k * 4)).block,(ad.add (k * 4)).off+3,none⟩=some (yy xs')) V));have bm:=yw (fun i (hi:i∈(g::w::S))=>((zj.1 hi).elim (fun e=>by rw [e];exact hglt) (fun hi=>by have h1:=b9.out i hi;omega):i<wr));have aw:=yw cdo;have cd:=yw hmo;have ce:=yw hso;have cf:=yw hiv;have a1:=yw hall;have au:=yw hbel;have bn:=yw ka;have a2:=yw hown;have HP:=yw (zy ae ac);have b0:(0:Int)≤(k:Int):=lf;have b1:(k:Int)<(n:Int):=lf;clear cdo hmo hso hiv hst hall hbel ka hown hfx hinv bl hq ae ac;go_wp2_with fail;refine wp_region_held_drew (S:=(fun V:zd=>(V ⟨w,0,none⟩=some (yy t2)∧V ⟨w,1,none⟩=some (yv ma2 ml2.length mc2)∧V ⟨w,2,none⟩=some (yv ua2 ul2.length uc2)∧V ⟨w,3,none⟩=some (yv ra2 rl2.length rc2)∧V ⟨w,4,none⟩=some (yz so2)∧V ⟨w,5,none⟩=some (yv ga2 gl2.length gc2))∧V (ad.add (k * 4))=some (zk .i64 xk)∧V ⟨(ad.add (k * 4)).block,(ad.add (k * 4)).off+1,none⟩=some (zk .i64 xa)∧V ⟨(ad.add (k * 4)).block,(ad.add (k * 4)).off+2,none⟩=some (zk .i64 xn)∧V ⟨(ad.add (k * 4)).block,(ad.add (k * 4)).off+3,none⟩=some (yy xs'))) lg (FS.out _ (zn _ _).drew) (fun hHeld=>?_);refine ly 0 ?_;refine ly 1 ?_;refine ly 2 ?_;refine ly 3 ?_;refine ly 4 ?_;refine wpAnyH_ready (rs:=[5,9]) lg lh ?_;refine AllReadyH.cons (by simp only [qz];rfl) (fun K hK=>?ga) (AllReadyH.cons (by simp only [qz];rfl) (fun K hK=>?gb) AllReadyH.nil)
   case' gb =>
    go_simp;skip
    try go_wp2_with fail
    refine hK.out _ _ ?_ (fun hHeld=>?_)
    ·exact FS.out _ ((zn _ _).drew.alloc (zs _) _)
    clear hK K
    try simp only [Act.put,mj]
    refine m8 5 fun K hK=>?_;go_simp
    (go_at_call 22;refine (aw.out _ (wr::(g::w::S)) ((zn _ _).drew.alloc (zs _) _) (fun i hi=>(zj.1 hi).elim (fun h=>.inr (Nat.le_of_eq h.symm)) .inl) (fun i hi=>by rw [Aj];show i<wr+1;exact (zj.1 hi).elim (fun h=>lf) (fun h=>Nat.lt_succ_of_lt (bm.out i h)))).mono ?_;rintro e w1 ⟨⟨t3,⟨ma3,ml3,mc3⟩,⟨ua3,ul3,uc3⟩,⟨ra3,rl3,rc3⟩,so3,⟨ga3,gl3,gc3⟩⟩,rfl,am,an,ab⟩;have ao:=((zn wr wr).drew.alloc (zs _) _).trans (ab.mono lh);have a3:=yw (show l6 w1 wr.heap.size #[yy ⟨#[]⟩,yv none 0 0,yv none 0 0,yv none 0 0,yz false,yv none 0 0] 26 from (l6.new wr.drew #[yy ⟨#[]⟩,yv none 0 0,yv none 0 0,yv none 0 0,yz false,yv none 0 0] 26).onto ab);have aa:=yw ao;have aq:=yw an;have a5:=yw am;clear ab ao an am aw)
    try go_wp2_with fail
    refine hK.out _ _ ?_ (fun hHeld=>?_)
    ·exact FS.out _ aa.out
    clear hK K
    try simp only [Act.put,mj]
    refine ly 6 ?_;refine ly 7 ?_;refine ly 8 ?_;have kt:l6 w1 wr #[yy ⟨#[]⟩,yv none 0 0,yv none 0 0,yv none 0 0,yz false,yv none 0 0] 26:=a3.out;obtain ⟨y0,y1,y2,y3,y4,y5,g0,g1,g2,g3,g4,g5⟩:=kt.all6;refine m8 10 fun K hK=>?_;go_simp;skip
    try go_wp2_with fail
    refine hK.out _ _ ?_ (fun hHeld=>?_)
    ·exact FS.out _ (by (iterate 6 refine Ak ?_ (by show wr.heap.size≤wr;exact zs _) _);exact aa.out)
    clear hK K
    try simp only [Act.put,mj]
    refine ly 11 ?_;refine wpAnyH_done lg ?_ _;obtain ⟨v,hv⟩:∃ v,yx (yx (yx (yx (yx (yx w1 ⟨wr,0,none⟩ (yy t3)) ⟨wr,1,none⟩ (yv ma3 ml3.length mc3)) ⟨wr,2,none⟩ (yv ua3 ul3.length uc3)) ⟨wr,3,none⟩ (yv ra3 rl3.length rc3)) ⟨wr,4,none⟩ (yz so3)) ⟨wr,5,none⟩ (yv ga3 gl3.length gc3)=v:=⟨_,rfl⟩;obtain ⟨bt,hbt⟩:∃ x,wr.heap.size=x:=⟨_,rfl⟩;have k2:l6 (yx (yx (yx (yx (yx (yx w1 ⟨wr,0,none⟩ (yy t3)) ⟨wr,1,none⟩ (yv ma3 ml3.length mc3)) ⟨wr,2,none⟩ (yv ua3 ul3.length uc3)) ⟨wr,3,none⟩ (yv ra3 rl3.length rc3)) ⟨wr,4,none⟩ (yz so3)) ⟨wr,5,none⟩ (yv ga3 gl3.length gc3)) wr #[yy t3,yv ma3 ml3.length mc3,yv ua3 ul3.length uc3,yv ra3 rl3.length rc3,yz so3,yv ga3 gl3.length gc3] 26:=(((((a3.out.set 0 _).set 1 _).set 2 _).set 3 _).set 4 _).set 5 _;have af:zg wr wr (yx (yx (yx (yx (yx (yx w1 ⟨wr,0,none⟩ (yy t3)) ⟨wr,1,none⟩ (yv ma3 ml3.length mc3)) ⟨wr,2,none⟩ (yv ua3 ul3.length uc3)) ⟨wr,3,none⟩ (yv ra3 rl3.length rc3)) ⟨wr,4,none⟩ (yz so3)) ⟨wr,5,none⟩ (yv ga3 gl3.length gc3)):=by
     iterate 6 refine Ak ?_ (by show wr.heap.size≤wr;exact zs _) _
     exact aa.out
    have ap2:lu (wr::(g::w::S)) w1 (yx (yx (yx (yx (yx (yx w1 ⟨wr,0,none⟩ (yy t3)) ⟨wr,1,none⟩ (yv ma3 ml3.length mc3)) ⟨wr,2,none⟩ (yv ua3 ul3.length uc3)) ⟨wr,3,none⟩ (yv ra3 rl3.length rc3)) ⟨wr,4,none⟩ (yz so3)) ⟨wr,5,none⟩ (yv ga3 gl3.length gc3)):=by
     iterate 6 refine lu.setCell ?_ (.inl lh) _
     exact lu.refl _ _
    have rs2:=aq.out.apart ap2;rw [hv] at k2 af rs2;rw [hv,hbt];have KT:=yw (show l6 v bt #[yy t3,yv ma3 ml3.length mc3,yv ua3 ul3.length uc3,yv ra3 rl3.length rc3,yz so3,yv ga3 gl3.length gc3] 26 by rw [← hbt];exact k2);have HX:=yw af;have RS:=yw (rs2.wide (S':=(g::w::S)) (fun i hi=>.inl (List.mem_cons_of_mem _ hi)));have bo:=yw (show wr≤bt by rw [← hbt];exact zs _);clear hv hbt k2 af ap2 rs2 aa aq a3 kt y0 y1 y2 y3 y4 y5 g0 g1 g2 g3 g4 g5
   case' ga =>
    go_simp
    (go_at_call 22;refine (aw.out _ (g::w::S) (zn _ _).drew (fun i hi=>.inl hi) (fun i hi=>bm.out i hi)).mono ?_;rintro e w1 ⟨⟨t3,⟨ma3,ml3,mc3⟩,⟨ua3,ul3,uc3⟩,⟨ra3,rl3,rc3⟩,so3,⟨ga3,gl3,gc3⟩⟩,rfl,am,an,ab⟩;have ao:=(zn wr wr).drew.trans ab;have aa:=yw ao;have aq:=yw an;have a5:=yw am;clear ab ao an am aw)
    try go_wp2_with fail
    refine hK.out _ _ ?_ (fun hHeld=>?_)
    ·exact FS.out _ aa.out
    clear hK K
    try simp only [Act.put,mj]
    refine ly 6 ?_;refine ly 7 ?_;refine ly 8 ?_;refine m8 9 fun K hK=>?_;go_simp;skip
    try go_wp2_with fail
    refine hK.out _ _ ?_ (fun hHeld=>?_)
    ·exact FS.out _ (aa.out.alloc aa.out.size _)
    clear hK K
    try simp only [Act.put,mj]
    refine m8 10 fun K hK=>?_;go_simp;skip
    try go_wp2_with fail
    refine hK.out _ _ ?_ (fun hHeld=>?_)
    ·exact FS.out _ (aa.out.alloc aa.out.size _)
    clear hK K
    try simp only [Act.put,mj]
    refine ly 11 ?_;refine wpAnyH_done lg ?_ _;obtain ⟨v,hv,kt,hbv,hzv⟩:=nu w1 #[yy t3,yv ma3 ml3.length mc3,yv ua3 ul3.length uc3,yv ra3 rl3.length rc3,yz so3,yv ga3 gl3.length gc3] 26;obtain ⟨bt,hbt⟩:∃ x,w1.heap.size=x:=⟨_,rfl⟩;rw [hv,hbt];rw [hbt] at kt;have KT:=yw kt;have HX:=yw (aa.out.trans (hbv.mono aa.out.size));have RS:=yw (aq.out.later hbv);have bo:=yw (show wr≤bt by rw [← hbt];exact aa.out.size);clear hv hbt kt hbv hzv aa aq
   all_goals
    have a6:=yw (au.out.trans (HX.out.mono au.out.size));have cg:=yw (zx hzr HX.out.size);have bp:=yw (bn.out.onto HX.out);have bq:=yw (lM a2.out HX.out);have ax:=yw (fun y hy=>(a1.out y hy).later HX.out);have ck:=bo.out;clear bn au a1 a2;by_cases hre:re=0
    ·subst hre;obtain ⟨x0,x1,x2,x3,x4,x5,f0,f1,f2,f3,f4,f5⟩:=bp.out.all6;obtain ⟨c0,c1,c2,c3,c4,c5,-,-,-,-,-,-⟩:=KT.out.all6;have n1:w≠bt:=by have:=HBASE.out;omega
     have ap:lu (g::w::S) v (yx (yx (yx (yx (yx (yx v ⟨w,0,none⟩ (yy t3)) ⟨w,1,none⟩ (yv ma3 ml3.length mc3)) ⟨w,2,none⟩ (yv ua3 ul3.length uc3)) ⟨w,3,none⟩ (yv ra3 rl3.length rc3)) ⟨w,4,none⟩ (yz so3)) ⟨w,5,none⟩ (yv ga3 gl3.length gc3)):=by
      iterate 6 refine lu.setCell ?_ (.inl lh) _
      exact lu.refl _ _
     have a7:=RS.out.apart ap;have aj:=fun y hy=>(ax.out y hy).apart ap;have a8:zg w w (yx (yx (yx (yx (yx (yx v ⟨w,0,none⟩ (yy t3)) ⟨w,1,none⟩ (yv ma3 ml3.length mc3)) ⟨w,2,none⟩ (yv ua3 ul3.length uc3)) ⟨w,3,none⟩ (yv ra3 rl3.length rc3)) ⟨w,4,none⟩ (yz so3)) ⟨w,5,none⟩ (yv ga3 gl3.length gc3)):=by
      iterate 6 refine Ak ?_ (by dsimp only;omega) _
      exact a6.out
     have a9:W.heap.size≤(yx (yx (yx (yx (yx (yx v ⟨w,0,none⟩ (yy t3)) ⟨w,1,none⟩ (yv ma3 ml3.length mc3)) ⟨w,2,none⟩ (yv ua3 ul3.length uc3)) ⟨w,3,none⟩ (yv ra3 rl3.length rc3)) ⟨w,4,none⟩ (yz so3)) ⟨w,5,none⟩ (yv ga3 gl3.length gc3)):=by
      iterate 6 rw [World.size_setCell]
      exact cg.out
     have ba:(yx (yx (yx (yx (yx (yx v ⟨w,0,none⟩ (yy t3)) ⟨w,1,none⟩ (yv ma3 ml3.length mc3)) ⟨w,2,none⟩ (yv ua3 ul3.length uc3)) ⟨w,3,none⟩ (yv ra3 rl3.length rc3)) ⟨w,4,none⟩ (yz so3)) ⟨w,5,none⟩ (yv ga3 gl3.length gc3)).ownsRow W 26 6 (yv (some ⟨g,0,none⟩) L.length cap) L.length (lz.flat L):=by
      iterate 6 refine FC ?_ (by have:=HBASE.out;dsimp only;omega) _
      exact bq.out
     have ka5:l6 (yx (yx (yx (yx (yx (yx v ⟨w,0,none⟩ (yy t3)) ⟨w,1,none⟩ (yv ma3 ml3.length mc3)) ⟨w,2,none⟩ (yv ua3 ul3.length uc3)) ⟨w,3,none⟩ (yv ra3 rl3.length rc3)) ⟨w,4,none⟩ (yz so3)) ⟨w,5,none⟩ (yv ga3 gl3.length gc3)) w #[yy t3,yv ma3 ml3.length mc3,yv ua3 ul3.length uc3,yv ra3 rl3.length rc3,yz so3,yv ga3 gl3.length gc3] 26:=(((((bp.out.set 0 _).set 1 _).set 2 _).set 3 _).set 4 _).set 5 _;obtain ⟨v5,bb⟩:∃ X,yx (yx (yx (yx (yx (yx v ⟨w,0,none⟩ (yy t3)) ⟨w,1,none⟩ (yv ma3 ml3.length mc3)) ⟨w,2,none⟩ (yv ua3 ul3.length uc3)) ⟨w,3,none⟩ (yv ra3 rl3.length rc3)) ⟨w,4,none⟩ (yz so3)) ⟨w,5,none⟩ (yv ga3 gl3.length gc3)=X:=⟨_,rfl⟩;rw [bb] at a7 aj a8 a9 ba ka5;have ch:=yw bb;have br:=yw a7;have bf:=yw aj;have bc:=yw a8;have bs:=yw a9;have bu:=yw ba;have ag:=yw ka5;clear ap a7 aj a8 a9 ba ka5 bb
     go_upto_region 11 with fail
     rw [ch.out];clear x0 x1 x2 x3 x4 x5 f0 f1 f2 f3 f4 f5 c0 c1 c2 c3 c4 c5;have g0:=ag.out.cell 0 _ rfl;have g1:=ag.out.cell 1 _ rfl;have g2:=ag.out.cell 2 _ rfl;have g3:=ag.out.cell 3 _ rfl;have g4:=ag.out.cell 4 _ rfl;have g5:=ag.out.cell 5 _ rfl;have bv:=ni v5 (.cells #[yy t3,yv ma3 ml3.length mc3,yv ua3 ul3.length uc3,yv ra3 rl3.length rc3,yz so3,yv ga3 gl3.length gc3] 26);have ak:=bu.out.alloc (.cells #[yy t3,yv ma3 ml3.length mc3,yv ua3 ul3.length uc3,yv ra3 rl3.length rc3,yz so3,yv ga3 gl3.length gc3] 26);rw [hLl] at ak;have hnews:=KO v5 ⟨t3,⟨ma3,ml3,mc3⟩,⟨ua3,ul3,uc3⟩,⟨ra3,rl3,rc3⟩,so3,⟨ga3,gl3,gc3⟩⟩ 26;have cl:=bs.out;have ar:=yw bv;clear bv;go_wp2_with (at_builtin;refine wpList_append_lies _ rfl _ _ 41 rfl W.heap.size 26 i0 _ 6 120 underlying41 b5 b6 b7 b8 rfl li _ _ _ rfl ak ⟨v5,0,none⟩ 1 1 [yy t3,yv ma3 ml3.length mc3,yv ua3 ul3.length uc3,yv ra3 rl3.length rc3,yz so3,yv ga3 gl3.length gc3] rfl rfl hnews (OT ⟨t3,⟨ma3,ml3,mc3⟩,⟨ua3,ul3,uc3⟩,⟨ra3,rl3,rc3⟩,so3,⟨ga3,gl3,gc3⟩⟩) lf ln lf lq _ rfl ?_;intro g6 cap6 v6 hown' hgrow bw b4);have ci:v5.heap.size≤v6:=zx ar.out.size hgrow.size;have hgv:g<v5:=(bu.out.lt g rfl).2;have ap6:lu [g] (v5.alloc (.cells #[yy t3,yv ma3 ml3.length mc3,yv ua3 ul3.length uc3,yv ra3 rl3.length rc3,yz so3,yv ga3 gl3.length gc3] 26)) v6:=⟨hgrow.os,hgrow.tape,hgrow.output,hgrow.size,fun i hi hn=>hgrow.block i hi (fun e=>hn (by
      have e2:some i=some g:=e;injection e2 with e2;simp [e2]))⟩
     have bx:g6=g∨v5+1≤g6:=by
      rcases bw with h|h
      ·have h2:some g=some g6:=h;injection h2 with h2;exact .inl h2.symm
      ·right;rw [h,Aj];exact zs _
     have mv:∀ y,mq (g::w::S) v5 y→mq (g6::w::S) v6 y:=fun y h =>
      mq.wide (S:=g6::g::w::S) (((h.later ar.out).wide (S':=g6::g::w::S) (fun i hi=>(zj.1 hi).elim (fun e=>bx.elim (fun e2=>.inl (by simp [e,e2])) (fun h2=>.inr (by rw [Aj];omega))) .inl)).apart (ap6.more lh)) (fun i hi=>.inl (by simp only [zj] at hi ⊢;exact hi.elim .inl (fun h=>.inr (.inr h))))
     have bz:zg w w v6:=(bc.out.trans (ar.out.mono bc.out.size)).trans (ap6.to_below (fun i hi=>by rw [Ai.1 hi];have:=HBASE.out;omega) (zx bc.out.size ar.out.size));have ka7:l6 v6 w #[yy t3,yv ma3 ml3.length mc3,yv ua3 ul3.length uc3,yv ra3 rl3.length rc3,yz so3,yv ga3 gl3.length gc3] 26:=(ag.out.onto ar.out).apart ap6 (by have:=HBASE.out;simp;omega);obtain ⟨ae,ac⟩:=HP.out;have cj:=yw (show ∃ (x:lz) (L':List lz) (g cap:Nat),yv (some ⟨g6,0,none⟩) (k+1+1) cap6=yv (some ⟨g,0,none⟩) L'.length cap∧l6 v6 w #[yy x.t,yv x.m.a x.m.l.length x.m.c,yv x.u.a x.u.l.length x.u.c,yv x.r.a x.r.l.length x.r.c,yz x.o,yv x.g.a x.g.l.length x.g.c] 26∧v6.ownsRow W 26 6 (yv (some ⟨g,0,none⟩) L'.length cap) L'.length (lz.flat L')∧L'.length=k+1+1∧mq (g::w::S) v6 x∧(∀ y∈L',mq (g::w::S) v6 y)∧(∃ pre,L'.map lz.d=pre++[x.d]∧rr s.d xs=pre++rr x.d (xs.drop (k+1)))∧mx x.d∧zg w w v6∧W.heap.size≤v6 from by
      have hll:(L++[(⟨t3,⟨ma3,ml3,mc3⟩,⟨ua3,ul3,uc3⟩,⟨ra3,rl3,rc3⟩,so3,⟨ga3,gl3,gc3⟩⟩:lz)]).length=k+1+1:=by rw [List.length_append,hLl];rfl
      refine ⟨⟨t3,⟨ma3,ml3,mc3⟩,⟨ua3,ul3,uc3⟩,⟨ra3,rl3,rc3⟩,so3,⟨ga3,gl3,gc3⟩⟩,L++[(⟨t3,⟨ma3,ml3,mc3⟩,⟨ua3,ul3,uc3⟩,⟨ra3,rl3,rc3⟩,so3,⟨ga3,gl3,gc3⟩⟩:lz)],g6,cap6,by rw [hll],ka7,?_,hll,mv _ br.out,fun y hy=>?_,⟨L.map lz.d,?_,?_⟩,?_,bz,zx bs.out ci⟩
      ·rw [hll,lz.flat_app];exact hown'
      ·rcases List.mem_append.1 hy with hy|hy
       ·exact mv y (bf.out y hy)
       ·rw [Ai.1 hy];exact mv _ br.out
      ·rw [List.map_append];rfl
      ·rw [ac,cd.out rfl,ae,show lz.d ⟨t3,⟨ma3,ml3,mc3⟩,⟨ua3,ul3,uc3⟩,⟨ra3,rl3,rc3⟩,so3,⟨ga3,gl3,gc3⟩⟩=rd from a5.out];simp
      ·rw [show lz.d ⟨t3,⟨ma3,ml3,mc3⟩,⟨ua3,ul3,uc3⟩,⟨ra3,rl3,rc3⟩,so3,⟨ga3,gl3,gc3⟩⟩=rd from a5.out];exact cf.out)
     clear ak hnews g0 g1 g2 g3 g4 g5 hown' hgrow bw b4 ap6 bx mv bz ka7 ae ac;go_wp2;obtain ⟨x8,L8,g8,c8,h1,h2,h3,h4,h5,h6,h7,h8,h9,h10⟩:=cj.out;go_roundw
     case rel=>exact ⟨k+1,x8,L8,g8,c8,lf,by go_num,h1,h2,h3,h4,h5,h6,h7,h8,h9,h10⟩
     case measure=>simp [intOf];omega
    ·have e1:(re != 0)=true:=by simp [hre]
     obtain ⟨ae,ac⟩:=HP.out;rw [ce.out hre] at ac;obtain ⟨a4,c4,bd,ah⟩:=uU bq.out;injection bd with h1 h2 h3;subst h1 h3;have ai:vg w (rr s.d xs) (zu (yv (some ⟨g,0,none⟩) L.length cap)) v:=⟨some ⟨g,0,none⟩,L,cap,rfl,ah,fun y hy=>(ax.out y hy).in,ae.trans ac.symm,a6.out⟩;rw [hLl] at ai;have be:=yw ai;clear ai;clear ae ac ah;go_wp2;go_ret;exact be.out
  ·obtain rfl:k=n:=lf;rw [List.drop_of_length_le (by rw [az.out];exact zs _)] at ac;obtain ⟨a4,c4,bd,ah⟩:=uU hown;injection bd with h1 h2 h3;subst h1 h3;have ai:vg w (rr s.d xs) (zu (yv (some ⟨g,0,none⟩) L.length cap)) wr:=⟨some ⟨g,0,none⟩,L,cap,rfl,ah,fun y hy=>(hall y hy).in,ae.trans ac.symm,hbel⟩;rw [hLl] at ai;have be:=yw ai;clear ai;clear ae ac ah hown hall hst hbel ka hinv;go_wp2;go_ret;exact be.out
attribute [local go_sem] Oper.semAt_some
def YL (L:List lz) (m:Nat) (x:lz) (m':Nat) (A:zd):Prop:=(m'=m+1∧(∃ h:m<L.length,x.d=L[m].d)∧mx x.d)∧mq [] A x
theorem YL.firm (L:List lz) (l m:Nat) (x:lz) (m':Nat):Firm l (YL L m x m'):=(Firm.const l _).both ⟨fun A B h hb=>h.later hb,fun A r r' h hl=>h.putn hl rfl _⟩
theorem YA.row {d:mb} {xs:List (oo×Int)} {L:List lz} (hL:L.map lz.d=rr d xs) {m m':Nat} {x:lz} {A:zd} (h:YA d xs m x m' A):YL L m x m' A:=by
 obtain ⟨⟨h1,t,h2,h3,h4⟩,h5⟩:=h;have hg:=h2.get;rw [← hL] at hg;obtain ⟨hm,hg⟩:=List.getElem?_eq_some_iff.1 hg;refine ⟨⟨h1,⟨by simpa using hm,?_⟩,by rw [h3];exact h4⟩,h5⟩;rw [h3,← hg,List.getElem_map]
def AllIt (L:List lz) (w:zd) (e:Ending) (w':zd):Prop:=∃ (F:Nat) (lb:Array zi),e=zu (.func (.func F) #[] lb)∧(∀ args w,(callFunc F args).run prog w=.ok (.enter F args) w) ∧
 (∀ w,(binOp .eql 44 (.func (.func F) #[] lb) .nilFunc).run prog w=.ok (yz false) w) ∧
 (∀ (W:zd) (m l:Nat) (S:List Nat),zg w' w' W→(∀ x∈S,x<W.heap.size∧(x<w.heap.size∨w'.heap.size≤x))→yh prog m l F lb encA (YL L) (fun _=>True) (fun A B=>zg W A B) S 0 L.length W)∧zg w.heap.size w w'
theorem SI {L:List lz} (hL:L=[]) (W:zd) (m l:Nat) (S:List Nat):yh prog m l 29 #[] encA (YL L) (fun _=>True) (fun A B=>zg W A B) S 0 L.length W:=by
 subst hL;intro J Jx hJ hJx hY h0;have H0:=yw h0;clear h0 hJ hJx hY;refine callsIn_of_wp func29 rfl trivial ?_ rfl;simp only [ntmps29,Am,Ag,Ah,Nat.reduceAdd,Nat.reduceSub,An,Ao,Ap,Aq,Ar,Au]
 gi_wp2
 go_end0
 exact ⟨⟨_,rfl⟩,.inl ⟨H0.out,trivial⟩⟩
theorem MH (s:lz) (l:List oo) (L:List lz) (a:Option zh) (c n:Nat) (w:zd) (hin:n9 w s) (hz:sd s) (hL:L.map lz.d=if o0 s=true then rr s.d (qy l) else []) (hr:qk w (·<w) a l) (hn:l.length=n) (hnil:a=none→c=0) (hnz:n≤1000000) (hf:∀ x∈l,o8 x.a∧x.s.size≤1000000) :
 zw prog 16 #[s.v,yv a n c] w (AllIt L w):=by
 by_cases hri:o0 s=true
 ·rw [if_pos hri] at hL;refine (FX s l a c n w hin hz hri hr hn hnil hnz).mono ?_;rintro e w' ⟨bf,bo,b1,lb,D,rfl,hed,ho,hD,hbf,hbo,hb⟩;refine ⟨31,_,rfl,enters_of func31 lg rfl,fun w=>lg,fun W m lp S hW hS J Jx h1 h2 h3 h4=>?_,hb⟩;have hlen:L.length=(pk s.d (qy l)).2.1+1:=by rw [← zU,← hL,List.length_map]
  rw [hlen] at *;exact SO (hed.later hW) (ho.later (.of_below hW)) (enters_of func36 lg rfl) ((hW.block _ hbf.lt).trans hbf) ((hW.block _ hbo.lt).trans hbo) (fun x hx=>by obtain ⟨y,hy,rfl⟩:=List.mem_map.1 hx;exact hf y hy) (by rw [gU,hn];exact hnz) (fun k hk=>zt (hD k hk).2 hW.size) (fun x hx=>(hS x hx).1) (fun x hx h=>by have:=hD x h;have:=(hS x hx).2;omega) ((gK s).1 hri) m lp J Jx h1 h2 (fun s x s' A y=>h3 s x s' A (y.row hL)) h4
 ·rw [if_neg hri] at hL;have aa:L=[]:=by simpa using hL
  refine (MG s _ w hin hz (by simpa using hri)).mono ?_;rintro e w' ⟨rfl,hb⟩;exact ⟨29,_,rfl,enters_of func29 lg rfl,fun w=>lg,fun W m lp S hW hS=>SI aa W m lp S,hb⟩
theorem AO (s:lz) (l:List oo) (a:Option zh) (c n:Nat) (S:List Nat) (w:zd) (hS:qf S w) (hin:mq S w s) (hz:sd s) (hr:qk w (·<w) a l) (hn:l.length=n) (hnz:n≤1000000) (hf:∀ x∈l,o8 x.a∧x.s.size≤1000000) :
 zw prog 15 #[s.v,yv a n c] w (vg w (if o0 s=true then rr s.d (qy l) else [])):=by
 split
 ·exact EN s l a c n S w hS hin hz lm hr hn hnz hf
 ·exact JI s _ w hin.in hz (by simpa using (by assumption:¬ o0 s=true))
end Go.Proofs.YtbagenpobcgjnaaGreat
