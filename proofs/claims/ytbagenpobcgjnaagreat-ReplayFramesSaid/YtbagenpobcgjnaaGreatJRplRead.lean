/-
  Joined: RplRead, RplRef2.
-/
import Derived.Test.YtbagenpobcgjnaaGreatJSq
import Derived.Test.YtbagenpobcgjnaaGreatJEdrDev5
import Derived.Test.YtbagenpobcgjnaaGreatJOpBytes
open Go renaming Addr->zy,Calls->Ab,World->zt,bodyPost_ret->Aa,results->Af
open Go.Ending renaming returned->Ad
open Go.IntKind renaming i64->zr
open Go.Lib renaming hid->zn
open Go.RowKit.Below renaming refl->An,setCell->Ae
open Go.Value renaming agg->zv,bool->zp,int->zq,pointer->Ag,slice->zk,string->zo,tuple->zu
open Go.World renaming setCell->zm
open List renaming getElem_mem->Ah,mem_cons->Ai,mem_cons_of_mem->zx
open Nat renaming le_refl->Al,le_trans->zz,lt_of_lt_of_le->Am,zero_le->Ak
namespace Go.Proofs.YtbagenpobcgjnaaGreat
open Go.Proofs.Tryz
set_option maxRecDepth 100000
open Lib (hid)
open Go.RowKit
set_option linter.unusedVariables false
set_option linter.unusedSimpArgs false
attribute [local go_sem] Oper.semAt_some
def vp (x:vq):ru×Int:=(⟨(su x.data).k,(su x.data).a,(su x.data).n,(su x.data).s⟩,(su x.data).e)
def s9 (l:List vq):List (ru×Int):=l.map vp
theorem pA (l:List vq):(s9 l).length=l.length:=by unfold s9;simp
theorem yZ (l:List vq) (k:Nat) (h:k<(s9 l).length):(s9 l)[k]=vp (l[k]'(by rw [pA] at h;exact h)):=List.getElem_map _
theorem mE {D:Nat→Prop} {S:List Nat} {A B:zt} {a:Option zy} {l:List vq} (h:sd A D a l) (hD:∀ k,D k→k<A.heap.size) (hS:∀ x∈S,¬ D x) (hm:lx S A B):sd B D a l:=h.keep fun p hp=>hm.cell (hD _ hp) (fun g=>hS _ g hp)
set_option maxHeartbeats 1600000 in
theorem RL (l:List vq) (a:Option zy) (c n:Nat) {D:Nat→Prop} {bl:Nat} {w:zt} (hr:sd w D a l) (hn:l.length=n) (hbx:Boxed w bl 36 (zk a n c)) (hb0:D bl) (hD:∀ k,D k→k<w.heap.size) (hz:n≤1000000) (hd:∀ x∈l,x.data.size≤4294967296) :
 vr 51 #[Ag (some ⟨bl,0,none⟩)] (s9 l) D w:=by
 intro W m lp S hW hS J Jx hJ hJx hY h0;have hrW:sd W D a l:=hr.keep fun p hp=>World.cell?_of_block (hW.2 p.block hp (hD _ hp));have hbW:Boxed W bl 36 (zk a n c):=(hW.2 bl hb0 (hD _ hb0)).trans hbx;have q0:=hbW.cell;have hsz:=hW.1;have hlen:=pA l;have ao:=zn hrW;have HY:=zn hY;have HJ:=zn hJ;have HN:=zn hn;have HS:=zn hS;have H0:=zn h0;have aa:=zn hlen;have HD:=zn hd;have ag:=zn hD;clear hr hbx hrW hbW hY hJ hn hS h0 hJx hW hlen hD hd;refine callsIn_of_wp func51 rfl trivial ?_ rfl;simp only [ntmps51,List.size_toArray,List.length_cons,List.length_nil,Nat.reduceAdd,Nat.reduceSub,Array.replicate_succ,Array.replicate_zero,List.push_toArray,List.append_toArray,List.nil_append,List.cons_append]
 gi_wp2
 gi_loopw [7] (fun i wr=>∃ k:Nat,i=zq zr k∧k≤n∧J k wr∧W.heap.size≤wr∧sd wr D a l) (fun i _=>n - (intOf i).toNat)
 case atStart=>exact ⟨0,rfl,Ak _,H0.out,Al _,ao.out⟩
 case round =>
  obtain ⟨k,rfl,hk,hj,hs,ho⟩:=hrel;by_cases hlt:k<n
  ·have hkl:k<l.length:=by rw [HN.out];exact hlt
   obtain ⟨ad,rfl,hab,q0,q1,q2⟩:=ho k hkl;have hbx:=ns wr (.cells #[zq zr l[k].ep,zq zr l[k].sq,zo l[k].data] 38);have hx:(s9 l)[k]'(by rw [aa.out];exact hkl)=vp l[k]:=yZ l k _;have cr:=AQ l[k].data (HD.out _ (Ah hkl)) (wr.alloc (.cells #[zq zr l[k].ep,zq zr l[k].sq,zo l[k].data] 38));have hy:=fun A=>HY.out k (vp l[k]) (k+1) A ⟨by rw [aa.out];exact hkl,hx.symm,rfl⟩;have ab:=HJ.out _ _ _ hj hbx;have ac:=mE (S:=[]) ho (fun k hk=>by have:=ag.out k hk;omega) li (.of_below hbx);have ae:=zz hs hbx.size;unfold vp at hy;generalize l[k]=x at q0 q1 q2 cr hy ab ac ae;obtain ⟨xe,xq,xd⟩:=x;simp only at q0 q1 q2 cr hy ab ac ae;unfold pi at cr;generalize su xd=r at cr hy;obtain ⟨rk,ra,rn,rs,re⟩:=r;simp only at cr hy;have b0:(0:Int)≤(k:Int):=lg;have b1:(k:Int)<(n:Int):=lg;have CR:=zn cr;have aj:=zn hy;have ak:=zn ab;have HO:=zn ac;have ah:=zn ae;clear cr hy ho hj hbx hx hab ab ac ae
   gi_wp2_with fail
   refine ⟨trivial,fun e=>(by cases e),(callsIn_wide.2 CR.out).mono ?_⟩;rintro e V ⟨rfl,hbV⟩;have hy:=aj.out V (HJ.out _ _ _ ak.out hbV);obtain ⟨fn,tmps,assign,body,hyr,hR⟩:=dW hy;have HR:=zn hR;have al:=zn (mE (S:=[]) HO.out (fun k hk=>Am (ag.out k hk) (zz hsz ah.out)) li (.of_below hbV));have am:=zn (zz ah.out hbV.size);clear hy hR hbV aj ak HO ah CR q0 q1 q2
   gi_wp2_with fail
   refine ⟨fun e=>(by cases e),(HR.out none _).mono ?_⟩;rintro e W4 (⟨rfl,an,af⟩|⟨rfl,aq,af⟩)
   ·have ai:=zn an;have ar:=zn (zz am.out af.apart.size);have au:=zn (mE al.out (fun k hk=>Am (ag.out k hk) (zz hsz am.out)) HS.out af.apart);clear an af HR al
    gi_wp2
    go_roundw
    case rel=>exact ⟨k+1,by go_num,lg,ai.out,ar.out,au.out⟩
    case measure=>simp [intOf];omega
   ·gi_wp2
    refine Aa (results_none rfl _ _ _) rfl ?_;exact ⟨⟨_,rfl⟩,.inr aq⟩
  ·obtain rfl:k=n:=lg;have ai:=zn hj;clear hj ho
   gi_wp2
   go_end0
   exact ⟨⟨_,rfl⟩,.inl ⟨by rw [aa.out,HN.out];exact ai.out,trivial⟩⟩
theorem FO (l:List vq) (a:Option zy) (c n:Nat) (w:zt):Ab prog 26 #[zk a n c] w fun e w'=>e=Ad (.func (.func 51) #[] #[Ag (some ⟨w,0,none⟩)])∧w'=w.alloc (.cells #[zk a n c] 36):=by
 have hmf:∀ (fn:Fn) (first cap:Array Value) (w:zt),(Instr.makeFunc fn first cap).run prog w=.ok (.func fn first cap) w:=fun _ _ _ _=>rfl;go_enter func26,ntmps26;go_wp2;go_ret;exact ⟨rfl,rfl⟩
set_option maxHeartbeats 1600000 in
theorem vP (s:l7) (l:List vq) (a:Option zy) (c n:Nat) (S:List Nat) (w:zt) (hS:qg S w) (hin:ol w s) (hz:tg s) (hr:sd w (·<w) a l) (hn:l.length=n) (hnz:n≤1000000) (hd:∀ x∈l,x.data.size≤4294967296) (hf:∀ x∈l,oi (vp x).1.a∧(vp x).1.s.size≤1000000) :
 Ab prog 13 #[s.v,zk a n c] w (p9 S w (se s (s9 l))):=by
 obtain ⟨W,hW,kA,kB,ab,al⟩:=vo w s.cs #[zo ⟨#[]⟩,zk none 0 0,zk none 0 0,zk none 0 0,zp false,zk none 0 0] 26 26;have FS:=zn (fun V (hV:Below W W V)=>(⟨(kA.onto hV).cell 0 _ rfl,(kA.onto hV).cell 1 _ rfl,(kA.onto hV).cell 2 _ rfl,(kA.onto hV).cell 3 _ rfl,(kA.onto hV).cell 4 _ rfl,(kA.onto hV).cell 5 _ rfl⟩:(fun V:zt=>V ⟨w,0,none⟩=some (zo s.t)∧V ⟨w,1,none⟩=some (zk s.m.a s.m.l.length s.m.c)∧V ⟨w,2,none⟩=some (zk s.u.a s.u.l.length s.u.c)∧V ⟨w,3,none⟩=some (zk s.r.a s.r.l.length s.r.c)∧V ⟨w,4,none⟩=some (zp s.o)∧V ⟨w,5,none⟩=some (zk s.g.a s.g.l.length s.g.c)) V));have ae:=zn (fun V (hV:Below W W V) (ao:V.heap.size=W+1) (kL:Boxed V W 36 (zk a n c)) =>
  (show Ab prog 19 #[s.v,.func (.func 51) #[] #[Ag (some ⟨w+1+1,0,none⟩)]] V (p9 ((w.heap.size+1)::S) V (se s (s9 l))) from by
   rw [← al];exact sT s (s9 l) ((w.heap.size+1)::S) V (fun x hx=>by rcases Ai.1 hx with rfl|hx;omega;have:=hS x hx;omega) (hin.later (ab.trans (hV.mono ab.size))) hz
    (RL l a c n (D:=(·<V)) (bl:=W.heap.size) (w:=V) ((hr.below (N:=w.heap.size) (fun _ h=>h) (ab.trans (hV.mono ab.size))).more fun _ h=>lg) hn kL (by show W.heap.size<V;omega) (fun _ h=>h) hnz hd) (fun _ h=>h) (enters_of func51 lh rfl)
    (fun x hx=>by obtain ⟨y,hy,rfl⟩:=List.mem_map.1 hx;exact hf y hy) (by simp [s9];omega)))
 have KR:=zn kB;have HW:=zn hW;have af:=zn ab;clear hW kA kB ab hS hin hz hr hn hf hd;unfold l7.v l7.cs at *;go_enter func13,ntmps13;go_wp2_with fail;rw [HW.out];refine wp_region_held_drew (S:=(fun V:zt=>V ⟨w,0,none⟩=some (zo s.t)∧V ⟨w,1,none⟩=some (zk s.m.a s.m.l.length s.m.c)∧V ⟨w,2,none⟩=some (zk s.u.a s.u.l.length s.u.c)∧V ⟨w,3,none⟩=some (zk s.r.a s.r.l.length s.r.c)∧V ⟨w,4,none⟩=some (zp s.o)∧V ⟨w,5,none⟩=some (zk s.g.a s.g.l.length s.g.c))) lh (FS.out _ (An _ _).drew) (fun hHeld=>?_);refine lz 0 ?_;refine lz 1 ?_;refine m8 2 fun K hK=>?_;go_simp
 (go_at_call 26;refine (FO l a c n _).mono ?_;rintro e v1 ⟨rfl,rfl⟩;obtain ⟨V1,ag,kL,hbl,hzl⟩:=n8 (W.drew) #[zk a n c] 36;have hzd:W.drew.heap.size=W:=rfl;rw [ag];have hx:=(An W W).drew.trans hbl;have HX:=zn hx;have HL:=zn (show Boxed V1 W.heap.size _ _ from kL);have CE:=zn (ae.out V1 hx lg kL);clear ag kL hbl hx ae)
 try go_wp2_with fail
 refine hK.out _ _ ?_ (fun hHeld=>?_)
 ·exact FS.out _ HX.out
 clear hK K
 try simp only [Act.put,mj]
 refine m8 3 fun K hK=>?_;go_simp
 (go_at_call 19;refine CE.out.mono ?_;rintro e v2 ⟨⟨t6,⟨ma,ml,mc⟩,⟨ua,ul,uc⟩,⟨ra,rl,rc⟩,so,⟨ga,gl,gc⟩⟩,rfl,ah,ai,aj⟩;have hx:=HX.out.trans (aj.mono HX.out.size);have aa:=zn hx;have am:=zn ai;have an:=zn ah;have K6:=zn (KR.out.onto hx);clear aj hx ai ah CE)
 try go_wp2_with fail
 refine hK.out _ _ ?_ (fun hHeld=>?_)
 ·exact FS.out _ aa.out
 clear hK K
 try simp only [Act.put,mj]
 obtain ⟨x0,x1,x2,x3,x4,x5,y0,y1,y2,y3,y4,y5⟩:=K6.out.all6;refine lz 4 ?_;refine lz 5 ?_;refine lz 6 ?_;refine m8 7 fun K hK=>?_;go_simp;skip
 try go_wp2_with fail
 refine hK.out _ _ ?_ (fun hHeld=>?_)
 ·refine ⟨?_,?_,?_,?_,?_,?_⟩
  ·iterate 6 refine aQ ?_ (by dsimp only;omega)
   exact (FS.out _ aa.out).1
  ·iterate 6 refine aQ ?_ (by dsimp only;omega)
   exact (FS.out _ aa.out).2.1
  ·iterate 6 refine aQ ?_ (by dsimp only;omega)
   exact (FS.out _ aa.out).2.2.1
  ·iterate 6 refine aQ ?_ (by dsimp only;omega)
   exact (FS.out _ aa.out).2.2.2.1
  ·iterate 6 refine aQ ?_ (by dsimp only;omega)
   exact (FS.out _ aa.out).2.2.2.2.1
  ·iterate 6 refine aQ ?_ (by dsimp only;omega)
   exact (FS.out _ aa.out).2.2.2.2.2
 clear hK K
 try simp only [Act.put,mj]
 refine lz 8 ?_;refine lz 9 ?_;refine wpAnyH_done lh ?_ _;have kF:l6 (zm (zm (zm (zm (zm (zm v2 ⟨w+1,0,none⟩ (zo t6)) ⟨w+1,1,none⟩ (zk ma ml.length mc)) ⟨w+1,2,none⟩ (zk ua ul.length uc)) ⟨w+1,3,none⟩ (zk ra rl.length rc)) ⟨w+1,4,none⟩ (zp so)) ⟨w+1,5,none⟩ (zk ga gl.length gc)) (w+1) #[zo t6,zk ma ml.length mc,zk ua ul.length uc,zk ra rl.length rc,zp so,zk ga gl.length gc] 26:=(((((K6.out.set 0 _).set 1 _).set 2 _).set 3 _).set 4 _).set 5 _;have ac:Below w w (zm (zm (zm (zm (zm (zm v2 ⟨w+1,0,none⟩ (zo t6)) ⟨w+1,1,none⟩ (zk ma ml.length mc)) ⟨w+1,2,none⟩ (zk ua ul.length uc)) ⟨w+1,3,none⟩ (zk ra rl.length rc)) ⟨w+1,4,none⟩ (zp so)) ⟨w+1,5,none⟩ (zk ga gl.length gc)):=by
  iterate 6 refine Ae ?_ (by dsimp only;omega) _
  exact af.out.trans (aa.out.mono af.out.size)
 have ad:mm ((w.heap.size+1)::S) (zm (zm (zm (zm (zm (zm v2 ⟨w+1,0,none⟩ (zo t6)) ⟨w+1,1,none⟩ (zk ma ml.length mc)) ⟨w+1,2,none⟩ (zk ua ul.length uc)) ⟨w+1,3,none⟩ (zk ra rl.length rc)) ⟨w+1,4,none⟩ (zp so)) ⟨w+1,5,none⟩ (zk ga gl.length gc)) ⟨t6,⟨ma,ml,mc⟩,⟨ua,ul,uc⟩,⟨ra,rl,rc⟩,so,⟨ga,gl,gc⟩⟩:=am.out.apart (by
  iterate 6 refine lx.setCell ?_ (.inl li) _
  exact lx.refl _ _)
 obtain ⟨V7,ak⟩:∃ V7,zm (zm (zm (zm (zm (zm v2 ⟨w+1,0,none⟩ (zo t6)) ⟨w+1,1,none⟩ (zk ma ml.length mc)) ⟨w+1,2,none⟩ (zk ua ul.length uc)) ⟨w+1,3,none⟩ (zk ra rl.length rc)) ⟨w+1,4,none⟩ (zp so)) ⟨w+1,5,none⟩ (zk ga gl.length gc)=V7:=⟨_,rfl⟩;rw [ak] at kF ac ad ⊢;have HF:=zn (show p9 S w (se s (s9 l)) (Ad (zu #[zv #[zo t6,zk ma ml.length mc,zk ua ul.length uc,zk ra rl.length rc,zp so,zk ga gl.length gc],zq zr (se s (s9 l)).2.1,zq zr (se s (s9 l)).2.2])) V7 from ⟨⟨t6,⟨ma,ml,mc⟩,⟨ua,ul,uc⟩,⟨ra,rl,rc⟩,so,⟨ga,gl,gc⟩⟩,rfl,an.out,ad.wide (fun i hi=>.inl (zx _ hi)),ac⟩);clear x0 x1 x2 x3 x4 x5 y0 y1 y2 y3 y4 y5 ak ac ad;obtain ⟨x0,x1,x2,x3,x4,x5,-,-,-,-,-,-⟩:=kF.all6;go_wp2;exact Aa (v:=zu #[zv #[zo t6,zk ma ml.length mc,zk ua ul.length uc,zk ra rl.length rc,zp so,zk ga gl.length gc],zq zr (se s (s9 l)).2.1,zq zr (se s (s9 l)).2.2]) (by simp [Af,results13,go_sem,x0,x1,x2,x3,x4,x5]) rfl HF.out
set_option maxHeartbeats 1600000 in
theorem vS (s:l7) (a:Option zy) (c n:Nat) (S:List Nat) (w:zt) (hin:ol w s) (hz:tg s) (hri:pz s=false):Ab prog 14 #[s.v,zk a n c] w (p9 S w (wl,0,5)):=by
 obtain ⟨W,hW,kA,kB,aa,ah⟩:=vo w s.cs #[zo ⟨#[]⟩,zk none 0 0,zk none 0 0,zk none 0 0,zp false,zk none 0 0] 26 26;have cr:=mV s W (hin.later aa) hz;rw [hri] at cr;have CR:=zn cr;have HW:=zn hW;have ac:=zn aa;have KB:=zn kB;clear cr hW aa kA kB hin hz hri;unfold l7.v l7.cs at *;go_enter func14,ntmps14;go_wp2_with fail;rw [HW.out];refine CR.out.mono ?_;rintro e w2 ⟨rfl,ad⟩;have hx:=ac.out.trans (ad.mono ac.out.size);have hk:=KB.out.onto ad;obtain ⟨x0,x1,x2,x3,x4,x5,y0,y1,y2,y3,y4,y5⟩:=hk.all6;have kF:l6 (zm (zm (zm (zm (zm (zm w2 ⟨w+1,0,none⟩ (zo ⟨#[]⟩)) ⟨w+1,1,none⟩ (zk none 0 0)) ⟨w+1,2,none⟩ (zk none 0 0)) ⟨w+1,3,none⟩ (zk none 0 0)) ⟨w+1,4,none⟩ (zp false)) ⟨w+1,5,none⟩ (zk none 0 0)) (w+1) #[zo ⟨#[]⟩,zk none 0 0,zk none 0 0,zk none 0 0,zp false,zk none 0 0] 26:=(((((hk.set 0 _).set 1 _).set 2 _).set 3 _).set 4 _).set 5 _;have ae:Below w w (zm (zm (zm (zm (zm (zm w2 ⟨w+1,0,none⟩ (zo ⟨#[]⟩)) ⟨w+1,1,none⟩ (zk none 0 0)) ⟨w+1,2,none⟩ (zk none 0 0)) ⟨w+1,3,none⟩ (zk none 0 0)) ⟨w+1,4,none⟩ (zp false)) ⟨w+1,5,none⟩ (zk none 0 0)):=by
  iterate 6 refine Ae ?_ (by dsimp only;omega) _
  exact hx
 have af:mm (w::(w.heap.size+1)::S) (zm (zm (zm (zm (zm (zm w2 ⟨w+1,0,none⟩ (zo ⟨#[]⟩)) ⟨w+1,1,none⟩ (zk none 0 0)) ⟨w+1,2,none⟩ (zk none 0 0)) ⟨w+1,3,none⟩ (zk none 0 0)) ⟨w+1,4,none⟩ (zp false)) ⟨w+1,5,none⟩ (zk none 0 0)) wa:=mm.apart (S:=w.heap.size::(w.heap.size+1)::S) (w:=w2) ⟨tx.empty _ _,tf.empty _ _,tf.empty _ _,sv.empty _ _⟩ (by
  iterate 6 refine lx.setCell ?_ (.inl li) _
  exact lx.refl _ _)
 have HF:=zn (show p9 S w (wl,0,5) (Ad (zu #[zv #[zo ⟨#[]⟩,zk none 0 0,zk none 0 0,zk none 0 0,zp false,zk none 0 0],zq zr 0,zq zr 5])) (zm (zm (zm (zm (zm (zm w2 ⟨w+1,0,none⟩ (zo ⟨#[]⟩)) ⟨w+1,1,none⟩ (zk none 0 0)) ⟨w+1,2,none⟩ (zk none 0 0)) ⟨w+1,3,none⟩ (zk none 0 0)) ⟨w+1,4,none⟩ (zp false)) ⟨w+1,5,none⟩ (zk none 0 0)) from by
  exact ⟨wa,rfl,rfl,af.wide (fun i hi=>.inl (zx _ (zx _ hi))),ae⟩)
 obtain ⟨V7,ab⟩:∃ V7,zm (zm (zm (zm (zm (zm w2 ⟨w+1,0,none⟩ (zo ⟨#[]⟩)) ⟨w+1,1,none⟩ (zk none 0 0)) ⟨w+1,2,none⟩ (zk none 0 0)) ⟨w+1,3,none⟩ (zk none 0 0)) ⟨w+1,4,none⟩ (zp false)) ⟨w+1,5,none⟩ (zk none 0 0)=V7:=⟨_,rfl⟩;rw [ab] at kF HF;have ag:=zn ab;clear ae af ab;go_wp2;rw [ag.out];clear x0 x1 x2 x3 x4 x5 y0 y1 y2 y3 y4 y5;obtain ⟨x0,x1,x2,x3,x4,x5,-,-,-,-,-,-⟩:=kF.all6;exact Aa (v:=zu #[zv #[zo ⟨#[]⟩,zk none 0 0,zk none 0 0,zk none 0 0,zp false,zk none 0 0],zq zr 0,zq zr 5]) (by simp [Af,results14,go_sem,x0,x1,x2,x3,x4,x5]) rfl HF.out
set_option maxHeartbeats 3200000 in
theorem uO (s:l7) (l:List vq) (a:Option zy) (c n:Nat) (S:List Nat) (w:zt) (hS:qg S w) (hin:mm S w s) (hz:tg s) (hri:pz s=true) (hr:sd w (·<w) a l) (hn:l.length=n) (hnz:n≤1000000) (hd:∀ x∈l,x.data.size≤4294967296) (hf:∀ x∈l,oi (vp x).1.a∧(vp x).1.s.size≤1000000) :
 Ab prog 14 #[s.v,zk a n c] w (p9 S w (qm s.d (s9 l))):=by
 obtain ⟨W,hW,kA,kB,am,bv⟩:=vo w s.cs #[zo ⟨#[]⟩,zk none 0 0,zk none 0 0,zk none 0 0,zp false,zk none 0 0] 26 26;have cr:=mV s W (hin.in.later am) hz;rw [hri] at cr;obtain ⟨xs,hxs⟩:∃ xs,s9 l=xs:=⟨_,rfl⟩;have hlen:xs.length=n:=by rw [← hxs,pA];exact hn
 have hget:∀ (k:Nat) (hk:k<l.length) (a0:k<xs.length),xs[k]=vp l[k]:=fun k hk a0=>by subst hxs;exact yZ l k a0
 rw [hxs];have CR:=zn cr;have HW:=zn hW;have av:=zn am;have KA:=zn (show l6 W w.heap.size #[zo s.t,zk s.m.a s.m.l.length s.m.c,zk s.u.a s.u.l.length s.u.c,zk s.r.a s.r.l.length s.r.c,zp s.o,zk s.g.a s.g.l.length s.g.c] 26 from kA);have KB:=zn kB;have HR:=zn hr;have HN:=zn hn;have HF:=zn hf;have HD:=zn hd;have aw:=zn hlen;have bb:=zn hget;have bc:=zn ((jR s).1 hri);have a1:=zn ((hin.wide (S':=(w.heap.size::(w.heap.size+1)::S)) (fun i hi=>by simp only [Ai] at hi;rcases hi with rfl|rfl|hi;exact .inr (Al _);exact .inr lg;exact .inl hi)).later am);have bg:=zn (show qg (w::(w.heap.size+1)::S) W from fun i hi=>by simp only [Ai] at hi;rcases hi with rfl|rfl|hi;omega;omega;have:=hS i hi;omega);clear cr hW am kA kB hin hz hri hr hn hf hd hlen hget hS hxs;unfold l7.v l7.cs at *;go_enter func14,ntmps14;go_wp2_with fail;rw [HW.out];refine CR.out.mono ?_;rintro e w2 ⟨rfl,ag⟩;have bh:=zn (KA.out.onto ag);have bi:=zn (KB.out.onto ag);have bd:=zn (a1.out.later ag);have bj:=zn (av.out.trans (ag.mono av.out.size));have bk:=zn ag.size;clear ag CR KA KB a1 av;go_wp2
 go_loopw [7] (fun i wr=>∃ (k:Nat) (x:l7),k≤n∧i=zq zr k∧l6 wr w #[zo x.t,zk x.m.a x.m.l.length x.m.c,zk x.u.a x.u.l.length x.u.c,zk x.r.a x.r.l.length x.r.c,zp x.o,zk x.g.a x.g.l.length x.g.c] 26∧l6 wr (w+1) #[zo ⟨#[]⟩,zk none 0 0,zk none 0 0,zk none 0 0,zp false,zk none 0 0] 26∧mm (w::(w.heap.size+1)::S) wr x∧xz s.d xs k x.d∧Below w w wr∧W.heap.size≤wr) (fun i _=>n - (intOf i).toNat)
 case atStart=>exact ⟨0,s,Ak _,rfl,bh.out,bi.out,bd.out,xz.zero _ _,bj.out,bk.out⟩
 case round =>
  obtain ⟨k,⟨t2,⟨ma2,ml2,mc2⟩,⟨ua2,ul2,uc2⟩,⟨ra2,rl2,rc2⟩,so2,⟨ga2,gl2,gc2⟩⟩,hk,rfl,ka,kb,hst,hat,hbel,hzr⟩:=hrel;simp only at ka;by_cases hlt:k<n
  ·have hkl:k<l.length:=by rw [HN.out];exact hlt
   have hkx:k<xs.length:=by rw [aw.out];exact hlt
   obtain ⟨ad,rfl,hab,q0,q1,q2⟩:=(HR.out.below (fun _ h=>h) hbel) k hkl;have hfx:=HF.out l[k] (Ah hkl);have crd:=yN l[k].data (HD.out _ (Ah hkl)) wr;have hstp:=hat.step hkx;have hno:=hat.no hkx;rw [bb.out k hkl hkx] at hstp hno;unfold vp at hstp hno hfx;generalize l[k]=y at q0 q1 q2 hfx crd hstp hno;obtain ⟨ye,yq,yd⟩:=y;simp only at q0 q1 q2 hfx crd hstp hno;unfold pi at crd;generalize su yd=r at hfx crd hstp hno;obtain ⟨xk,xa,xn,xs',xe⟩:=r;simp only at hfx crd hstp hno;have hinv:mx (l7.d ⟨t2,⟨ma2,ml2,mc2⟩,⟨ua2,ul2,uc2⟩,⟨ra2,rl2,rc2⟩,so2,⟨ga2,gl2,gc2⟩⟩):=hat.inv bc.out;have a2:=zn crd;have ak:=zn hstp;have an:=zn hno;have ah:=zn hst;have af:=zn hbel;have ax:=zn ka;have ao:=zn kb;have a3:=zn hfx;have bl:=zn hinv;have b0:(0:Int)≤(k:Int):=lg;have b1:(k:Int)<(n:Int):=lg;clear crd hstp hno hst hbel ka kb hfx hat hinv hab;go_wp2_with fail;refine a2.out.mono ?_;rintro e v1 ⟨rfl,ay⟩;obtain ⟨V1,a4,kX,hbx,hzx⟩:=n8 v1 #[zq zr xk,zq zr xa,zq zr xn,zo xs'] 50;have a5:=ay.trans (hbx.mono ay.size);have ab:=zn a5;have KX:=zn kX;have az:=zn a4;clear ay a4 kX hbx hzx a5 q0 q1 q2 a2;obtain ⟨x0,x1,x2,x3,x4,x5,f0,f1,f2,f3,f4,f5⟩:=(ax.out.onto ab.out).all6;obtain ⟨z0,z1,z2,z3,z4,z5,g0,g1,g2,g3,g4,g5⟩:=(ao.out.onto ab.out).all6;have y0:=KX.out.cell 0 _ rfl;have y1:=KX.out.cell 1 _ rfl;have y2:=KX.out.cell 2 _ rfl;have y3:=KX.out.cell 3 _ rfl;have bm:=ab.out.size;rw [← az.out] at x0 x1 x2 x3 x4 x5 f0 f1 f2 f3 f4 f5 z0 z1 z2 z3 z4 z5 g0 g1 g2 g3 g4 g5 y0 y1 y2 y3;by_cases hxe:xe=0
   ·subst hxe;have cdo:=MG ⟨t2,⟨ma2,ml2,mc2⟩,⟨ua2,ul2,uc2⟩,⟨ra2,rl2,rc2⟩,so2,⟨ga2,gl2,gc2⟩⟩ (w::(w.heap.size+1)::S) V1 (ah.out.later ab.out) (fun i hi=>by have h1:=bg.out i hi;omega) bl.out xk xa xn xs' a3.out.1 a3.out.2;have a6:rx (l7.d ⟨t2,⟨ma2,ml2,mc2⟩,⟨ua2,ul2,uc2⟩,⟨ra2,rl2,rc2⟩,so2,⟨ga2,gl2,gc2⟩⟩) (⟨xk,xa,xn,xs'⟩,0)=yb (l7.d ⟨t2,⟨ma2,ml2,mc2⟩,⟨ua2,ul2,uc2⟩,⟨ra2,rl2,rc2⟩,so2,⟨ga2,gl2,gc2⟩⟩) xk xa xn xs':=rfl;have hst:=ak.out;have hno:=an.out;rw [a6] at hst hno;generalize yb (l7.d ⟨t2,⟨ma2,ml2,mc2⟩,⟨ua2,ul2,uc2⟩,⟨ra2,rl2,rc2⟩,so2,⟨ga2,gl2,gc2⟩⟩) xk xa xn xs'=r at cdo hst hno;obtain ⟨rd,re⟩:=r;simp only at hst hno;have a7:=zn cdo;have be:=zn hst;have bf:=zn hno;clear cdo hst hno a6 ak an;go_wp2_with fail;rw [az.out];refine a7.out.mono ?_;rintro e v2 ⟨⟨t3,⟨ma3,ml3,mc3⟩,⟨ua3,ul3,uc3⟩,⟨ra3,rl3,rc3⟩,so3,⟨ga3,gl3,gc3⟩⟩,rfl,a8,a9,aq⟩;obtain ⟨v,hv,kt,hbv,hzv⟩:=n8 v2 #[zo t3,zk ma3 ml3.length mc3,zk ua3 ul3.length uc3,zk ra3 rl3.length rc3,zp so3,zk ga3 gl3.length gc3] 26;have hx:=ab.out.trans ((aq.trans (hbv.mono aq.size)).mono ab.out.size);have HX:=zn hx;have KT:=zn kt;have RS:=zn (a9.later hbv);have bn:=zn a8;have HV:=zn hv;have ai:=zn (af.out.trans (hx.mono af.out.size));have bo:=zn (zz hzr hx.size);have ba:=zn (ax.out.onto hx);have ar:=zn (ao.out.onto hx);have al:=zn (ah.out.later hx);have bw:=zz bm aq.size;clear hv kt hbv hzv hx a8 a9 aq a7 ax ao ah af x0 x1 x2 x3 x4 x5 f0 f1 f2 f3 f4 f5 z0 z1 z2 z3 z4 z5 g0 g1 g2 g3 g4 g5 y0 y1 y2 y3;obtain ⟨x0,x1,x2,x3,x4,x5,f0,f1,f2,f3,f4,f5⟩:=ba.out.all6;obtain ⟨z0,z1,z2,z3,z4,z5,g0,g1,g2,g3,g4,g5⟩:=ar.out.all6;obtain ⟨c0,c1,c2,c3,c4,c5,-,-,-,-,-,-⟩:=KT.out.all6;rw [← HV.out] at x0 x1 x2 x3 x4 x5 f0 f1 f2 f3 f4 f5 z0 z1 z2 z3 z4 z5 g0 g1 g2 g3 g4 g5 c0 c1 c2 c3 c4 c5;by_cases hre:re=0
    ·subst hre;have bp:=zn (be.out rfl);have n1:w.heap.size≠v2:=lg;clear z0 z1 z2 z3 z4 z5 g0 g1 g2 g3 g4 g5;go_wp2;rw [HV.out];have bq:mm (w::(w.heap.size+1)::S) (zm (zm (zm (zm (zm (zm v ⟨w,0,none⟩ (zo t3)) ⟨w,1,none⟩ (zk ma3 ml3.length mc3)) ⟨w,2,none⟩ (zk ua3 ul3.length uc3)) ⟨w,3,none⟩ (zk ra3 rl3.length rc3)) ⟨w,4,none⟩ (zp so3)) ⟨w,5,none⟩ (zk ga3 gl3.length gc3)) ⟨t3,⟨ma3,ml3,mc3⟩,⟨ua3,ul3,uc3⟩,⟨ra3,rl3,rc3⟩,so3,⟨ga3,gl3,gc3⟩⟩:=RS.out.apart (by
      iterate 6 refine lx.setCell ?_ (.inl li) _
      exact lx.refl _ _)
     have kb5:l6 (zm (zm (zm (zm (zm (zm v ⟨w,0,none⟩ (zo t3)) ⟨w,1,none⟩ (zk ma3 ml3.length mc3)) ⟨w,2,none⟩ (zk ua3 ul3.length uc3)) ⟨w,3,none⟩ (zk ra3 rl3.length rc3)) ⟨w,4,none⟩ (zp so3)) ⟨w,5,none⟩ (zk ga3 gl3.length gc3)) (w+1) #[zo ⟨#[]⟩,zk none 0 0,zk none 0 0,zk none 0 0,zp false,zk none 0 0] 26:=by
      iterate 6 refine (Below.heap_setCell _ _ _ _ (by dsimp only;omega)).trans ?_
      exact ar.out
     have br:Below w w (zm (zm (zm (zm (zm (zm v ⟨w,0,none⟩ (zo t3)) ⟨w,1,none⟩ (zk ma3 ml3.length mc3)) ⟨w,2,none⟩ (zk ua3 ul3.length uc3)) ⟨w,3,none⟩ (zk ra3 rl3.length rc3)) ⟨w,4,none⟩ (zp so3)) ⟨w,5,none⟩ (zk ga3 gl3.length gc3)):=by
      iterate 6 refine Ae ?_ (by dsimp only;omega) _
      exact ai.out
     have bs:W.heap.size≤(zm (zm (zm (zm (zm (zm v ⟨w,0,none⟩ (zo t3)) ⟨w,1,none⟩ (zk ma3 ml3.length mc3)) ⟨w,2,none⟩ (zk ua3 ul3.length uc3)) ⟨w,3,none⟩ (zk ra3 rl3.length rc3)) ⟨w,4,none⟩ (zp so3)) ⟨w,5,none⟩ (zk ga3 gl3.length gc3)):=by
      iterate 6 rw [World.size_setCell]
      exact bo.out
     go_roundw
     case rel=>exact ⟨k+1,⟨t3,⟨ma3,ml3,mc3⟩,⟨ua3,ul3,uc3⟩,⟨ra3,rl3,rc3⟩,so3,⟨ga3,gl3,gc3⟩⟩,lg,by go_num,(((((ba.out.set 0 _).set 1 _).set 2 _).set 3 _).set 4 _).set 5 _,kb5,bq,(show l7.d ⟨t3,⟨ma3,ml3,mc3⟩,⟨ua3,ul3,uc3⟩,⟨ra3,rl3,rc3⟩,so3,⟨ga3,gl3,gc3⟩⟩=rd from bn.out) ▸ bp.out,br,bs⟩
     case measure=>simp [intOf];omega
    ·have hrun:=bf.out hre;have e1:(re != 0)=true:=by simp [hre]
     have hk:=ar.out;have bu:=HV;have kF:l6 (zm (zm (zm (zm (zm (zm v ⟨w+1,0,none⟩ (zo t2)) ⟨w+1,1,none⟩ (zk ma2 ml2.length mc2)) ⟨w+1,2,none⟩ (zk ua2 ul2.length uc2)) ⟨w+1,3,none⟩ (zk ra2 rl2.length rc2)) ⟨w+1,4,none⟩ (zp so2)) ⟨w+1,5,none⟩ (zk ga2 gl2.length gc2)) (w+1) #[zo t2,zk ma2 ml2.length mc2,zk ua2 ul2.length uc2,zk ra2 rl2.length rc2,zp so2,zk ga2 gl2.length gc2] 26:=(((((hk.set 0 _).set 1 _).set 2 _).set 3 _).set 4 _).set 5 _;have ac:Below w w (zm (zm (zm (zm (zm (zm v ⟨w+1,0,none⟩ (zo t2)) ⟨w+1,1,none⟩ (zk ma2 ml2.length mc2)) ⟨w+1,2,none⟩ (zk ua2 ul2.length uc2)) ⟨w+1,3,none⟩ (zk ra2 rl2.length rc2)) ⟨w+1,4,none⟩ (zp so2)) ⟨w+1,5,none⟩ (zk ga2 gl2.length gc2)):=by
      iterate 6 refine Ae ?_ (by dsimp only;omega) _
      exact ai.out
     have ae:mm (w::(w.heap.size+1)::S) (zm (zm (zm (zm (zm (zm v ⟨w+1,0,none⟩ (zo t2)) ⟨w+1,1,none⟩ (zk ma2 ml2.length mc2)) ⟨w+1,2,none⟩ (zk ua2 ul2.length uc2)) ⟨w+1,3,none⟩ (zk ra2 rl2.length rc2)) ⟨w+1,4,none⟩ (zp so2)) ⟨w+1,5,none⟩ (zk ga2 gl2.length gc2)) ⟨t2,⟨ma2,ml2,mc2⟩,⟨ua2,ul2,uc2⟩,⟨ra2,rl2,rc2⟩,so2,⟨ga2,gl2,gc2⟩⟩:=mm.apart (S:=w.heap.size::(w.heap.size+1)::S) (w:=v) al.out (by
      iterate 6 refine lx.setCell ?_ (.inl li) _
      exact lx.refl _ _)
     have HF:=zn (show p9 S w (qm s.d xs) (Ad (zu #[zv #[zo t2,zk ma2 ml2.length mc2,zk ua2 ul2.length uc2,zk ra2 rl2.length rc2,zp so2,zk ga2 gl2.length gc2],zq zr k,zq zr re])) (zm (zm (zm (zm (zm (zm v ⟨w+1,0,none⟩ (zo t2)) ⟨w+1,1,none⟩ (zk ma2 ml2.length mc2)) ⟨w+1,2,none⟩ (zk ua2 ul2.length uc2)) ⟨w+1,3,none⟩ (zk ra2 rl2.length rc2)) ⟨w+1,4,none⟩ (zp so2)) ⟨w+1,5,none⟩ (zk ga2 gl2.length gc2)) from by
      rw [hrun];exact ⟨⟨t2,⟨ma2,ml2,mc2⟩,⟨ua2,ul2,uc2⟩,⟨ra2,rl2,rc2⟩,so2,⟨ga2,gl2,gc2⟩⟩,rfl,rfl,ae.wide (fun i hi=>.inl (zx _ (zx _ hi))),ac⟩)
     obtain ⟨V7,aa⟩:∃ V7,zm (zm (zm (zm (zm (zm v ⟨w+1,0,none⟩ (zo t2)) ⟨w+1,1,none⟩ (zk ma2 ml2.length mc2)) ⟨w+1,2,none⟩ (zk ua2 ul2.length uc2)) ⟨w+1,3,none⟩ (zk ra2 rl2.length rc2)) ⟨w+1,4,none⟩ (zp so2)) ⟨w+1,5,none⟩ (zk ga2 gl2.length gc2)=V7:=⟨_,rfl⟩;rw [aa] at kF HF;rw [← HV.out] at aa;have aj:=zn aa;clear ac ae aa bu ar;go_wp2;rw [aj.out];clear c0 c1 c2 c3 c4 c5 x0 x1 x2 x3 x4 x5 f0 f1 f2 f3 f4 f5 z0 z1 z2 z3 z4 z5 g0 g1 g2 g3 g4 g5;obtain ⟨x0,x1,x2,x3,x4,x5,-,-,-,-,-,-⟩:=kF.all6;exact Aa (v:=zu #[zv #[zo t2,zk ma2 ml2.length mc2,zk ua2 ul2.length uc2,zk ra2 rl2.length rc2,zp so2,zk ga2 gl2.length gc2],zq zr k,zq zr re]) (by simp [Af,results14,go_sem,x0,x1,x2,x3,x4,x5]) rfl HF.out
   ·have e1:(xe != 0)=true:=by simp [hxe]
    have au:rx (l7.d ⟨t2,⟨ma2,ml2,mc2⟩,⟨ua2,ul2,uc2⟩,⟨ra2,rl2,rc2⟩,so2,⟨ga2,gl2,gc2⟩⟩) (⟨xk,xa,xn,xs'⟩,xe)=(l7.d ⟨t2,⟨ma2,ml2,mc2⟩,⟨ua2,ul2,uc2⟩,⟨ra2,rl2,rc2⟩,so2,⟨ga2,gl2,gc2⟩⟩,xe):=if_neg hxe;have hno:=an.out;rw [au] at hno;have hrun:=hno hxe;have hk:=ao.out.onto ab.out;have ai:=zn (af.out.trans (ab.out.mono af.out.size));have al:=zn (ah.out.later ab.out);clear y0 y1 y2 y3 hno au ak an;have kF:l6 (zm (zm (zm (zm (zm (zm V1 ⟨w+1,0,none⟩ (zo t2)) ⟨w+1,1,none⟩ (zk ma2 ml2.length mc2)) ⟨w+1,2,none⟩ (zk ua2 ul2.length uc2)) ⟨w+1,3,none⟩ (zk ra2 rl2.length rc2)) ⟨w+1,4,none⟩ (zp so2)) ⟨w+1,5,none⟩ (zk ga2 gl2.length gc2)) (w+1) #[zo t2,zk ma2 ml2.length mc2,zk ua2 ul2.length uc2,zk ra2 rl2.length rc2,zp so2,zk ga2 gl2.length gc2] 26:=(((((hk.set 0 _).set 1 _).set 2 _).set 3 _).set 4 _).set 5 _;have ac:Below w w (zm (zm (zm (zm (zm (zm V1 ⟨w+1,0,none⟩ (zo t2)) ⟨w+1,1,none⟩ (zk ma2 ml2.length mc2)) ⟨w+1,2,none⟩ (zk ua2 ul2.length uc2)) ⟨w+1,3,none⟩ (zk ra2 rl2.length rc2)) ⟨w+1,4,none⟩ (zp so2)) ⟨w+1,5,none⟩ (zk ga2 gl2.length gc2)):=by
     iterate 6 refine Ae ?_ (by dsimp only;omega) _
     exact ai.out
    have ae:mm (w::(w.heap.size+1)::S) (zm (zm (zm (zm (zm (zm V1 ⟨w+1,0,none⟩ (zo t2)) ⟨w+1,1,none⟩ (zk ma2 ml2.length mc2)) ⟨w+1,2,none⟩ (zk ua2 ul2.length uc2)) ⟨w+1,3,none⟩ (zk ra2 rl2.length rc2)) ⟨w+1,4,none⟩ (zp so2)) ⟨w+1,5,none⟩ (zk ga2 gl2.length gc2)) ⟨t2,⟨ma2,ml2,mc2⟩,⟨ua2,ul2,uc2⟩,⟨ra2,rl2,rc2⟩,so2,⟨ga2,gl2,gc2⟩⟩:=mm.apart (S:=w.heap.size::(w.heap.size+1)::S) (w:=V1) al.out (by
     iterate 6 refine lx.setCell ?_ (.inl li) _
     exact lx.refl _ _)
    have HF:=zn (show p9 S w (qm s.d xs) (Ad (zu #[zv #[zo t2,zk ma2 ml2.length mc2,zk ua2 ul2.length uc2,zk ra2 rl2.length rc2,zp so2,zk ga2 gl2.length gc2],zq zr k,zq zr xe])) (zm (zm (zm (zm (zm (zm V1 ⟨w+1,0,none⟩ (zo t2)) ⟨w+1,1,none⟩ (zk ma2 ml2.length mc2)) ⟨w+1,2,none⟩ (zk ua2 ul2.length uc2)) ⟨w+1,3,none⟩ (zk ra2 rl2.length rc2)) ⟨w+1,4,none⟩ (zp so2)) ⟨w+1,5,none⟩ (zk ga2 gl2.length gc2)) from by
     rw [hrun];exact ⟨⟨t2,⟨ma2,ml2,mc2⟩,⟨ua2,ul2,uc2⟩,⟨ra2,rl2,rc2⟩,so2,⟨ga2,gl2,gc2⟩⟩,rfl,rfl,ae.wide (fun i hi=>.inl (zx _ (zx _ hi))),ac⟩)
    obtain ⟨V7,aa⟩:∃ V7,zm (zm (zm (zm (zm (zm V1 ⟨w+1,0,none⟩ (zo t2)) ⟨w+1,1,none⟩ (zk ma2 ml2.length mc2)) ⟨w+1,2,none⟩ (zk ua2 ul2.length uc2)) ⟨w+1,3,none⟩ (zk ra2 rl2.length rc2)) ⟨w+1,4,none⟩ (zp so2)) ⟨w+1,5,none⟩ (zk ga2 gl2.length gc2)=V7:=⟨_,rfl⟩;rw [aa] at kF HF;rw [← az.out] at aa;have aj:=zn aa;clear ac ae aa;go_wp2;rw [aj.out];clear x0 x1 x2 x3 x4 x5 f0 f1 f2 f3 f4 f5 z0 z1 z2 z3 z4 z5 g0 g1 g2 g3 g4 g5;obtain ⟨x0,x1,x2,x3,x4,x5,-,-,-,-,-,-⟩:=kF.all6;exact Aa (v:=zu #[zv #[zo t2,zk ma2 ml2.length mc2,zk ua2 ul2.length uc2,zk ra2 rl2.length rc2,zp so2,zk ga2 gl2.length gc2],zq zr k,zq zr xe]) (by simp [Af,results14,go_sem,x0,x1,x2,x3,x4,x5]) rfl HF.out
  ·obtain rfl:k=n:=lg;obtain ⟨x0,x1,x2,x3,x4,x5,f0,f1,f2,f3,f4,f5⟩:=ka.all6;obtain ⟨z0,z1,z2,z3,z4,z5,g0,g1,g2,g3,g4,g5⟩:=kb.all6;have hrun:=hat.done aw.out.symm;have kF:l6 (zm (zm (zm (zm (zm (zm wr ⟨w+1,0,none⟩ (zo t2)) ⟨w+1,1,none⟩ (zk ma2 ml2.length mc2)) ⟨w+1,2,none⟩ (zk ua2 ul2.length uc2)) ⟨w+1,3,none⟩ (zk ra2 rl2.length rc2)) ⟨w+1,4,none⟩ (zp so2)) ⟨w+1,5,none⟩ (zk ga2 gl2.length gc2)) (w+1) #[zo t2,zk ma2 ml2.length mc2,zk ua2 ul2.length uc2,zk ra2 rl2.length rc2,zp so2,zk ga2 gl2.length gc2] 26:=(((((kb.set 0 _).set 1 _).set 2 _).set 3 _).set 4 _).set 5 _;have ac:Below w w (zm (zm (zm (zm (zm (zm wr ⟨w+1,0,none⟩ (zo t2)) ⟨w+1,1,none⟩ (zk ma2 ml2.length mc2)) ⟨w+1,2,none⟩ (zk ua2 ul2.length uc2)) ⟨w+1,3,none⟩ (zk ra2 rl2.length rc2)) ⟨w+1,4,none⟩ (zp so2)) ⟨w+1,5,none⟩ (zk ga2 gl2.length gc2)):=by
    iterate 6 refine Ae ?_ (by dsimp only;omega) _
    exact hbel
   have ae:mm (w::(w.heap.size+1)::S) (zm (zm (zm (zm (zm (zm wr ⟨w+1,0,none⟩ (zo t2)) ⟨w+1,1,none⟩ (zk ma2 ml2.length mc2)) ⟨w+1,2,none⟩ (zk ua2 ul2.length uc2)) ⟨w+1,3,none⟩ (zk ra2 rl2.length rc2)) ⟨w+1,4,none⟩ (zp so2)) ⟨w+1,5,none⟩ (zk ga2 gl2.length gc2)) ⟨t2,⟨ma2,ml2,mc2⟩,⟨ua2,ul2,uc2⟩,⟨ra2,rl2,rc2⟩,so2,⟨ga2,gl2,gc2⟩⟩:=mm.apart (S:=w.heap.size::(w.heap.size+1)::S) (w:=wr) hst (by
    iterate 6 refine lx.setCell ?_ (.inl li) _
    exact lx.refl _ _)
   have HF:=zn (show p9 S w (qm s.d xs) (Ad (zu #[zv #[zo t2,zk ma2 ml2.length mc2,zk ua2 ul2.length uc2,zk ra2 rl2.length rc2,zp so2,zk ga2 gl2.length gc2],zq zr k,zq zr 0])) (zm (zm (zm (zm (zm (zm wr ⟨w+1,0,none⟩ (zo t2)) ⟨w+1,1,none⟩ (zk ma2 ml2.length mc2)) ⟨w+1,2,none⟩ (zk ua2 ul2.length uc2)) ⟨w+1,3,none⟩ (zk ra2 rl2.length rc2)) ⟨w+1,4,none⟩ (zp so2)) ⟨w+1,5,none⟩ (zk ga2 gl2.length gc2)) from by
    rw [hrun];exact ⟨⟨t2,⟨ma2,ml2,mc2⟩,⟨ua2,ul2,uc2⟩,⟨ra2,rl2,rc2⟩,so2,⟨ga2,gl2,gc2⟩⟩,rfl,rfl,ae.wide (fun i hi=>.inl (zx _ (zx _ hi))),ac⟩)
   obtain ⟨V7,aa⟩:∃ V7,zm (zm (zm (zm (zm (zm wr ⟨w+1,0,none⟩ (zo t2)) ⟨w+1,1,none⟩ (zk ma2 ml2.length mc2)) ⟨w+1,2,none⟩ (zk ua2 ul2.length uc2)) ⟨w+1,3,none⟩ (zk ra2 rl2.length rc2)) ⟨w+1,4,none⟩ (zp so2)) ⟨w+1,5,none⟩ (zk ga2 gl2.length gc2)=V7:=⟨_,rfl⟩;rw [aa] at kF HF;have aj:=zn aa;clear ac ae aa;clear hst hat ka kb hbel;go_wp2;rw [aj.out];clear x0 x1 x2 x3 x4 x5 f0 f1 f2 f3 f4 f5 z0 z1 z2 z3 z4 z5 g0 g1 g2 g3 g4 g5;obtain ⟨x0,x1,x2,x3,x4,x5,-,-,-,-,-,-⟩:=kF.all6;exact Aa (v:=zu #[zv #[zo t2,zk ma2 ml2.length mc2,zk ua2 ul2.length uc2,zk ra2 rl2.length rc2,zp so2,zk ga2 gl2.length gc2],zq zr k,zq zr 0]) (by simp [Af,results14,go_sem,x0,x1,x2,x3,x4,x5]) rfl HF.out
theorem uI (s:l7) (l:List vq) (a:Option zy) (c n:Nat) (S:List Nat) (w:zt) (hS:qg S w) (hin:mm S w s) (hz:tg s) (hr:sd w (·<w) a l) (hn:l.length=n) (hnz:n≤1000000) (hd:∀ x∈l,x.data.size≤4294967296) (hf:∀ x∈l,oi (vp x).1.a∧(vp x).1.s.size≤1000000) :
 Ab prog 14 #[s.v,zk a n c] w (p9 S w (se s (s9 l))):=by
 unfold se;split
 ·exact uO s l a c n S w hS hin hz ln hr hn hnz hd hf
 ·exact vS s a c n S w hin.in hz (by simpa using (by assumption:¬ pz s=true))
end Go.Proofs.YtbagenpobcgjnaaGreat
