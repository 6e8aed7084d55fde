/-
  Joined: OpenSta2, OpenSta4, RplRead, RplParts.
-/
import Derived.Test.YtbagenpobcgjnaaGreatOpenSta
import Derived.SizedLaws
import Derived.Test.YtbagenpobcgjnaaGreatJSq
import Derived.Test.YtbagenpobcgjnaaGreatJEdrDev5
import Derived.Test.YtbagenpobcgjnaaGreatJOpBytes
import Derived.Test.YtbagenpobcgjnaaGreatJMrk
import Derived.Test.YtbagenpobcgjnaaGreatJOpRef
namespace Go.Proofs.YtbagenpobcgjnaaGreat
open Go.RowKit Go.ChangeShapes Go.WideShapes Go.Deep
set_option linter.unusedVariables false
section
variable {H : Type} {P : Program}
end
end Go.Proofs.YtbagenpobcgjnaaGreat
namespace Go.Proofs.YtbagenpobcgjnaaGreat
open Go.Proofs.Tryz
set_option maxRecDepth 100000
open Lib (hid)
open Go.RowKit
set_option linter.unusedVariables false
set_option linter.unusedSimpArgs false
attribute [local go_sem] Oper.semAt_some
def frmO (x:Frm):Opr×Int:=(⟨(readR x.data).k,(readR x.data).a,(readR x.data).n,(readR x.data).s⟩,(readR x.data).e)
def frmX (l:List Frm):List (Opr×Int):=l.map frmO
theorem sI (l:List Frm):(frmX l).length=l.length:=by unfold frmX;simp
theorem LH (l:List Frm) (k:Nat) (h:k<(frmX l).length):(frmX l)[k]=frmO (l[k]'(by rw [sI] at h;exact h)):=List.getElem_map _
theorem kM {lo:Nat} {S:List Nat} {A B:World} {a:Option Addr} {l:List Frm} (h:Frms A (·<lo) a l) (hlo:lo≤A.heap.size) (hS:∀ x∈S,lo≤x) (hm:Apart S A B):Frms B (·<lo) a l:=h.keep fun p hp=>hm.cell (by omega) (fun g=>by have:=hS _ g;omega)
set_option maxHeartbeats 1600000 in
theorem NH (l:List Frm) (a:Option Addr) (c n:Nat) {lo bl:Nat} {w:World} (hr:Frms w (·<lo) a l) (hn:l.length=n) (hbx:Boxed w bl 36 (.slice a n c)) (hb0:bl<lo) (hlo:lo≤w.heap.size) (hz:n≤1000000) (hd:∀ x∈l,x.data.size≤4294967296) :
 OpsIt 51 #[.pointer (some ⟨bl,0,none⟩)] (frmX l) lo w:=by
 intro W m lp S hW hS J Jx hJ hJx hY h0
 have hrW:=hr.below (N:=lo) (fun _ h=>h) hW
 have hbW:Boxed W bl 36 (.slice a n c):=(hW.block bl hb0).trans hbx
 have q0:=hbW.cell
 have hsz:=hW.size
 have hlen:=sI l
 have an:=hid hrW;have HY:=hid hY;have HJ:=hid hJ;have HN:=hid hn;have HS:=hid hS;have H0:=hid h0;have aa:=hid hlen;have HD:=hid hd
 clear hr hbx hrW hbW hY hJ hn hS h0 hJx hW hlen hd
 refine callsIn_of_wp func51 rfl trivial ?_ rfl
 simp only [ntmps51,List.size_toArray,List.length_cons,List.length_nil,Nat.reduceAdd,Nat.reduceSub,Array.replicate_succ,Array.replicate_zero,List.push_toArray,List.append_toArray,List.nil_append,List.cons_append]
 gi_wp2
 gi_loopw [7] (fun i wr=>∃ k:Nat,i=.int .i64 k∧k≤n∧J k wr∧W.heap.size≤wr.heap.size∧Frms wr (·<lo) a l) (fun i _=>n - (intOf i).toNat)
 case atStart=>exact ⟨0,rfl,Nat.zero_le _,H0.out,Nat.le_refl _,an.out⟩
 case round =>
  obtain ⟨k,rfl,hk,hj,hs,ho⟩:=hrel
  by_cases hlt:k<n
  ·have hkl:k<l.length:=by rw [HN.out];exact hlt
   obtain ⟨ad,rfl,hab,q0,q1,q2⟩:=ho k hkl
   have hbx:=below1 wr (.cells #[.int .i64 l[k].ep,.int .i64 l[k].sq,.string l[k].data] 38)
   have hx:(frmX l)[k]'(by rw [aa.out];exact hkl)=frmO l[k]:=LH l k _
   have cr:=vE l[k].data (HD.out _ (List.getElem_mem hkl)) (wr.alloc (.cells #[.int .i64 l[k].ep,.int .i64 l[k].sq,.string l[k].data] 38))
   have hy:=fun A=>HY.out k (frmO l[k]) (k+1) A ⟨by rw [aa.out];exact hkl,hx.symm,rfl⟩
   have ab:=HJ.out _ _ _ hj hbx
   have ac:=kM (S:=[]) ho (by omega) (by simp) (.of_below hbx)
   have ae:=Nat.le_trans hs hbx.size
   unfold frmO at hy
   generalize l[k]=x at q0 q1 q2 cr hy ab ac ae
   obtain ⟨xe,xq,xd⟩:=x
   simp only at q0 q1 q2 cr hy ab ac ae
   unfold rdV at cr
   generalize readR xd=r at cr hy
   obtain ⟨rk,ra,rn,rs,re⟩:=r
   simp only at cr hy
   have b0:(0:Int)≤(k:Int):=by omega
   have b1:(k:Int)<(n:Int):=by omega
   have CR:=hid cr;have ai:=hid hy;have aj:=hid ab;have HO:=hid ac;have ag:=hid ae
   clear cr hy ho hj hbx hx hab ab ac ae
   gi_wp2_with fail
   refine ⟨trivial,fun e=>(by cases e),(callsIn_wide.2 CR.out).mono ?_⟩
   rintro e V ⟨rfl,hbV⟩
   have hy:=ai.out V (HJ.out _ _ _ aj.out hbV)
   obtain ⟨fn,tmps,assign,body,hyr,hR⟩:=dD hy
   have HR:=hid hR;have ak:=hid (kM (S:=[]) HO.out (Nat.le_trans (Nat.le_trans hlo hsz) ag.out) (by simp) (.of_below hbV));have al:=hid (Nat.le_trans ag.out hbV.size)
   clear hy hR hbV ai aj HO ag CR q0 q1 q2
   gi_wp2_with fail
   refine ⟨fun e=>(by cases e),(HR.out none _).mono ?_⟩
   rintro e W4 (⟨rfl,am,af⟩|⟨rfl,ao,af⟩)
   ·have ah:=hid am;have aq:=hid (Nat.le_trans al.out af.apart.size)
    have ar:=hid (kM ak.out (Nat.le_trans (Nat.le_trans hlo hsz) al.out) HS.out af.apart)
    clear am af HR ak
    gi_wp2
    go_roundw
    case rel=>exact ⟨k+1,by go_num,by omega,ah.out,aq.out,ar.out⟩
    case measure=>simp [intOf];omega
   ·gi_wp2
    refine bodyPost_ret (results_none rfl _ _ _) rfl ?_
    exact ⟨⟨_,rfl⟩,.inr ao⟩
  ·obtain rfl:k=n:=by omega
   have ah:=hid hj
   clear hj ho
   gi_wp2
   go_end0
   exact ⟨⟨_,rfl⟩,.inl ⟨by rw [aa.out,HN.out];exact ah.out,trivial⟩⟩
theorem yW (l:List Frm) (a:Option Addr) (c n:Nat) (w:World):Calls prog 26 #[.slice a n c] w fun e w'=>e=.returned (.func (.func 51) #[] #[.pointer (some ⟨w.heap.size,0,none⟩)])∧w'=w.alloc (.cells #[.slice a n c] 36):=by
 have hmf:∀ (fn:Fn) (first cap:Array Value) (w:World),(Instr.makeFunc fn first cap).run prog w=.ok (.func fn first cap) w:=fun _ _ _ _=>rfl
 go_enter func26,ntmps26
 go_wp2
 go_ret
 exact ⟨rfl,rfl⟩
set_option maxHeartbeats 1600000 in
theorem sZ (s:Sta) (l:List Frm) (a:Option Addr) (c n:Nat) (S:List Nat) (w:World) (hS:InS S w) (hin:StaIn w s) (hz:StaZ s) (hr:Frms w (·<w.heap.size) a l) (hn:l.length=n) (hnz:n≤1000000) (hd:∀ x∈l,x.data.size≤4294967296) (hf:∀ x∈l,i64P (frmO x).1.a∧(frmO x).1.s.size≤1000000) :
 Calls prog 13 #[s.v,.slice a n c] w (RetRun S w (runS s (frmX l))):=by
 obtain ⟨W,hW,kA,kB,ab,al⟩:=box2 w s.cs #[.string ⟨#[]⟩,.slice none 0 0,.slice none 0 0,.slice none 0 0,.bool false,.slice none 0 0] 26 26
 have FS:=hid (fun V (hV:Below W.heap.size W V)=>(⟨(kA.onto hV).cell 0 _ rfl,(kA.onto hV).cell 1 _ rfl,(kA.onto hV).cell 2 _ rfl,(kA.onto hV).cell 3 _ rfl,(kA.onto hV).cell 4 _ rfl,(kA.onto hV).cell 5 _ rfl⟩:(fun V:World=>V.cell? ⟨w.heap.size,0,none⟩=some (.string s.t)∧V.cell? ⟨w.heap.size,1,none⟩=some (.slice s.m.a s.m.l.length s.m.c)∧V.cell? ⟨w.heap.size,2,none⟩=some (.slice s.u.a s.u.l.length s.u.c)∧V.cell? ⟨w.heap.size,3,none⟩=some (.slice s.r.a s.r.l.length s.r.c)∧V.cell? ⟨w.heap.size,4,none⟩=some (.bool s.o)∧V.cell? ⟨w.heap.size,5,none⟩=some (.slice s.g.a s.g.l.length s.g.c)) V))
 have ae:=hid (fun V (hV:Below W.heap.size W V) (ao:V.heap.size=W.heap.size+1) (kL:Boxed V W.heap.size 36 (.slice a n c)) =>
  (show Calls prog 19 #[s.v,.func (.func 51) #[] #[.pointer (some ⟨w.heap.size+1+1,0,none⟩)]] V (RetRun ((w.heap.size+1)::S) V (runS s (frmX l))) from by
   rw [← al]
   exact qW s (frmX l) ((w.heap.size+1)::S) V (fun x hx=>by rcases List.mem_cons.1 hx with rfl|hx;omega;have:=hS x hx;omega) (hin.later (ab.trans (hV.mono ab.size))) hz
    (NH l a c n (lo:=V.heap.size) (bl:=W.heap.size) (w:=V) ((hr.below (N:=w.heap.size) (fun _ h=>h) (ab.trans (hV.mono ab.size))).more fun _ h=>by omega) hn kL (by omega) (Nat.le_refl _) hnz hd) (Nat.le_refl _) (enters_of func51 (by kernel_rfl) rfl)
    (fun x hx=>by obtain ⟨y,hy,rfl⟩:=List.mem_map.1 hx;exact hf y hy) (by simp [frmX];omega)))
 have KR:=hid kB;have HW:=hid hW;have af:=hid ab
 clear hW kA kB ab hS hin hz hr hn hf hd
 unfold Sta.v Sta.cs at *
 go_enter func13,ntmps13
 go_wp2_with fail
 rw [HW.out]
 refine wp_region_held_drew (S:=(fun V:World=>V.cell? ⟨w.heap.size,0,none⟩=some (.string s.t)∧V.cell? ⟨w.heap.size,1,none⟩=some (.slice s.m.a s.m.l.length s.m.c)∧V.cell? ⟨w.heap.size,2,none⟩=some (.slice s.u.a s.u.l.length s.u.c)∧V.cell? ⟨w.heap.size,3,none⟩=some (.slice s.r.a s.r.l.length s.r.c)∧V.cell? ⟨w.heap.size,4,none⟩=some (.bool s.o)∧V.cell? ⟨w.heap.size,5,none⟩=some (.slice s.g.a s.g.l.length s.g.c))) (by kernel_rfl) (FS.out _ (Below.refl _ _).drew) (fun hHeld=>?_)
 refine sqt 0 ?_
 refine sqt 1 ?_
 refine sqr 2 fun K hK=>?_
 go_simp
 (go_at_call 26;refine (yW l a c n _).mono ?_;rintro e v1 ⟨rfl,rfl⟩;obtain ⟨V1,ag,kL,hbl,hzl⟩:=box1 (W.drew) #[.slice a n c] 36;have hzd:W.drew.heap.size=W.heap.size:=rfl;rw [ag];have hx:=(Below.refl W.heap.size W).drew.trans hbl;have HX:=hid hx;have HL:=hid (show Boxed V1 W.heap.size _ _ from kL);have CE:=hid (ae.out V1 hx (by omega) kL);clear ag kL hbl hx ae)
 try go_wp2_with fail
 refine hK.out _ _ ?_ (fun hHeld=>?_)
 ·exact FS.out _ HX.out
 clear hK K
 try simp only [Act.put,sqp]
 refine sqr 3 fun K hK=>?_
 go_simp
 (go_at_call 19;refine CE.out.mono ?_;rintro e v2 ⟨⟨t6,⟨ma,ml,mc⟩,⟨ua,ul,uc⟩,⟨ra,rl,rc⟩,so,⟨ga,gl,gc⟩⟩,rfl,ah,ai,aj⟩;have hx:=HX.out.trans (aj.mono HX.out.size);have aa:=hid hx;have am:=hid ai;have an:=hid ah;have K6:=hid (KR.out.onto hx);clear aj hx ai ah CE)
 try go_wp2_with fail
 refine hK.out _ _ ?_ (fun hHeld=>?_)
 ·exact FS.out _ aa.out
 clear hK K
 try simp only [Act.put,sqp]
 obtain ⟨x0,x1,x2,x3,x4,x5,y0,y1,y2,y3,y4,y5⟩:=K6.out.all6
 refine sqt 4 ?_
 refine sqt 5 ?_
 refine sqt 6 ?_
 refine sqr 7 fun K hK=>?_
 go_simp
 skip
 try go_wp2_with fail
 refine hK.out _ _ ?_ (fun hHeld=>?_)
 ·refine ⟨?_,?_,?_,?_,?_,?_⟩
  ·iterate 6 refine aO ?_ (by dsimp only;omega)
   exact (FS.out _ aa.out).1
  ·iterate 6 refine aO ?_ (by dsimp only;omega)
   exact (FS.out _ aa.out).2.1
  ·iterate 6 refine aO ?_ (by dsimp only;omega)
   exact (FS.out _ aa.out).2.2.1
  ·iterate 6 refine aO ?_ (by dsimp only;omega)
   exact (FS.out _ aa.out).2.2.2.1
  ·iterate 6 refine aO ?_ (by dsimp only;omega)
   exact (FS.out _ aa.out).2.2.2.2.1
  ·iterate 6 refine aO ?_ (by dsimp only;omega)
   exact (FS.out _ aa.out).2.2.2.2.2
 clear hK K
 try simp only [Act.put,sqp]
 refine sqt 8 ?_
 refine sqt 9 ?_
 refine wpAnyH_done (by kernel_rfl) ?_ _
 have kF:Blk (World.setCell (World.setCell (World.setCell (World.setCell (World.setCell (World.setCell v2 ⟨w.heap.size+1,0,none⟩ (.string t6)) ⟨w.heap.size+1,1,none⟩ (.slice ma ml.length mc)) ⟨w.heap.size+1,2,none⟩ (.slice ua ul.length uc)) ⟨w.heap.size+1,3,none⟩ (.slice ra rl.length rc)) ⟨w.heap.size+1,4,none⟩ (.bool so)) ⟨w.heap.size+1,5,none⟩ (.slice ga gl.length gc)) (w.heap.size+1) #[.string t6,.slice ma ml.length mc,.slice ua ul.length uc,.slice ra rl.length rc,.bool so,.slice ga gl.length gc] 26:=(((((K6.out.set 0 _).set 1 _).set 2 _).set 3 _).set 4 _).set 5 _
 have ac:Below w.heap.size w (World.setCell (World.setCell (World.setCell (World.setCell (World.setCell (World.setCell v2 ⟨w.heap.size+1,0,none⟩ (.string t6)) ⟨w.heap.size+1,1,none⟩ (.slice ma ml.length mc)) ⟨w.heap.size+1,2,none⟩ (.slice ua ul.length uc)) ⟨w.heap.size+1,3,none⟩ (.slice ra rl.length rc)) ⟨w.heap.size+1,4,none⟩ (.bool so)) ⟨w.heap.size+1,5,none⟩ (.slice ga gl.length gc)):=by
  iterate 6 refine Below.setCell ?_ (by dsimp only;omega) _
  exact af.out.trans (aa.out.mono af.out.size)
 have ad:StaO ((w.heap.size+1)::S) (World.setCell (World.setCell (World.setCell (World.setCell (World.setCell (World.setCell v2 ⟨w.heap.size+1,0,none⟩ (.string t6)) ⟨w.heap.size+1,1,none⟩ (.slice ma ml.length mc)) ⟨w.heap.size+1,2,none⟩ (.slice ua ul.length uc)) ⟨w.heap.size+1,3,none⟩ (.slice ra rl.length rc)) ⟨w.heap.size+1,4,none⟩ (.bool so)) ⟨w.heap.size+1,5,none⟩ (.slice ga gl.length gc)) ⟨t6,⟨ma,ml,mc⟩,⟨ua,ul,uc⟩,⟨ra,rl,rc⟩,so,⟨ga,gl,gc⟩⟩:=am.out.apart (by
  iterate 6 refine Apart.setCell ?_ (.inl (by simp)) _
  exact Apart.refl _ _)
 obtain ⟨V7,ak⟩:∃ V7,World.setCell (World.setCell (World.setCell (World.setCell (World.setCell (World.setCell v2 ⟨w.heap.size+1,0,none⟩ (.string t6)) ⟨w.heap.size+1,1,none⟩ (.slice ma ml.length mc)) ⟨w.heap.size+1,2,none⟩ (.slice ua ul.length uc)) ⟨w.heap.size+1,3,none⟩ (.slice ra rl.length rc)) ⟨w.heap.size+1,4,none⟩ (.bool so)) ⟨w.heap.size+1,5,none⟩ (.slice ga gl.length gc)=V7:=⟨_,rfl⟩
 rw [ak] at kF ac ad ⊢
 have HF:=hid (show RetRun S w (runS s (frmX l)) (.returned (.tuple #[.agg #[.string t6,.slice ma ml.length mc,.slice ua ul.length uc,.slice ra rl.length rc,.bool so,.slice ga gl.length gc],.int .i64 (runS s (frmX l)).2.1,.int .i64 (runS s (frmX l)).2.2])) V7 from ⟨⟨t6,⟨ma,ml,mc⟩,⟨ua,ul,uc⟩,⟨ra,rl,rc⟩,so,⟨ga,gl,gc⟩⟩,rfl,an.out,ad.wide (fun i hi=>.inl (List.mem_cons_of_mem _ hi)),ac⟩)
 clear x0 x1 x2 x3 x4 x5 y0 y1 y2 y3 y4 y5 ak ac ad
 obtain ⟨x0,x1,x2,x3,x4,x5,-,-,-,-,-,-⟩:=kF.all6
 go_wp2
 exact bodyPost_ret (v:=.tuple #[.agg #[.string t6,.slice ma ml.length mc,.slice ua ul.length uc,.slice ra rl.length rc,.bool so,.slice ga gl.length gc],.int .i64 (runS s (frmX l)).2.1,.int .i64 (runS s (frmX l)).2.2]) (by simp [results,results13,go_sem,x0,x1,x2,x3,x4,x5]) rfl HF.out
def cleanO (x:Opr):Opr:=⟨x.k,if 3<x.k then 0 else x.a,if x.k=2 then x.n else 0,if x.k=2∨4<x.k then ⟨#[]⟩ else x.s⟩
theorem JU (s:StaD) (x:Opr):doD s (cleanO x).k (cleanO x).a (cleanO x).n (cleanO x).s=doD s x.k x.a x.n x.s:=by
 obtain ⟨k,a,n,t⟩:=x
 unfold doD cleanO
 simp only
 by_cases h1:k=1
 ·subst h1;rfl
 by_cases h2:k=2
 ·subst h2;rfl
 by_cases h3:k=3
 ·subst h3;rfl
 by_cases h4:k=4
 ·subst h4;rfl
 simp only [if_neg h1,if_neg h2,if_neg h3,if_neg h4]
theorem wC (l:List Opr):∀ s:StaD,runR s (opsL (l.map cleanO))=runR s (opsL l):=by
 induction l with
 | nil=>intro s;rfl
 | cons x t ih =>
  intro s
  have e:stepR s (cleanO x,0)=stepR s (x,0):=JU s x
  unfold opsL at ih ⊢
  simp only [List.map_cons,runR,e,ih]
theorem zI (l:List (Opr×Int)):∀ s:StaD,runR s (l.take (runR s l).2.1)=((runR s l).1,(runR s l).2.1,0):=by
 induction l with
 | nil=>intro s;rfl
 | cons x t ih =>
  intro s
  by_cases h:(stepR s x).2=0
  ·simp only [runR,if_pos h,List.take_succ_cons,ih]
  ·simp only [runR,if_neg h,List.take_zero]
theorem nR (l:List (Opr×Int)):∀ s:StaD,(runR s l).2.1≤l.length:=by
 induction l with
 | nil=>intro s;exact Nat.le_refl _
 | cons x t ih =>
  intro s
  by_cases h:(stepR s x).2=0
  ·simp only [runR,if_pos h,List.length_cons];exact Nat.succ_le_succ (ih _)
  ·simp only [runR,if_neg h];exact Nat.zero_le _
set_option maxHeartbeats 1600000 in
theorem AV (x:Opr) (w:World):Calls prog 18 #[.agg #[.int .i64 x.k,.int .i64 x.a,.int .i64 x.n,.string x.s]] w fun e w'=>e=.returned (.agg #[.int .i64 (cleanO x).k,.int .i64 (cleanO x).a,.int .i64 (cleanO x).n,.string (cleanO x).s])∧Below w.heap.size w w':=by
 obtain ⟨k,a,n,t⟩:=x
 obtain ⟨c,hc⟩:∃ c,cleanO ⟨k,a,n,t⟩=c:=⟨_,rfl⟩
 obtain ⟨ck,ca,cn,cs⟩:=c
 rw [hc]
 unfold cleanO at hc
 simp only at hc
 injection hc with e1 e2 e3 e4
 simp only
 subst e1
 by_cases h2:k=2
 ·subst h2
  obtain rfl:a=ca:=e2
  obtain rfl:n=cn:=e3
  obtain rfl:(⟨#[]⟩:ByteArray)=cs:=e4
  go_enter func18,ntmps18
  go_wp2
  exact bodyPost_ret (v:=.agg #[.int .i64 2,.int .i64 a,.int .i64 n,.string ⟨#[]⟩]) (by simp [results,results18,go_sem,World.cell?_alloc_new]) rfl ⟨rfl,below2 _ _ _⟩
 ·have g2:(k != 2)=true:=by simp [h2]
  have g2':(k == 2)=false:=by simp [h2]
  obtain rfl:0=cn:=by rw [if_neg h2] at e3;exact e3
  by_cases h3:3<k
  ·obtain rfl:0=ca:=by rw [if_pos h3] at e2;exact e2
   by_cases h4:4<k
   ·obtain rfl:(⟨#[]⟩:ByteArray)=cs:=by rw [if_pos (.inr h4)] at e4;exact e4
    go_enter func18,ntmps18
    go_wp2
    exact bodyPost_ret (v:=.agg #[.int .i64 k,.int .i64 0,.int .i64 0,.string ⟨#[]⟩]) (by simp [results,results18,go_sem,World.cell?_alloc_new]) rfl ⟨rfl,below2 _ _ _⟩
   ·obtain rfl:t=cs:=by rw [if_neg (fun h=>h.elim h2 h4)] at e4;exact e4
    go_enter func18,ntmps18
    go_wp2
    exact bodyPost_ret (v:=.agg #[.int .i64 k,.int .i64 0,.int .i64 0,.string t]) (by simp [results,results18,go_sem,World.cell?_alloc_new]) rfl ⟨rfl,below2 _ _ _⟩
  ·obtain rfl:a=ca:=by rw [if_neg h3] at e2;exact e2
   obtain rfl:t=cs:=by rw [if_neg (fun h=>h.elim h2 (by omega))] at e4;exact e4
   have h4:¬ 4<k:=by omega
   go_enter func18,ntmps18
   go_wp2
   exact bodyPost_ret (v:=.agg #[.int .i64 k,.int .i64 a,.int .i64 0,.string t]) (by simp [results,results18,go_sem,World.cell?_alloc_new]) rfl ⟨rfl,below2 _ _ _⟩
def bytC (x:Opr):ByteArray×Int:=bytesR (cleanO x).k (cleanO x).a (cleanO x).n (cleanO x).s
def frmC (x:Opr):Frm:=⟨0,0,(bytC x).1⟩
theorem jI (x:Opr):(cleanO x).s.size≤x.s.size:=by
 unfold cleanO
 simp only
 split
 ·exact Nat.zero_le _
 ·exact Nat.le_refl _
theorem rL (x:Opr):(bytC x).1.size≤x.s.size+9:=by
 unfold bytC bytesR
 split
 ·have h:∀ l:List UInt8,(⟨l.toArray⟩:ByteArray).size=l.length:=fun l=>by show l.toArray.size=l.length;simp
  rw [h]
  have h2:=jI x
  have h3:(cleanO x).s.data.toList.length=(cleanO x).s.size:=by simp
  unfold bodyL
  simp only [List.length_cons,List.length_append]
  split <;> split <;> simp only [aZ,List.length_nil] <;> omega
 ·exact Nat.zero_le _
theorem qM {x:Opr} (h:(bytC x).2=0):frmO (frmC x)=(cleanO x,0):=by
 unfold bytC bytesR at h
 split at h
 ·rename_i hr
  have e:(bytC x).1=⟨(bodyL (cleanO x).k (cleanO x).a (cleanO x).n (cleanO x).s.data.toList).toArray⟩:=by unfold bytC bytesR;rw [if_pos hr]
  unfold frmO frmC
  rw [show (⟨0,0,(bytC x).1⟩:Frm).data=_ from e,NL hr]
 ·cases h
theorem GA (l:List Opr) (h:∀ x∈l,(bytC x).2=0):frmX (l.map frmC)=opsL (l.map cleanO):=by
 unfold frmX opsL
 rw [List.map_map,List.map_map]
 exact List.map_congr_left fun x hx=>qM (h x hx)
theorem DK {x:Opr} (h:i64P x.a):i64P (cleanO x).a:=by
 unfold cleanO
 simp only
 split
 ·unfold i64P;omega
 ·exact h
end Go.Proofs.YtbagenpobcgjnaaGreat
