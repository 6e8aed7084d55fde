/-
  Joined: StaRight, StaRight2, StaRef2, StaRef3, StaCopy, StaCopy2, StaFew, StaSame3.
-/
import Derived.Test.YtbagenpobcgjnaaGreatJStaSize
import Derived.Test.YtbagenpobcgjnaaGreatJMarkDev
import Derived.Test.YtbagenpobcgjnaaGreatJKnotRef
open Bool renaming and_assoc->Al,and_comm->Aj,and_eq_true->Ai,and_left_comm->Ak,false_and->zm,true_and->zk
open Go renaming Boxed->zn,Calls->zi,Value->zq,World->ze,maxLen->zf
open Go.Boxed renaming cell->Ad,frozen->Ae,new->Ag,set->Af
open Go.Ending renaming returned->zp
open Go.Lib renaming hid->yw
open Go.Obj renaming cells->zd
open Go.RowKit renaming Below->yz,intOf->zu
open Go.RowKit.Below renaming refl->zo
open Go.Value renaming bool->yy,int->zs,pointer->zj,slice->yv,string->yx
open Go.World renaming cell?_alloc_new->zr,ownsRow_nil->Am,size_alloc->zx,size_setCell->zh
open List renaming getElem_mem->Aa,length_append->An,map_append->Ap,mem_singleton->zy,sum_append->Aq,take_length->Ar
open Nat renaming le_refl->zg,le_trans->zv,lt_succ_self->zw,sub_self->Ao,zero_le->zz
variable {r0:Bool} {below:ByteArray} {base:Nat} {W w:Go.World}
namespace Go.Proofs.YtbagenpobcgjnaaGreat
open Go.Proofs.Tryz
set_option maxRecDepth 100000
open Lib (hid)
open Go.RowKit
set_option linter.unusedVariables false
set_option linter.unusedSimpArgs false
def yi (t:ByteArray):Bool:=decide (t.size≤4096) && oa t.data.toList
theorem yG (t:ByteArray) (ht:t.size≤zf) (w:ze):zi prog 84 #[yx t] w fun e w'=>e=zp (yy (yi t))∧yz w w w':=by
 have cv:=eC t ht;unfold yi;obtain ⟨v,hv⟩:∃ v,oa t.data.toList=v:=⟨_,rfl⟩;rw [hv] at cv ⊢;have CV:=yw cv;clear cv hv ht;by_cases h:t.size≤4096
 ·have g:(t.size:Int)≤4096:=lf;rw [decide_eq_true h,zk];go_enter func84,ntmps84;go_wp2_with (first|(go_at_call 105;refine (CV.out _).mono ?_;rintro e w1 ⟨rfl,aa⟩));go_ret;exact ⟨rfl,aa⟩
 ·have g:(4096:Int)<(t.size:Int):=lf;rw [decide_eq_false h,zm];go_enter func84,ntmps84;go_wp2;go_ret;exact ⟨rfl,by first|exact zo _ _|exact (zo _ _).drew⟩
def vd (s:lz) (below:ByteArray):Bool:=mr me below (mf s.u.l) && s.edits.all pb
set_option maxHeartbeats 1600000 in
theorem BV (s:lz) (below:ByteArray) (r0:Bool) (b N:Nat) (u:FrameMode) (w:ze) (hin:n9 w s) (hN:N≤b) (h0:zn w (b+1) 4 (yy r0)) (h1:zn w (b+2) 9 (yx below))
 (h2:tw b (yx s.t) (yv s.m.a s.m.l.length s.m.c) (yv s.u.a s.u.l.length s.u.c) (yv s.r.a s.r.l.length s.r.c) (yy s.o) (yv s.g.a s.g.l.length s.g.c) w)
 (ht:below.size≤140737488355328) (hu:s.u.l.length≤100) (hr:s.r.l.length≤100) (hz:∀ x∈s.rows,x.l.length≤100000∧sc x.l 140737488355328) :
 CallsD prog 81 #[zj (some ⟨b+1,0,none⟩),zj (some ⟨b+2,0,none⟩),zj (some ⟨b,0,none⟩)] u w fun e u' w'=>u'=u∧e=zp (.tuple #[])∧zn w' (b+1) 4 (yy (r0 && vd s below))∧yz N w w':=by
 have cu:=AU below s.u.a s.u.l s.u.c w hin.u ht lf (fun x hx=>hz x (by unfold lz.rows;simp [hx]));have ce:=fun W (hW:yz w w W)=>vX s W (hin.later hW) hu hr (fun x hx=>zv (hz x hx).1 li);have hNz:N≤w:=zv hN (Nat.le_of_lt h2.lt);have f0:=h0.cell;have f1:=h1.cell;have f2:=h2.x2;have fz:=h0.frozen;unfold vd;obtain ⟨R1,ac⟩:∃ R,mr me below (mf s.u.l)=R:=⟨_,rfl⟩;obtain ⟨R2,ad⟩:∃ R,s.edits.all pb=R:=⟨_,rfl⟩;rw [ac] at cu ⊢;rw [ad] at ce ⊢;have H0:=yw h0;have H2:=yw h2;have CU:=yw cu;have CE:=yw ce;have ae:=yw hNz;have HN:=yw hN;clear h0 h1 h2 cu ce ac ad hin ht hu hr hz hNz hN;cases r0 with
 | false =>
  rw [zm]
  go_enter_d func81,ntmps81
  go_wp2
  go_end0
  exact ⟨rfl,H0.out.set _,(zo _ _).setCell (p:=⟨b+1,0,none⟩) (by have:=HN.out;show N≤b+1;omega) _⟩
 | true =>
  rw [zk];cases R1 with
  | false =>
   rw [zm]
   go_enter_d func81,ntmps81
   go_wp2_with (first|(go_at_call 82;(with_reducible refine CU.out.mono ?_);rintro e w1 ⟨rfl,aa⟩;have g0:=(aa.block _ H0.out.lt).trans H0.out;have HG:=yw (And.intro g0 aa);have f0:=Ad (show zn w1 (b+1) 4 _ from g0);have fz:=Ae (show zn w1 (b+1) 4 _ from g0);clear g0 aa))
   go_end0
   exact ⟨rfl,Af (t:=4) (v:=yy true) _ HG.out.1,(HG.out.2.mono ae.out).setCell (p:=⟨b+1,0,none⟩) (by have:=HN.out;show N≤b+1;omega) _⟩
  | true =>
   rw [zk]
   go_enter_d func81,ntmps81
   go_wp2_with (first
    | (go_at_call 82;(with_reducible refine CU.out.mono ?_);rintro e w1 ⟨rfl,aa⟩;have B1:=yw aa;have g2:=H2.out.on aa H2.out.lt;have y0:=g2.x0;have y1:=g2.x1;have y2:=g2.x2;have y3:=g2.x3;have y4:=g2.x4;have y5:=g2.x5;clear g2 aa f0 f1 f2 fz)
    | (go_at_call 83;(with_reducible refine (CE.out _ B1.out).mono ?_);rintro e w2 ⟨rfl,ab⟩;have g0:=(ab.block _ (Nat.lt_of_lt_of_le H0.out.lt B1.out.size)).trans ((B1.out.block _ H0.out.lt).trans H0.out);have HG:=yw (And.intro g0 (B1.out.trans (ab.mono B1.out.size)));have f0:=Ad (show zn w2 (b+1) 4 _ from g0);have fz:=Ae (show zn w2 (b+1) 4 _ from g0);clear g0 ab))
   go_end0
   exact ⟨rfl,Af (t:=4) (v:=yy true) _ HG.out.1,(HG.out.2.mono ae.out).setCell (p:=⟨b+1,0,none⟩) (by have:=HN.out;show N≤b+1;omega) _⟩
structure yk (w:ze) (s:lz) (r0:Bool) (below:ByteArray) (W:ze):Prop where
 b0:tw w (yx s.t) (yv s.m.a s.m.l.length s.m.c) (yv s.u.a s.u.l.length s.u.c) (yv s.r.a s.r.l.length s.r.c) (yy s.o) (yv s.g.a s.g.l.length s.g.c) W
 b1:zn W (w+1) 4 (yy r0)
 b2:zn W (w+1+1) 9 (yx below)
 bel:yz w w W
theorem yk.on {W2:ze} {s:lz} (h:yk w s r0 below W) (hb:yz W W W2):yk w s r0 below W2:=
 ⟨h.b0.on hb h.b0.lt,(hb.block _ h.b1.lt).trans h.b1,(hb.block _ h.b2.lt).trans h.b2,h.bel.trans (hb.mono h.bel.size)⟩
theorem yk.setr {s:lz} (h:yk w s r0 below W) (r:Bool):yk w s r below (W.setCell ⟨w+1,0,none⟩ (yy r)):=
 ⟨h.b0.on ((zo (w+1) W).setCell (p:=⟨w+1,0,none⟩) (zg _) _) (zw _),h.b1.set _,h.b2.other lf _,h.bel.setCell (p:=⟨w+1,0,none⟩) (by show w.heap.size≤w+1;omega) _⟩
theorem yk.setb {s:lz} (h:yk w s r0 below W) (b:ByteArray):yk w s r0 b (W.setCell ⟨w+1+1,0,none⟩ (yx b)):=
 ⟨h.b0.on ((zo (w+1) W).setCell (p:=⟨w+1+1,0,none⟩) (by show w.heap.size+1≤w+1+1;omega) _) (zw _),h.b1.other lf _,h.b2.set _,h.bel.setCell (p:=⟨w+1+1,0,none⟩) (by show w.heap.size≤w+1+1;omega) _⟩
theorem yk.new (w:ze) (s:lz):yk w s false s.t (((w.alloc (zd #[yx s.t,yv s.m.a s.m.l.length s.m.c,yv s.u.a s.u.l.length s.u.c,yv s.r.a s.r.l.length s.r.c,yy s.o,yv s.g.a s.g.l.length s.g.c] 26)).alloc (zd #[yy false] 4)).alloc (zd #[yx s.t] 9)):=by
 have e1:(w.alloc (zd #[yx s.t,yv s.m.a s.m.l.length s.m.c,yv s.u.a s.u.l.length s.u.c,yv s.r.a s.r.l.length s.r.c,yy s.o,yv s.g.a s.g.l.length s.g.c] 26)).heap.size=w+1:=lh;refine ⟨((tw.new w _ _ _ _ _ _ _).on (ni _ _) lh).on (ni _ _) lq,?_,?_,(qj _ _ _).trans ((ni _ _).mono lq)⟩
 ·have:=Ag (w.alloc (zd #[yx s.t,yv s.m.a s.m.l.length s.m.c,yv s.u.a s.u.l.length s.u.c,yv s.r.a s.r.l.length s.r.c,yy s.o,yv s.g.a s.g.l.length s.g.c] 26)) 4 (yy false);rw [zx] at this;exact this.alloc _
 ·have:=Ag ((w.alloc (zd #[yx s.t,yv s.m.a s.m.l.length s.m.c,yv s.u.a s.u.l.length s.u.c,yv s.r.a s.r.l.length s.r.c,yy s.o,yv s.g.a s.g.l.length s.g.c] 26)).alloc (zd #[yy false] 4)) 9 (yx s.t);rw [zx,zx] at this;exact this
structure sd (s:lz):Prop where
 t:s.t.size≤1000000000
 m:s.m.l.length≤1000000
 mz:∀ x∈s.m.l,x.name.size≤zf
 u:s.u.l.length≤100
 r:s.r.l.length≤100
 z:∀ x∈s.rows,x.l.length≤100000∧sc x.l 140737488355328
theorem sd.g {s:lz} (h:sd s):s.g.l.length≤100000∧sc s.g.l 140737488355328:=h.z _ (by unfold lz.rows;simp)
theorem bP {s:lz} {R:Bool} {tmps:Array zq} (hi:yk w s r0 below W) (hR:(r0 && vd s below)=R) (ht0:tmps.getD 2 undef=zj (some ⟨w+1,0,none⟩)) (hin:n9 w s) (hbz:below.size≤140737488355328) (hz:sd s) :
 bodyPostD prog Tryz.f54 (wb R w) .ret { tmps:=tmps,defers:=[{ target:=.fn (.func 81) #[zj (some ⟨w+1,0,none⟩),zj (some ⟨w+1+1,0,none⟩),zj (some ⟨w,0,none⟩)],args:=#[] }] } W:=by
 refine leaves_cons (f:=81) (args:=#[zj (some ⟨w+1,0,none⟩),zj (some ⟨w+1+1,0,none⟩),zj (some ⟨w,0,none⟩)]) lh (by simp [go_sem]) ?_;refine (BV s below r0 w w .returning W (hin.later hi.bel) (zg _) hi.b1 hi.b2 hi.b0 hbz hz.u hz.r hz.z).mono ?_;rintro e u' w'' ⟨rfl,rfl,hbox,hbel⟩;exact ⟨_,dT rfl underlying4 (by intro w;kernel_rfl) _ _ ⟨w+1,0,none⟩ R ht0 (by rw [← hR];exact hbox.cell),rfl,hi.bel.trans hbel⟩
def o0 (s:lz):Bool:=yi s.t && (m9 s.m.l s.t && (mr id s.t (mf s.r.l) && (if s.g.l.length=0 then vd s s.t else (s.o && (decide (s.r.l.length=0) && (nb s.t (me s.g.l) && vd s (mu s.t (me s.g.l)).1))))))
set_option maxHeartbeats 3200000 in
theorem nU (s:lz) (w:ze) (hin:n9 w s) (hz:sd s):zi prog 54 #[s.v] w (wb (o0 s) w):=by
 have hmf:∀ (fn:Fn) (first cap:Array zq) (w:ze),(Instr.makeFunc fn first cap).run prog w=.ok (.func fn first cap) w:=fun _ _ _ _=>rfl;have cT:=fun W=>yG s.t (by have:=hz.t;unfold zf;omega) W;have cM:=fun W (hW:yz w w W)=>AX s.m.a s.m.l s.m.c s.t _ W (hin.later hW).m.row (fun _ h=>h) hz.mz (by have:=hz.t;unfold zf;omega) hz.m;have cD:=fun W (hW:yz w w W)=>AM s.t s.r.a s.r.l s.r.c W (hin.later hW).r (by have:=hz.t;omega) (by have:=hz.r;omega) (fun x hx=>hz.z x (by unfold lz.rows;simp [hx]));have cI:=fun W (hW:yz w w W)=>oS s.g.a s.g.l s.g.c W (hin.later hW).g.row hz.g.1;have cR:=fun W (hW:yz w w W) ba bc (hr:o4 W ⟨ba,me s.g.l,bc⟩)=>by
  have h:=pL s.t ba (me s.g.l) bc W hr.row (by have:=hz.t;omega) (by rw [aD];have:=hz.g.1;omega) hz.g.2.inv;rw [aD] at h;exact h
 have cX:=fun W (hW:yz w w W) ba bc (hr:o4 W ⟨ba,me s.g.l,bc⟩)=>by
  have h:=hP s.t ba (me s.g.l) bc W hr.row (by have:=hz.t;omega) (by rw [aD];have:=hz.g.1;omega) hz.g.2.inv;rw [aD] at h;exact h
 have hi:=yk.new w s;have htz:s.t.size≤140737488355328:=by have:=hz.t;omega
 have hsz:nb s.t (me s.g.l)=true→(mu s.t (me s.g.l)).1.size≤140737488355328:=fun h=>by have:=dS h;have:=hz.t;omega
 unfold o0;obtain ⟨T,hT⟩:∃ T,yi s.t=T:=⟨_,rfl⟩;obtain ⟨M,hM⟩:∃ M,m9 s.m.l s.t=M:=⟨_,rfl⟩;obtain ⟨Q,hQ⟩:∃ Q,mr id s.t (mf s.r.l)=Q:=⟨_,rfl⟩;obtain ⟨V,hV⟩:∃ V,nb s.t (me s.g.l)=V:=⟨_,rfl⟩;obtain ⟨⟨B,E⟩,hB⟩:∃ B,mu s.t (me s.g.l)=B:=⟨_,rfl⟩;obtain ⟨L0,ay⟩:∃ L,vd s s.t=L:=⟨_,rfl⟩;rw [hB] at cX hsz;rw [hT] at cT;rw [hM] at cM;rw [hQ] at cD;rw [hV] at cR hsz;rw [hT,hM,hQ,hV,hB,ay];dsimp only;obtain ⟨L1,az⟩:∃ L,vd s B=L:=⟨_,rfl⟩;rw [az];obtain ⟨wX,hwX⟩:∃ wX,((w.alloc (zd #[yx s.t,yv s.m.a s.m.l.length s.m.c,yv s.u.a s.u.l.length s.u.c,yv s.r.a s.r.l.length s.r.c,yy s.o,yv s.g.a s.g.l.length s.g.c] 26)).alloc (zd #[yy false] 4)).alloc (zd #[yx s.t] 9)=wX:=⟨_,rfl⟩;rw [hwX] at hi;have hrl:s.r.l.length≤100:=hz.r;have hgl:s.g.l.length≤100000:=hz.g.1;have ai:=yw hi;have CT:=yw cT;have CM:=yw cM;have CD:=yw cD;have CI:=yw cI;have CR:=yw cR;have CX:=yw cX;have aq:=yw hin;have HZ:=yw hz;have a3:=yw ay;have a4:=yw az;have ar:=yw htz;have a5:=yw hsz;have p0:=ai.out.b0.x0;have p1:=ai.out.b0.x1;have p3:=ai.out.b0.x3;have p4:=ai.out.b0.x4;have p5:=ai.out.b0.x5;have c1:=ai.out.b1.cell;have z1:=ai.out.b1.frozen;have c2:=ai.out.b2.cell;have z2:=ai.out.b2.frozen;clear hi cT cM cD cI cR cX hin hz hT hM hQ hV hB ay az htz hsz;cases T with
 | false =>
  rw [zm]
  go_enter_defers func54,ntmps54
  go_wp2_with (first
   | (go_at_call 84;(with_reducible refine (CT.out _).mono ?_);rintro e w1 ⟨rfl,ae⟩;have aa:=yw (ai.out.on ae);clear ae;clear p0 p1 p3 p4 p5 c1 z1 c2 z2;have p0:=aa.out.b0.x0;have p1:=aa.out.b0.x1;have p3:=aa.out.b0.x3;have p4:=aa.out.b0.x4;have p5:=aa.out.b0.x5;have c1:=aa.out.b1.cell;have z1:=aa.out.b1.frozen;have c2:=aa.out.b2.cell;have z2:=aa.out.b2.frozen))
  exact bP (aa.out.setr false) lj rfl aq.out ar.out HZ.out
 | true =>
  rw [zk];cases M with
  | false =>
   rw [zm]
   go_enter_defers func54,ntmps54
   go_wp2_with (first
    | (go_at_call 84;(with_reducible refine (CT.out _).mono ?_);rintro e w1 ⟨rfl,ae⟩;have aa:=yw (ai.out.on ae);clear ae;clear p0 p1 p3 p4 p5 c1 z1 c2 z2;have p0:=aa.out.b0.x0;have p1:=aa.out.b0.x1;have p3:=aa.out.b0.x3;have p4:=aa.out.b0.x4;have p5:=aa.out.b0.x5;have c1:=aa.out.b1.cell;have z1:=aa.out.b1.frozen;have c2:=aa.out.b2.cell;have z2:=aa.out.b2.frozen)
    | (go_at_call 85;(with_reducible refine (CM.out _ aa.out.bel).mono ?_);rintro e w2 ⟨rfl,ah⟩;have ab:=yw (aa.out.on ah);clear ah;clear p0 p1 p3 p4 p5 c1 z1 c2 z2;have p0:=ab.out.b0.x0;have p1:=ab.out.b0.x1;have p3:=ab.out.b0.x3;have p4:=ab.out.b0.x4;have p5:=ab.out.b0.x5;have c1:=ab.out.b1.cell;have z1:=ab.out.b1.frozen;have c2:=ab.out.b2.cell;have z2:=ab.out.b2.frozen))
   exact bP (ab.out.setr false) lj rfl aq.out ar.out HZ.out
  | true =>
   rw [zk];cases Q with
   | false =>
    rw [zm]
    go_enter_defers func54,ntmps54
    go_wp2_with (first
     | (go_at_call 84;(with_reducible refine (CT.out _).mono ?_);rintro e w1 ⟨rfl,ae⟩;have aa:=yw (ai.out.on ae);clear ae;clear p0 p1 p3 p4 p5 c1 z1 c2 z2;have p0:=aa.out.b0.x0;have p1:=aa.out.b0.x1;have p3:=aa.out.b0.x3;have p4:=aa.out.b0.x4;have p5:=aa.out.b0.x5;have c1:=aa.out.b1.cell;have z1:=aa.out.b1.frozen;have c2:=aa.out.b2.cell;have z2:=aa.out.b2.frozen)
     | (go_at_call 85;(with_reducible refine (CM.out _ aa.out.bel).mono ?_);rintro e w2 ⟨rfl,ah⟩;have ab:=yw (aa.out.on ah);clear ah;clear p0 p1 p3 p4 p5 c1 z1 c2 z2;have p0:=ab.out.b0.x0;have p1:=ab.out.b0.x1;have p3:=ab.out.b0.x3;have p4:=ab.out.b0.x4;have p5:=ab.out.b0.x5;have c1:=ab.out.b1.cell;have z1:=ab.out.b1.frozen;have c2:=ab.out.b2.cell;have z2:=ab.out.b2.frozen)
     | (go_at_call 86;(with_reducible refine (CD.out _ ab.out.bel).mono ?_);rintro e w3 ⟨rfl,aj⟩;have ac:=yw (ab.out.on aj);clear aj;clear p0 p1 p3 p4 p5 c1 z1 c2 z2;have p0:=ac.out.b0.x0;have p1:=ac.out.b0.x1;have p3:=ac.out.b0.x3;have p4:=ac.out.b0.x4;have p5:=ac.out.b0.x5;have c1:=ac.out.b1.cell;have z1:=ac.out.b1.frozen;have c2:=ac.out.b2.cell;have z2:=ac.out.b2.frozen))
    exact bP (ac.out.setr false) lj rfl aq.out ar.out HZ.out
   | true =>
    rw [zk];by_cases hg:s.g.l.length=0
    ·rw [if_pos hg];have a6:(s.g.l.length:Int)≤0:=lf;clear hg
     go_enter_defers func54,ntmps54
     go_wp2_with (first
      | (go_at_call 84;(with_reducible refine (CT.out _).mono ?_);rintro e w1 ⟨rfl,ae⟩;have aa:=yw (ai.out.on ae);clear ae;clear p0 p1 p3 p4 p5 c1 z1 c2 z2;have p0:=aa.out.b0.x0;have p1:=aa.out.b0.x1;have p3:=aa.out.b0.x3;have p4:=aa.out.b0.x4;have p5:=aa.out.b0.x5;have c1:=aa.out.b1.cell;have z1:=aa.out.b1.frozen;have c2:=aa.out.b2.cell;have z2:=aa.out.b2.frozen)
      | (go_at_call 85;(with_reducible refine (CM.out _ aa.out.bel).mono ?_);rintro e w2 ⟨rfl,ah⟩;have ab:=yw (aa.out.on ah);clear ah;clear p0 p1 p3 p4 p5 c1 z1 c2 z2;have p0:=ab.out.b0.x0;have p1:=ab.out.b0.x1;have p3:=ab.out.b0.x3;have p4:=ab.out.b0.x4;have p5:=ab.out.b0.x5;have c1:=ab.out.b1.cell;have z1:=ab.out.b1.frozen;have c2:=ab.out.b2.cell;have z2:=ab.out.b2.frozen)
      | (go_at_call 86;(with_reducible refine (CD.out _ ab.out.bel).mono ?_);rintro e w3 ⟨rfl,aj⟩;have ac:=yw (ab.out.on aj);clear aj;clear p0 p1 p3 p4 p5 c1 z1 c2 z2;have p0:=ac.out.b0.x0;have p1:=ac.out.b0.x1;have p3:=ac.out.b0.x3;have p4:=ac.out.b0.x4;have p5:=ac.out.b0.x5;have c1:=ac.out.b1.cell;have z1:=ac.out.b1.frozen;have c2:=ac.out.b2.cell;have z2:=ac.out.b2.frozen))
     exact bP (ac.out.setr true) (by rw [a3.out];rfl) rfl aq.out ar.out HZ.out
    ·rw [if_neg hg];have a6:(0:Int)<(s.g.l.length:Int):=lf;have hor:s.o=true∨s.o=false:=by cases s.o <;> simp
     rcases hor with ho|ho
     ·rw [ho,zk];by_cases hr:s.r.l.length=0
      ·rw [decide_eq_true hr,zk];have a7:(s.r.l.length:Int)≤0:=lf;have a8:¬ 0<s.r.l.length:=lf;clear hr;cases V with
       | false =>
        rw [zm]
        go_enter_defers func54,ntmps54
        go_upto_region 7 with (first
         | (go_at_call 84;(with_reducible refine (CT.out _).mono ?_);rintro e w1 ⟨rfl,ae⟩;have aa:=yw (ai.out.on ae);clear ae;clear p0 p1 p3 p4 p5 c1 z1 c2 z2;have p0:=aa.out.b0.x0;have p1:=aa.out.b0.x1;have p3:=aa.out.b0.x3;have p4:=aa.out.b0.x4;have p5:=aa.out.b0.x5;have c1:=aa.out.b1.cell;have z1:=aa.out.b1.frozen;have c2:=aa.out.b2.cell;have z2:=aa.out.b2.frozen)
         | (go_at_call 85;(with_reducible refine (CM.out _ aa.out.bel).mono ?_);rintro e w2 ⟨rfl,ah⟩;have ab:=yw (aa.out.on ah);clear ah;clear p0 p1 p3 p4 p5 c1 z1 c2 z2;have p0:=ab.out.b0.x0;have p1:=ab.out.b0.x1;have p3:=ab.out.b0.x3;have p4:=ab.out.b0.x4;have p5:=ab.out.b0.x5;have c1:=ab.out.b1.cell;have z1:=ab.out.b1.frozen;have c2:=ab.out.b2.cell;have z2:=ab.out.b2.frozen)
         | (go_at_call 86;(with_reducible refine (CD.out _ ab.out.bel).mono ?_);rintro e w3 ⟨rfl,aj⟩;have ac:=yw (ab.out.on aj);clear aj;clear p0 p1 p3 p4 p5 c1 z1 c2 z2;have p0:=ac.out.b0.x0;have p1:=ac.out.b0.x1;have p3:=ac.out.b0.x3;have p4:=ac.out.b0.x4;have p5:=ac.out.b0.x5;have c1:=ac.out.b1.cell;have z1:=ac.out.b1.frozen;have c2:=ac.out.b2.cell;have z2:=ac.out.b2.frozen)
         | (go_at_call 87;refine (CI.out _ ac.out.bel).mono ?_;rintro e w4 ⟨ba,bc,rfl,hrow,am⟩;have au:=yw (ac.out.on am);have an:=yw hrow;clear am hrow;clear p0 p1 p3 p4 p5 c1 z1 c2 z2))
        rw [aD];obtain ⟨w5,af⟩:∃ w5,w4.alloc (zd #[yv ba s.g.l.length bc] 54)=w5:=⟨_,rfl⟩;rw [af];have ak:yz w4 w4 w5:=by rw [← af];exact ni _ _
        have ad:=yw (au.out.on ak);have av:=yw (an.out.in.later ak);have aw:=yw (show w4.heap.size<w5.heap.size by rw [← af];simp);have k0:w5 ⟨w4,0,none⟩=some (yv ba s.g.l.length bc):=by rw [← af];simp [zr]
        have ax:=yw k0;clear af ak;have p0:=ad.out.b0.x0;have p1:=ad.out.b0.x1;have p3:=ad.out.b0.x3;have p4:=ad.out.b0.x4;have p5:=ad.out.b0.x5;have c1:=ad.out.b1.cell;have z1:=ad.out.b1.frozen;have c2:=ad.out.b2.cell;have z2:=ad.out.b2.frozen;rw [ho] at p4;go_wp2_with (first
         | (go_at_call 88;(with_reducible refine (CR.out _ ad.out.bel _ _ av.out).mono ?_);rintro e w6 ⟨rfl,ao⟩;have ag:=yw (ad.out.on ao);have a1:=yw (av.out.later ao);have a0:=yw ((ao.cell (p:=⟨w4,0,none⟩) aw.out).trans ax.out);clear ao k0;clear p0 p1 p3 p4 p5 c1 z1 c2 z2;have p0:=ag.out.b0.x0;have p1:=ag.out.b0.x1;have p3:=ag.out.b0.x3;have p4:=ag.out.b0.x4;have p5:=ag.out.b0.x5;have c1:=ag.out.b1.cell;have z1:=ag.out.b1.frozen;have c2:=ag.out.b2.cell;have z2:=ag.out.b2.frozen;have k0:=a0.out))
        exact bP (ag.out.setr false) lj rfl aq.out ar.out HZ.out
       | true =>
        rw [zk]
        go_enter_defers func54,ntmps54
        go_upto_region 7 with (first
         | (go_at_call 84;(with_reducible refine (CT.out _).mono ?_);rintro e w1 ⟨rfl,ae⟩;have aa:=yw (ai.out.on ae);clear ae;clear p0 p1 p3 p4 p5 c1 z1 c2 z2;have p0:=aa.out.b0.x0;have p1:=aa.out.b0.x1;have p3:=aa.out.b0.x3;have p4:=aa.out.b0.x4;have p5:=aa.out.b0.x5;have c1:=aa.out.b1.cell;have z1:=aa.out.b1.frozen;have c2:=aa.out.b2.cell;have z2:=aa.out.b2.frozen)
         | (go_at_call 85;(with_reducible refine (CM.out _ aa.out.bel).mono ?_);rintro e w2 ⟨rfl,ah⟩;have ab:=yw (aa.out.on ah);clear ah;clear p0 p1 p3 p4 p5 c1 z1 c2 z2;have p0:=ab.out.b0.x0;have p1:=ab.out.b0.x1;have p3:=ab.out.b0.x3;have p4:=ab.out.b0.x4;have p5:=ab.out.b0.x5;have c1:=ab.out.b1.cell;have z1:=ab.out.b1.frozen;have c2:=ab.out.b2.cell;have z2:=ab.out.b2.frozen)
         | (go_at_call 86;(with_reducible refine (CD.out _ ab.out.bel).mono ?_);rintro e w3 ⟨rfl,aj⟩;have ac:=yw (ab.out.on aj);clear aj;clear p0 p1 p3 p4 p5 c1 z1 c2 z2;have p0:=ac.out.b0.x0;have p1:=ac.out.b0.x1;have p3:=ac.out.b0.x3;have p4:=ac.out.b0.x4;have p5:=ac.out.b0.x5;have c1:=ac.out.b1.cell;have z1:=ac.out.b1.frozen;have c2:=ac.out.b2.cell;have z2:=ac.out.b2.frozen)
         | (go_at_call 87;refine (CI.out _ ac.out.bel).mono ?_;rintro e w4 ⟨ba,bc,rfl,hrow,am⟩;have au:=yw (ac.out.on am);have an:=yw hrow;clear am hrow;clear p0 p1 p3 p4 p5 c1 z1 c2 z2))
        rw [aD];obtain ⟨w5,af⟩:∃ w5,w4.alloc (zd #[yv ba s.g.l.length bc] 54)=w5:=⟨_,rfl⟩;rw [af];have ak:yz w4 w4 w5:=by rw [← af];exact ni _ _
        have ad:=yw (au.out.on ak);have av:=yw (an.out.in.later ak);have aw:=yw (show w4.heap.size<w5.heap.size by rw [← af];simp);have k0:w5 ⟨w4,0,none⟩=some (yv ba s.g.l.length bc):=by rw [← af];simp [zr]
        have ax:=yw k0;clear af ak;have p0:=ad.out.b0.x0;have p1:=ad.out.b0.x1;have p3:=ad.out.b0.x3;have p4:=ad.out.b0.x4;have p5:=ad.out.b0.x5;have c1:=ad.out.b1.cell;have z1:=ad.out.b1.frozen;have c2:=ad.out.b2.cell;have z2:=ad.out.b2.frozen;rw [ho] at p4;go_wp2_with (first
         | (go_at_call 88;(with_reducible refine (CR.out _ ad.out.bel _ _ av.out).mono ?_);rintro e w6 ⟨rfl,ao⟩;have ag:=yw (ad.out.on ao);have a1:=yw (av.out.later ao);have a0:=yw ((ao.cell (p:=⟨w4,0,none⟩) aw.out).trans ax.out);clear ao k0;clear p0 p1 p3 p4 p5 c1 z1 c2 z2;have p0:=ag.out.b0.x0;have p1:=ag.out.b0.x1;have p3:=ag.out.b0.x3;have p4:=ag.out.b0.x4;have p5:=ag.out.b0.x5;have c1:=ag.out.b1.cell;have z1:=ag.out.b1.frozen;have c2:=ag.out.b2.cell;have z2:=ag.out.b2.frozen;have k0:=a0.out)
         | (go_at_call 89;(with_reducible refine (CX.out _ ag.out.bel _ _ a1.out).mono ?_);rintro e w7 ⟨rfl,a2⟩;have al:=yw (ag.out.on a2);clear a2 k0;clear p0 p1 p3 p4 p5 c1 z1 c2 z2;have p0:=al.out.b0.x0;have p1:=al.out.b0.x1;have p3:=al.out.b0.x3;have p4:=al.out.b0.x4;have p5:=al.out.b0.x5;have c1:=al.out.b1.cell;have z1:=al.out.b1.frozen;have c2:=al.out.b2.cell;have z2:=al.out.b2.frozen;have z1b:=(al.out.setb B).b1.frozen;have c1b:=(al.out.setb B).b1.cell))
        exact bP ((al.out.setb B).setr true) (by rw [a4.out];rfl) rfl aq.out (a5.out (by trivial)) HZ.out
      ·rw [decide_eq_false hr,zm];have a7:(0:Int)<(s.r.l.length:Int):=lf
       go_enter_defers func54,ntmps54
       go_upto_region 7 with (first
        | (go_at_call 84;(with_reducible refine (CT.out _).mono ?_);rintro e w1 ⟨rfl,ae⟩;have aa:=yw (ai.out.on ae);clear ae;clear p0 p1 p3 p4 p5 c1 z1 c2 z2;have p0:=aa.out.b0.x0;have p1:=aa.out.b0.x1;have p3:=aa.out.b0.x3;have p4:=aa.out.b0.x4;have p5:=aa.out.b0.x5;have c1:=aa.out.b1.cell;have z1:=aa.out.b1.frozen;have c2:=aa.out.b2.cell;have z2:=aa.out.b2.frozen)
        | (go_at_call 85;(with_reducible refine (CM.out _ aa.out.bel).mono ?_);rintro e w2 ⟨rfl,ah⟩;have ab:=yw (aa.out.on ah);clear ah;clear p0 p1 p3 p4 p5 c1 z1 c2 z2;have p0:=ab.out.b0.x0;have p1:=ab.out.b0.x1;have p3:=ab.out.b0.x3;have p4:=ab.out.b0.x4;have p5:=ab.out.b0.x5;have c1:=ab.out.b1.cell;have z1:=ab.out.b1.frozen;have c2:=ab.out.b2.cell;have z2:=ab.out.b2.frozen)
        | (go_at_call 86;(with_reducible refine (CD.out _ ab.out.bel).mono ?_);rintro e w3 ⟨rfl,aj⟩;have ac:=yw (ab.out.on aj);clear aj;clear p0 p1 p3 p4 p5 c1 z1 c2 z2;have p0:=ac.out.b0.x0;have p1:=ac.out.b0.x1;have p3:=ac.out.b0.x3;have p4:=ac.out.b0.x4;have p5:=ac.out.b0.x5;have c1:=ac.out.b1.cell;have z1:=ac.out.b1.frozen;have c2:=ac.out.b2.cell;have z2:=ac.out.b2.frozen)
        | (go_at_call 87;refine (CI.out _ ac.out.bel).mono ?_;rintro e w4 ⟨ba,bc,rfl,hrow,am⟩;have au:=yw (ac.out.on am);have an:=yw hrow;clear am hrow;clear p0 p1 p3 p4 p5 c1 z1 c2 z2))
       rw [aD];obtain ⟨w5,af⟩:∃ w5,w4.alloc (zd #[yv ba s.g.l.length bc] 54)=w5:=⟨_,rfl⟩;rw [af];have ak:yz w4 w4 w5:=by rw [← af];exact ni _ _
       have ad:=yw (au.out.on ak);have av:=yw (an.out.in.later ak);have aw:=yw (show w4.heap.size<w5.heap.size by rw [← af];simp);have k0:w5 ⟨w4,0,none⟩=some (yv ba s.g.l.length bc):=by rw [← af];simp [zr]
       have ax:=yw k0;clear af ak;have p0:=ad.out.b0.x0;have p1:=ad.out.b0.x1;have p3:=ad.out.b0.x3;have p4:=ad.out.b0.x4;have p5:=ad.out.b0.x5;have c1:=ad.out.b1.cell;have z1:=ad.out.b1.frozen;have c2:=ad.out.b2.cell;have z2:=ad.out.b2.frozen;rw [ho] at p4;go_wp2;exact bP (ad.out.setr false) lj rfl aq.out ar.out HZ.out
     ·rw [ho,zm]
      go_enter_defers func54,ntmps54
      go_upto_region 7 with (first
       | (go_at_call 84;(with_reducible refine (CT.out _).mono ?_);rintro e w1 ⟨rfl,ae⟩;have aa:=yw (ai.out.on ae);clear ae;clear p0 p1 p3 p4 p5 c1 z1 c2 z2;have p0:=aa.out.b0.x0;have p1:=aa.out.b0.x1;have p3:=aa.out.b0.x3;have p4:=aa.out.b0.x4;have p5:=aa.out.b0.x5;have c1:=aa.out.b1.cell;have z1:=aa.out.b1.frozen;have c2:=aa.out.b2.cell;have z2:=aa.out.b2.frozen)
       | (go_at_call 85;(with_reducible refine (CM.out _ aa.out.bel).mono ?_);rintro e w2 ⟨rfl,ah⟩;have ab:=yw (aa.out.on ah);clear ah;clear p0 p1 p3 p4 p5 c1 z1 c2 z2;have p0:=ab.out.b0.x0;have p1:=ab.out.b0.x1;have p3:=ab.out.b0.x3;have p4:=ab.out.b0.x4;have p5:=ab.out.b0.x5;have c1:=ab.out.b1.cell;have z1:=ab.out.b1.frozen;have c2:=ab.out.b2.cell;have z2:=ab.out.b2.frozen)
       | (go_at_call 86;(with_reducible refine (CD.out _ ab.out.bel).mono ?_);rintro e w3 ⟨rfl,aj⟩;have ac:=yw (ab.out.on aj);clear aj;clear p0 p1 p3 p4 p5 c1 z1 c2 z2;have p0:=ac.out.b0.x0;have p1:=ac.out.b0.x1;have p3:=ac.out.b0.x3;have p4:=ac.out.b0.x4;have p5:=ac.out.b0.x5;have c1:=ac.out.b1.cell;have z1:=ac.out.b1.frozen;have c2:=ac.out.b2.cell;have z2:=ac.out.b2.frozen)
       | (go_at_call 87;refine (CI.out _ ac.out.bel).mono ?_;rintro e w4 ⟨ba,bc,rfl,hrow,am⟩;have au:=yw (ac.out.on am);have an:=yw hrow;clear am hrow;clear p0 p1 p3 p4 p5 c1 z1 c2 z2))
      rw [aD];obtain ⟨w5,af⟩:∃ w5,w4.alloc (zd #[yv ba s.g.l.length bc] 54)=w5:=⟨_,rfl⟩;rw [af];have ak:yz w4 w4 w5:=by rw [← af];exact ni _ _
      have ad:=yw (au.out.on ak);have av:=yw (an.out.in.later ak);have aw:=yw (show w4.heap.size<w5.heap.size by rw [← af];simp);have k0:w5 ⟨w4,0,none⟩=some (yv ba s.g.l.length bc):=by rw [← af];simp [zr]
      have ax:=yw k0;clear af ak;have p0:=ad.out.b0.x0;have p1:=ad.out.b0.x1;have p3:=ad.out.b0.x3;have p4:=ad.out.b0.x4;have p5:=ad.out.b0.x5;have c1:=ad.out.b1.cell;have z1:=ad.out.b1.frozen;have c2:=ad.out.b2.cell;have z2:=ad.out.b2.frozen;rw [ho] at p4;go_wp2;exact bP (ad.out.setr false) lj rfl aq.out ar.out HZ.out
structure RdI (w:ze) (s:lz) (W:ze):Prop where
 b0:tw w (yx s.t) (yv s.m.a s.m.l.length s.m.c) (yv s.u.a s.u.l.length s.u.c) (yv s.r.a s.r.l.length s.r.c) (yy s.o) (yv s.g.a s.g.l.length s.g.c) W
 bel:yz w w W
theorem RdI.on {W2:ze} {s:lz} (h:RdI w s W) (hb:yz W W W2):RdI w s W2:=⟨h.b0.on hb h.b0.lt,h.bel.trans (hb.mono h.bel.size)⟩
theorem RdI.new (w:ze) (s:lz):RdI w s (w.alloc (zd #[yx s.t,yv s.m.a s.m.l.length s.m.c,yv s.u.a s.u.l.length s.u.c,yv s.r.a s.r.l.length s.r.c,yy s.o,yv s.g.a s.g.l.length s.g.c] 26)):=⟨tw.new w _ _ _ _ _ _ _,ni _ _⟩
theorem QF {g:mo} (h:o4 W g) (t:TypeId):nx (W.alloc (zd #[yv g.a g.l.length g.c] t)) ⟨some ⟨W,0,none⟩,[g],1⟩:=
 ⟨fun k hk=>by
  have:k=0:=by have h:k<1:=hk;omega
  subst this;exact ⟨_,rfl,by show W.heap.size<_;simp,by show World.cell? _ (Addr.add ⟨W,0,none⟩ 0)=_;simp [Addr.add,zr,mo.v]⟩,fun x hx=>by
  obtain rfl:=zy.1 hx;exact h.later (ni _ _),fun e=>(by cases e),zg _,by show 1≤zf;unfold zf;omega⟩
def vw (s:lz):Bool:=oa s.t.data.toList && (decide (s.t.size≤4096) && (m9 s.m.l s.t && (decide (s.u.l.length≤16) && (decide (s.r.l.length≤16) && (decide (s.g.l.length≤32) && (o3 s.u.l && (o3 s.r.l && (o3 [s.g] &&
 (if s.g.l.length=0 then mr me s.t (mf s.u.l) && mr id s.t (mf s.r.l) else (s.o && (decide (s.r.l.length=0) && (nb s.t (me s.g.l) && (mr me (mu s.t (me s.g.l)).1 (mf s.u.l) && mr id s.t (mf s.r.l))))))))))))))
theorem qA {f:List l7→List l7} {t:ByteArray} {l:List mo} (h:mr f t (mf l)=true):l.length≤16:=by
 unfold mr at h;rw [Ai,decide_eq_true_eq,aC] at h;exact h.2
theorem BB {t:ByteArray} {l:List l7} (h:nb t l=true):l.length≤32:=by
 unfold nb at h;simp only [Ai,decide_eq_true_eq] at h;exact h.1.2
theorem LS (s:lz):vw s=o0 s:=by
 have e1:∀ b,mr me b (mf s.u.l)=true→decide (s.u.l.length≤16)=true:=fun b h=>decide_eq_true (qA h);have e2:mr id s.t (mf s.r.l)=true→decide (s.r.l.length≤16)=true:=fun h=>decide_eq_true (qA h);have e3:nb s.t (me s.g.l)=true→decide (s.g.l.length≤32)=true:=fun h=>decide_eq_true (by have:=BB h;rwa [aD] at this);have e4:s.g.l.length=0→decide (s.g.l.length≤32)=true:=fun h=>decide_eq_true lf;unfold vw o0 yi vd;rw [pR];by_cases hg:s.g.l.length=0
 ·rw [if_pos hg,if_pos hg];have e5:=e1 s.t;have e4:=e4 hg;clear hg e1 e3
  revert e5 e2 e4
  generalize mr me s.t (mf s.u.l)=a1;generalize mr id s.t (mf s.r.l)=a2;generalize decide (s.u.l.length≤16)=a3;generalize decide (s.r.l.length≤16)=a4;generalize decide (s.g.l.length≤32)=a5;generalize o3 s.u.l=a6;generalize o3 s.r.l=a7;generalize o3 [s.g]=a8;generalize oa s.t.data.toList=a9;generalize decide (s.t.size≤4096)=a10;generalize m9 s.m.l s.t=a11;cases a1 <;> cases a2 <;> cases a3 <;> cases a4 <;> cases a5 <;> simp [Aj,Ak,Al]
 ·rw [if_neg hg,if_neg hg];have e5:=e1 (mu s.t (me s.g.l)).1;clear hg e1 e4
  revert e5 e2 e3
  generalize mr me (mu s.t (me s.g.l)).1 (mf s.u.l)=a1;generalize mr id s.t (mf s.r.l)=a2;generalize decide (s.u.l.length≤16)=a3;generalize decide (s.r.l.length≤16)=a4;generalize decide (s.g.l.length≤32)=a5;generalize o3 s.u.l=a6;generalize o3 s.r.l=a7;generalize o3 [s.g]=a8;generalize oa s.t.data.toList=a9;generalize decide (s.t.size≤4096)=a10;generalize m9 s.m.l s.t=a11;generalize nb s.t (me s.g.l)=a12;generalize decide (s.r.l.length=0)=a13;generalize s.o=a14;cases a1 <;> cases a2 <;> cases a3 <;> cases a4 <;> cases a5 <;> cases a12 <;> simp [Aj,Ak,Al]
set_option maxHeartbeats 16000000 in
theorem yC (s:lz) (w:ze) (hin:n9 w s) (hz:sd s):zi prog 21 #[s.v] w (wb (vw s) w):=by
 have cV:=fun W=>fU s.t (by have:=hz.t;omega) W;have cM:=fun W (hW:yz w w W)=>vT s.m.a s.m.l s.m.c s.t _ W (hin.later hW).m.row (fun _ h=>h) hz.m hz.mz (by have:=hz.t;omega);have cA:=fun W (hW:yz w w W)=>kJ s.u.a s.u.l s.u.c W (hin.later hW).u (by have:=hz.u;omega) (fun x hx=>zv (hz.z x (by unfold lz.rows;simp [hx])).1 li);have cB:=fun W (hW:yz w w W)=>kJ s.r.a s.r.l s.r.c W (hin.later hW).r (by have:=hz.r;omega) (fun x hx=>zv (hz.z x (by unfold lz.rows;simp [hx])).1 li);have cC:=fun W (hW:yz w w W)=>kJ (some ⟨W,0,none⟩) [s.g] 1 _ (QF (hin.later hW).g 54) lh (fun x hx=>by obtain rfl:=zy.1 hx;exact zv hz.g.1 li);have cI:=fun W (hW:yz w w W)=>jR s.g.a s.g.l s.g.c W (hin.later hW).g.row hz.g.1;have cR:=fun W (hW:yz w w W) ba bc (hr:o4 W ⟨ba,me s.g.l,bc⟩)=>by
  have h:=gT s.t ba (me s.g.l) bc W hr.row (by have:=hz.t;omega) (by rw [aD];have:=hz.g.1;omega) hz.g.2.inv;rw [aD] at h;exact h
 have cX:=fun W (hW:yz w w W) ba bc (hr:o4 W ⟨ba,me s.g.l,bc⟩)=>by
  have h:=fX s.t ba (me s.g.l) bc W hr.row (by have:=hz.t;omega) (by rw [aD];have:=hz.g.1;omega) hz.g.2.inv;rw [aD] at h;exact h
 have cU:=fun t (ht:t.size≤140737488355328) W (hW:yz w w W)=>zF t s.u.a s.u.l s.u.c W (hin.later hW).u ht (by have:=hz.u;omega) (fun x hx=>hz.z x (by unfold lz.rows;simp [hx]));have cD:=fun W (hW:yz w w W)=>zB s.t s.r.a s.r.l s.r.c W (hin.later hW).r (by have:=hz.t;omega) (by have:=hz.r;omega) (fun x hx=>hz.z x (by unfold lz.rows;simp [hx]));have hi:=RdI.new w s;have htz:s.t.size≤140737488355328:=by have:=hz.t;omega
 have hsz:nb s.t (me s.g.l)=true→(mu s.t (me s.g.l)).1.size≤140737488355328:=fun h=>by have:=dS h;have:=hz.t;omega
 have ao:=cU s.t htz;obtain ⟨R,hQ⟩:∃ R,vw s=R:=⟨_,rfl⟩;rw [hQ];unfold vw at hQ;obtain ⟨vV,hV⟩:∃ T,oa s.t.data.toList=T:=⟨_,rfl⟩;obtain ⟨vM,hM⟩:∃ M,m9 s.m.l s.t=M:=⟨_,rfl⟩;obtain ⟨vA,hA⟩:∃ M,o3 s.u.l=M:=⟨_,rfl⟩;obtain ⟨vB,hB⟩:∃ M,o3 s.r.l=M:=⟨_,rfl⟩;obtain ⟨vC,hC⟩:∃ M,o3 [s.g]=M:=⟨_,rfl⟩;obtain ⟨vD,hD⟩:∃ Q,mr id s.t (mf s.r.l)=Q:=⟨_,rfl⟩;obtain ⟨vU,hU⟩:∃ Q,mr me s.t (mf s.u.l)=Q:=⟨_,rfl⟩;obtain ⟨vR,hR⟩:∃ V,nb s.t (me s.g.l)=V:=⟨_,rfl⟩;obtain ⟨⟨B,E⟩,hX⟩:∃ B,mu s.t (me s.g.l)=B:=⟨_,rfl⟩;rw [hX] at cX hsz;rw [hV] at cV;rw [hM] at cM;rw [hA] at cA;rw [hB] at cB;rw [hC] at cC;rw [hD] at cD;rw [hU] at ao;rw [hR] at cR hsz;rw [hV,hM,hA,hB,hC,hD,hU,hR,hX] at hQ;dsimp only at hQ;have aq:=fun h=>cU B (hsz h);obtain ⟨vW,au⟩:∃ Q,mr me B (mf s.u.l)=Q:=⟨_,rfl⟩;rw [au] at aq hQ;obtain ⟨wX,hwX⟩:∃ wX,w.alloc (zd #[yx s.t,yv s.m.a s.m.l.length s.m.c,yv s.u.a s.u.l.length s.u.c,yv s.r.a s.r.l.length s.r.c,yy s.o,yv s.g.a s.g.l.length s.g.c] 26)=wX:=⟨_,rfl⟩;rw [hwX] at hi;have hul:s.u.l.length≤100:=hz.u;have hrl:s.r.l.length≤100:=hz.r;have hgl:s.g.l.length≤100000:=hz.g.1;have HQ:=yw hQ;have am:=yw hi;have CV:=yw cV;have CM:=yw cM;have CA:=yw cA;have CB:=yw cB;have CC:=yw cC;have CI:=yw cI;have CR:=yw cR;have CX:=yw cX;have az:=yw ao;have av:=yw aq;have CD:=yw cD;have a9:=yw hin;have p0:=am.out.b0.x0;have p1:=am.out.b0.x1;have p2:=am.out.b0.x2;have p3:=am.out.b0.x3;have p4:=am.out.b0.x4;have p5:=am.out.b0.x5;clear hQ hi cV cM cA cB cC cI cR cX cU ao aq cD hin hz hV hM hA hB hC hD hU hR hX au htz hsz;go_enter func21,ntmps21;go_wp2_with fail;refine (CV.out _).mono ?_;rintro e w1 ⟨rfl,aa⟩;have ag:=yw (am.out.on aa);clear aa;clear p0 p1 p2 p3 p4 p5;have p0:=ag.out.b0.x0;have p1:=ag.out.b0.x1;have p2:=ag.out.b0.x2;have p3:=ag.out.b0.x3;have p4:=ag.out.b0.x4;have p5:=ag.out.b0.x5;cases vV
 ·obtain rfl:R=false:=by rw [← HQ.out];rfl
  go_wp2;go_ret;exact ⟨rfl,ag.out.bel⟩
 by_cases k1:s.t.size≤4096
 case neg =>
  rw [decide_eq_false k1] at HQ;have k12:(4096:Int)<(s.t.size:Int):=lf;obtain rfl:R=false:=by rw [← HQ.out];rfl
  go_wp2;go_ret;exact ⟨rfl,ag.out.bel⟩
 rw [decide_eq_true k1] at HQ;have k12:(s.t.size:Int)≤4096:=lf;go_wp2_with fail;refine (CM.out _ ag.out.bel).mono ?_;rintro e w2 ⟨rfl,aa⟩;have ad:=yw (ag.out.on aa);clear aa;clear p0 p1 p2 p3 p4 p5;have p0:=ad.out.b0.x0;have p1:=ad.out.b0.x1;have p2:=ad.out.b0.x2;have p3:=ad.out.b0.x3;have p4:=ad.out.b0.x4;have p5:=ad.out.b0.x5;cases vM
 ·obtain rfl:R=false:=by rw [← HQ.out];rfl
  go_wp2;go_ret;exact ⟨rfl,ad.out.bel⟩
 by_cases k2:s.u.l.length≤16
 case neg =>
  rw [decide_eq_false k2] at HQ;have k22:(16:Int)<(s.u.l.length:Int):=lf;obtain rfl:R=false:=by rw [← HQ.out];rfl
  go_wp2;go_ret;exact ⟨rfl,ad.out.bel⟩
 rw [decide_eq_true k2] at HQ;have k22:(s.u.l.length:Int)≤16:=lf;by_cases k3:s.r.l.length≤16
 case neg =>
  rw [decide_eq_false k3] at HQ;have k32:(16:Int)<(s.r.l.length:Int):=lf;obtain rfl:R=false:=by rw [← HQ.out];rfl
  go_wp2;go_ret;exact ⟨rfl,ad.out.bel⟩
 rw [decide_eq_true k3] at HQ;have k32:(s.r.l.length:Int)≤16:=lf;by_cases k4:s.g.l.length≤32
 case neg =>
  rw [decide_eq_false k4] at HQ;have k42:(32:Int)<(s.g.l.length:Int):=lf;obtain rfl:R=false:=by rw [← HQ.out];rfl
  go_wp2;go_ret;exact ⟨rfl,ad.out.bel⟩
 rw [decide_eq_true k4] at HQ;have k42:(s.g.l.length:Int)≤32:=lf;go_wp2_with fail;refine (CA.out _ ad.out.bel).mono ?_;rintro e w3 ⟨rfl,aa⟩;have ai:=yw (ad.out.on aa);clear aa;clear p0 p1 p2 p3 p4 p5;have p0:=ai.out.b0.x0;have p1:=ai.out.b0.x1;have p2:=ai.out.b0.x2;have p3:=ai.out.b0.x3;have p4:=ai.out.b0.x4;have p5:=ai.out.b0.x5;cases vA
 ·obtain rfl:R=false:=by rw [← HQ.out];rfl
  go_wp2;go_ret;exact ⟨rfl,ai.out.bel⟩
 go_wp2_with fail;refine (CB.out _ ai.out.bel).mono ?_;rintro e w4 ⟨rfl,aa⟩;have aj:=yw (ai.out.on aa);clear aa;clear p0 p1 p2 p3 p4 p5;have p0:=aj.out.b0.x0;have p1:=aj.out.b0.x1;have p2:=aj.out.b0.x2;have p3:=aj.out.b0.x3;have p4:=aj.out.b0.x4;have p5:=aj.out.b0.x5;cases vB
 ·obtain rfl:R=false:=by rw [← HQ.out];rfl
  go_wp2;go_ret;exact ⟨rfl,aj.out.bel⟩
 go_wp2_with fail;refine (CC.out _ aj.out.bel).mono ?_;rintro e w5 ⟨rfl,aa⟩;have ae:=yw (aj.out.on (uX aa));clear aa;clear p0 p1 p2 p3 p4 p5;have p0:=ae.out.b0.x0;have p1:=ae.out.b0.x1;have p2:=ae.out.b0.x2;have p3:=ae.out.b0.x3;have p4:=ae.out.b0.x4;have p5:=ae.out.b0.x5;cases vC
 ·obtain rfl:R=false:=by rw [← HQ.out];rfl
  go_wp2;go_ret;exact ⟨rfl,ae.out.bel⟩
 by_cases hg:s.g.l.length=0
 ·rw [if_pos hg] at HQ;have a0:(s.g.l.length:Int)≤0:=lf;have a1:¬ 0<s.g.l.length:=lf;clear hg k4;go_wp2_with fail;refine (az.out _ ae.out.bel).mono ?_;rintro e w6 ⟨rfl,aa⟩;have af:=yw (ae.out.on aa);clear aa;clear p0 p1 p2 p3 p4 p5;have p0:=af.out.b0.x0;have p1:=af.out.b0.x1;have p2:=af.out.b0.x2;have p3:=af.out.b0.x3;have p4:=af.out.b0.x4;have p5:=af.out.b0.x5;cases vU
  ·obtain rfl:R=false:=by rw [← HQ.out];rfl
   go_wp2;go_ret;exact ⟨rfl,af.out.bel⟩
  go_wp2_with fail;refine (CD.out _ af.out.bel).mono ?_;rintro e w7 ⟨rfl,aa⟩;have ab:=yw (af.out.on aa);clear aa;clear p0 p1 p2 p3 p4 p5;have p0:=ab.out.b0.x0;have p1:=ab.out.b0.x1;have p2:=ab.out.b0.x2;have p3:=ab.out.b0.x3;have p4:=ab.out.b0.x4;have p5:=ab.out.b0.x5;obtain rfl:R=vD:=by rw [← HQ.out];rfl
  go_wp2;go_ret;exact ⟨rfl,ab.out.bel⟩
 ·rw [if_neg hg] at HQ;have a0:(0:Int)<(s.g.l.length:Int):=lf;have a1:0<s.g.l.length:=lf
  go_upto_region 8 with (first
   | (go_at_call 40;refine (CI.out _ ae.out.bel).mono ?_;rintro e w6 ⟨ba,bc,rfl,hrow,aw⟩;have af:=yw (ae.out.on aw);have ay:=yw hrow;clear aw hrow;clear p0 p1 p2 p3 p4 p5))
  rw [aD];obtain ⟨w7,an⟩:∃ w5,w6.alloc (zd #[yv ba s.g.l.length bc] 54)=w5:=⟨_,rfl⟩;rw [an];have ar:yz w6 w6 w7:=by rw [← an];exact ni _ _
  have ab:=yw (af.out.on ar);have ax:=yw (ay.out.in.later ar);have a2:=yw (show w6.heap.size<w7 by rw [← an];simp);have k0:w7 ⟨w6,0,none⟩=some (yv ba s.g.l.length bc):=by rw [← an];simp [zr]
  have a3:=yw k0;clear an ar;have p0:=ab.out.b0.x0;have p1:=ab.out.b0.x1;have p2:=ab.out.b0.x2;have p3:=ab.out.b0.x3;have p4:=ab.out.b0.x4;have p5:=ab.out.b0.x5;have hor:s.o=true∨s.o=false:=by cases s.o <;> simp
  rcases hor with ho|ho
  case inr =>
   rw [ho] at p4 HQ;obtain rfl:R=false:=by rw [← HQ.out];rfl
   go_wp2;go_ret;exact ⟨rfl,ab.out.bel⟩
  rw [ho] at p4 HQ;by_cases hr:s.r.l.length=0
  case neg =>
   rw [decide_eq_false hr] at HQ;have a4:(0:Int)<(s.r.l.length:Int):=lf;have a5:0<s.r.l.length:=lf;obtain rfl:R=false:=by rw [← HQ.out];rfl
   go_wp2;go_ret;exact ⟨rfl,ab.out.bel⟩
  rw [decide_eq_true hr] at HQ;have a4:(s.r.l.length:Int)≤0:=lf;have a5:¬ 0<s.r.l.length:=lf;clear hr k3;go_wp2_with fail;refine (CR.out _ ab.out.bel _ _ ax.out).mono ?_;rintro e w8 ⟨rfl,aa⟩;have ak:=yw (ab.out.on aa);have a6:=yw (ax.out.later aa);have a7:=yw ((aa.cell (p:=⟨w6,0,none⟩) a2.out).trans a3.out);clear k0;clear aa;clear p0 p1 p2 p3 p4 p5;have p0:=ak.out.b0.x0;have p1:=ak.out.b0.x1;have p2:=ak.out.b0.x2;have p3:=ak.out.b0.x3;have p4:=ak.out.b0.x4;have p5:=ak.out.b0.x5;have k0:=a7.out;cases vR
  ·obtain rfl:R=false:=by rw [← HQ.out];rfl
   go_wp2;go_ret;exact ⟨rfl,ak.out.bel⟩
  go_wp2_with fail;refine (CX.out _ ak.out.bel _ _ a6.out).mono ?_;rintro e w9 ⟨rfl,aa⟩;have al:=yw (ak.out.on aa);clear k0;clear aa;clear p0 p1 p2 p3 p4 p5;have p0:=al.out.b0.x0;have p1:=al.out.b0.x1;have p2:=al.out.b0.x2;have p3:=al.out.b0.x3;have p4:=al.out.b0.x4;have p5:=al.out.b0.x5;have a8:=yw (av.out (by trivial));clear av;go_wp2_with fail;refine (a8.out _ al.out.bel).mono ?_;rintro e w10 ⟨rfl,aa⟩;have ac:=yw (al.out.on aa);clear aa;clear p0 p1 p2 p3 p4 p5;have p0:=ac.out.b0.x0;have p1:=ac.out.b0.x1;have p2:=ac.out.b0.x2;have p3:=ac.out.b0.x3;have p4:=ac.out.b0.x4;have p5:=ac.out.b0.x5;cases vW
  ·obtain rfl:R=false:=by rw [← HQ.out];rfl
   go_wp2;go_ret;exact ⟨rfl,ac.out.bel⟩
  go_wp2_with fail;refine (CD.out _ ac.out.bel).mono ?_;rintro e w11 ⟨rfl,aa⟩;have ah:=yw (ac.out.on aa);clear aa;clear p0 p1 p2 p3 p4 p5;have p0:=ah.out.b0.x0;have p1:=ah.out.b0.x1;have p2:=ah.out.b0.x2;have p3:=ah.out.b0.x3;have p4:=ah.out.b0.x4;have p5:=ah.out.b0.x5;obtain rfl:R=vD:=by rw [← HQ.out];rfl
  go_wp2;go_ret;exact ⟨rfl,ah.out.bel⟩
theorem lN (s:lz) (w:ze) (hin:n9 w s) (hz:sd s):zi prog 21 #[s.v] w (wb (o0 s) w):=by
 rw [← LS];exact yC s w hin hz
theorem pC (a:Option Addr) (l:List l7) (c:Nat) (w:ze) (hp:o4 w ⟨a,l,c⟩) (hl:l.length≤1000000) :
 zi prog 93 #[yv a l.length c] w fun e w'=>∃ a' c',e=zp (yv a' l.length c')∧w'.ownsRow w 92 3 (yv a' l.length c') l.length (l7.flat l)∧yz w w w':=by
 cases a with
 | none =>
  have e0:l=[]:=hp.len rfl;have e1:c=0:=hp.nil rfl;subst e0;subst e1;refine (pJ w).mono ?_;rintro e w' ⟨rfl,rfl⟩;exact ⟨none,0,rfl,Am _ _ _ _,zo _ _⟩
 | some ad =>
  refine (nN ad l c w hp.row hl).mono ?_;rintro e w' ⟨v,rfl,ho,-,hb⟩;obtain ⟨a',c',rfl,-⟩:=dH ho;exact ⟨a',c',rfl,ho,hb⟩
theorem DM (a:Option Addr) (l:List l8) (c:Nat) (w:ze) (hp:uv w ⟨a,l,c⟩) (hl:l.length≤1000000) :
 zi prog 91 #[yv a l.length c] w fun e w'=>∃ a' c',e=zp (yv a' l.length c')∧w'.ownsRow w 90 2 (yv a' l.length c') l.length (l8.flat l)∧yz w w w':=by
 cases a with
 | none =>
  have e0:l=[]:=hp.len rfl;have e1:c=0:=hp.nil rfl;subst e0;subst e1;refine (xZ w).mono ?_;rintro e w' ⟨rfl,rfl⟩;exact ⟨none,0,rfl,Am _ _ _ _,zo _ _⟩
 | some ad =>
  refine (yN ad l c w hp.row hl).mono ?_;rintro e w' ⟨v,rfl,ho,-,hb⟩;obtain ⟨a',c',rfl,-⟩:=tY ho;exact ⟨a',c',rfl,ho,hb⟩
abbrev tg (w:ze) (base:Nat) (x:mo):Prop:=w.ownsRow base 92 3 (yv x.a x.l.length x.c) x.l.length (l7.flat x.l)
abbrev vr (w:ze) (base:Nat) (x:qv):Prop:=w.ownsRow base 90 2 (yv x.a x.l.length x.c) x.l.length (l8.flat x.l)
abbrev OwnS (w:ze) (base:Nat) (x:pa):Prop:=w.ownsRow base 54 1 (yv x.a x.l.length x.c) x.l.length (nf x.l)
def th (w:ze) (base:Nat) (x:pa):Prop:=x.l=[]∨∃ g,x.a=some ⟨g,0,none⟩∧base≤g∧OwnS w base x∧∀ y∈x.l,tg w (g+1) y
def RetCop (w:ze) (L:List (List l7)) (e:Ending) (w':ze):Prop:=∃ a c l,e=zp (yv a l.length c)∧mf l=L∧nx w' ⟨a,l,c⟩∧th w' w ⟨a,l,c⟩∧yz w w w'
theorem tg.in {x:mo} (h:tg w base x):o4 w x:=by
 obtain ⟨a,c,ev,hr⟩:=dH h;obtain ⟨xa,xl,xc⟩:=x;injection ev with e1 e2 e3;simp only at e1 e3;subst e1;subst e3;exact hr.in
set_option maxHeartbeats 1600000 in
theorem lA (a:Option Addr) (l:List mo) (c:Nat) (w:ze) (hp:nx w ⟨a,l,c⟩) (hl:l.length≤1000) (hb:∀ x∈l,x.l.length≤1000000) :
 zi prog 92 #[yv a l.length c] w (RetCop w (mf l)):=by
 cases a with
 | none =>
  have e0:l=[]:=hp.len rfl;have e1:c=0:=hp.nil rfl;subst e0;subst e1;have CN:=yw (fun W=>EJ W);clear hp hl hb;show zi prog 92 #[yv none 0 0] w (RetCop w (mf []));go_enter func92,ntmps92;go_wp2_with fail;refine (CN.out _).mono ?_;rintro e w1 ⟨rfl,ah⟩;have HB:=yw (show yz w.heap.size w w1 by rw [ah];exact zo _ _);clear ah;go_wp2
  go_loopw [9] (fun i wr=>i=zs .i64 0∧yz w w wr) (fun i _=>0)
  case atStart=>exact ⟨rfl,HB.out⟩
  case round =>
   obtain ⟨rfl,hbel⟩:=hrel;have ar:=yw hbel;clear hbel;go_wp2;go_ret;exact ⟨none,0,[],rfl,rfl,nx.empty _,.inl rfl,ar.out⟩
 | some ad0 =>
  obtain ⟨n,hn⟩:∃ n,l.length=n:=⟨_,rfl⟩;have cc:=xY ad0 l c w hp.row lf;have CC:=yw cc;have HP:=yw hp;have HN:=yw hn;have au:=yw hb;rw [hn] at hl CC ⊢;clear hn hp hb cc;go_enter func92,ntmps92;go_wp2_with fail;refine CC.out.mono ?_;rintro e w1 ⟨v,rfl,hown,hne,ai⟩;have hown:w1.ownsRow w 54 1 v n (nf l):=hown;obtain ⟨g,cp,hg,hwg⟩:∃ g cp,v=yv (some ⟨g,0,none⟩) n cp∧w.heap.size≤g:=by
   rcases hown.2 with ⟨h,-⟩|⟨g,cap,cur,h,hb,-⟩
   ·exact absurd h hne
   ·exact ⟨g,cap,h,hb⟩
  subst hg;have an:=yw hown;have av:=yw ai;have HG:=yw hwg;clear hown hne ai CC hwg;go_wp2
  go_loopw [9] (fun i wr=>∃ (k:Nat) (qs:List mo),k≤n∧i=zs .i64 k∧qs.length=k∧wr.ownsRow w 54 1 (yv (some ⟨g,0,none⟩) n cp) n (nf (qs++l.drop k))∧mf qs=(mf l).take k∧(∀ x∈qs,tg wr (g+1) x)∧yz w w wr) (fun i _=>n - (zu i).toNat)
  case atStart=>exact ⟨0,[],zz _,rfl,rfl,an.out,rfl,fun x hx=>absurd hx lh,av.out⟩
  case round =>
   obtain ⟨k,qs,hk,rfl,hqk,hown,hqs,hall,hbel⟩:=hrel;by_cases hlt:k<n
   ·have hkl:k<l.length:=by rw [HN.out];exact hlt
    have af:=(HP.out.later hbel).all.at k hkl;have ad:=au.out (l[k]!) (by rw [og hkl];exact Aa hkl);have ae:mf qs++[(l[k]!).l]=(mf l).take (k+1):=by rw [ltake (by rw [aC];exact hkl),hqs,cJ l k hkl]
    have hgl:g<wr:=(hown.lt _ rfl).2;have hkq:k<(qs++l.drop k).length:=by rw [An,List.length_drop,hqk];omega
    have q0:=(hown.cellAt k lf).trans (fP _ k hkq);have hdr:(qs++l.drop k)[k]! = l[k]! :=by
     rw [og hkq,og hkl,List.getElem_append_right (by rw [hqk];exact zg _),List.getElem_drop];simp only [hqk,Ao,Nat.add_zero]
    rw [hdr] at q0;have hset:∀ y,(qs++l.drop k).set k y=(qs++[y])++l.drop (k+1):=fun y=>by
     rw [List.set_append_right _ _ (by rw [hqk];exact zg _),hqk,Ao,List.drop_eq_getElem_cons hkl,List.set_cons_zero,List.append_assoc];rfl
    obtain ⟨x,hx⟩:∃ x,l[k]! = x:=⟨_,rfl⟩;rw [hx] at q0 af ad ae;obtain ⟨xa,xl,xc⟩:=x;simp only [mo.v] at q0 ad ae;replace q0:wr ⟨g,k,none⟩=some (yv xa xl.length xc):=q0;have hbx:=ni wr (zd #[yv xa xl.length xc] 54);have co:=pC xa xl xc _ (af.later hbx) ad;obtain ⟨m,hm⟩:∃ m,xl.length=m:=⟨_,rfl⟩;have CO:=yw co;have HO:=yw hown;have HM:=yw hm;have aw:=yw ae;have ac:=yw hall;have ag:=yw hbx;have aj:=yw hgl;have HQ:=yw hqk;have ao:=yw hset;rw [hm] at q0 CO ag;have b0:(0:Int)≤(k:Int):=lf;have b1:(k:Int)<(n:Int):=lf;clear co hown hm hx af ad ae hall hbx hgl hqs hqk hset hdr hkq;go_wp2_with fail;refine CO.out.mono ?_;rintro e w3 ⟨a3,c3,rfl,aa,ak⟩;have ab:yz wr wr w3:=ag.out.trans (ak.mono ag.out.size);have al:=yw (bK HO.out ab);have ax:=yw (hbel.trans (ab.mono hbel.size));have f0:=al.out.frozenAt k;have q3:=(ab.cell (p:=⟨g,k,none⟩) aj.out).trans q0;have ay:=yw (al.out.stored k (yv a3 xl.length c3)).1;have HS:=yw ((rY (qs++l.drop k) k ⟨a3,xl,c3⟩).trans (congrArg nf (ao.out ⟨a3,xl,c3⟩)));have az:=yw (ax.out.setCell (p:=⟨g,k,none⟩) HG.out (yv a3 m c3));have aa:tg w3 (wr.alloc (zd #[yv xa m xc] 54)) ⟨a3,xl,c3⟩:=by show World.ownsRow _ _ _ _ (yv a3 xl.length c3) _ _;rw [HM.out];rw [← HM.out] at aa ⊢;exact aa
    have a0:=yw (aH (oD (b2:=g+1) aa (by have:=aj.out;simp;omega)) (p:=⟨g,k,none⟩) (zw g) (yv a3 m c3));have a1:=yw (fun x hx=>aH (bK (ac.out x hx) ab) (p:=⟨g,k,none⟩) (zw g) (yv a3 m c3));clear aa ak ab hbel q0;go_wp2;go_roundw
    case rel =>
     refine ⟨k+1,qs++[⟨a3,xl,c3⟩],lf,by go_num,by rw [An,HQ.out];rfl,?_,by rw [eX];exact aw.out,?_,az.out⟩
     ·have h:=ay.out;have hS:=HS.out;simp only [mo.v] at hS;rw [hS,HM.out] at h;exact h
     ·intro x hx;rcases List.mem_append.1 hx with hx|hx
      ·exact a1.out x hx
      ·obtain rfl:=zy.1 hx;exact a0.out
    case measure=>simp [zu];omega
   ·obtain rfl:k=n:=lf;rw [List.drop_eq_nil_of_le (by rw [HN.out];exact zg _),List.append_nil] at hown;have hown:wr.ownsRow w 54 1 (yv (some ⟨g,0,none⟩) k cp) qs.length (nf qs):=by rw [hqk];exact hown
    obtain ⟨a4,c4,ev,hrow⟩:=dV hown (fun x hx=>tg.in (hall x hx));rw [hqk] at ev;injection ev with e1 e2 e3;subst e1;subst e3;have am:mf qs=mf l:=by rw [hqs,List.take_of_length_le (by rw [aC,HN.out];exact zg _)]
    have aq:=yw hrow;have HQ:=yw hqk;have a2:=yw (show wr.ownsRow w.heap.size 54 1 (yv (some ⟨g,0,none⟩) qs.length cp) qs.length (nf qs) by have h:=hown;rw [hqk] at h ⊢;exact h);have a5:=yw am;have ac:=yw hall;clear hrow hown hqk hqs hall am;go_wp2;go_ret;exact ⟨_,cp,qs,by rw [HQ.out];rfl,a5.out,aq.out.in,.inr ⟨g,rfl,HG.out,a2.out,ac.out⟩,hbel⟩
structure CopI (w:ze) (s s':lz) (b1 b2 b3:Nat) (w':ze):Prop where
 d:s'.d=s.d
 l1:w≤b1
 l2:b1≤b2
 l3:b2≤b3
 l4:b3≤w'
 m:vr w' w s'.m
 mh:∀ k,(yv s'.m.a s'.m.l.length s'.m.c).ownBlock=some k→k<b1
 u:th w' b1 s'.u
 uh:s'.u.l=[]∨∀ k,(yv s'.u.a s'.u.l.length s'.u.c).ownBlock=some k→k<b2
 ue:∀ y∈s'.u.l,∀ k,(yv y.a y.l.length y.c).ownBlock=some k→k<b2
 us:nx w' s'.u
 r:th w' b2 s'.r
 rh:s'.r.l=[]∨∀ k,(yv s'.r.a s'.r.l.length s'.r.c).ownBlock=some k→k<b3
 re:∀ y∈s'.r.l,∀ k,(yv y.a y.l.length y.c).ownBlock=some k→k<b3
 rs:nx w' s'.r
 g:tg w' b3 s'.g
 bel:yz w w w'
theorem th.on {w':ze} {x:pa} (h:th w base x) (hb:yz w w w'):th w' base x:=by
 rcases h with h|⟨g,h1,h2,h3,h4⟩
 ·exact .inl h
 ·exact .inr ⟨g,h1,h2,bK h3 hb,fun y hy=>bK (h4 y hy) hb⟩
theorem th.setCell {x:pa} (h:th w base x) {p:Addr} (hp:p.block<base) (u:zq):th (w.setCell p u) base x:=by
 rcases h with h|⟨g,h1,h2,h3,h4⟩
 ·exact .inl h
 ·exact .inr ⟨g,h1,h2,aH h3 hp u,fun y hy=>aH (h4 y hy) lf u⟩
theorem nx.setLow {x:pa} (h:nx w x) (hc:th w base x) {p:Addr} (hp:p.block<base) (u:zq):nx (w.setCell p u) x:=by
 have hsz:(w.setCell p u).heap.size=w:=zh _ _ _;rcases hc with hc|⟨g,h1,h2,h3,h4⟩
 ·exact ⟨fun k hk=>absurd hk (by rw [hc];simp),fun y hy=>absurd hy (by rw [hc];simp),h.nil,h.le,h.cap⟩
 ·refine ⟨fun k hk=>?_,fun y hy=>tg.in (aH (h4 y hy) lf u),h.nil,h.le,h.cap⟩;obtain ⟨ad,e,hb,q⟩:=h.row k hk;refine ⟨ad,e,by rw [hsz];exact hb,(World.cell?_setCell_other _ _ _ _ (fun e2=>?_)).trans q⟩;rw [h1] at e;cases e;have:=congrArg Addr.block e2;rw [aI] at this;have:p.block=g:=this;omega
theorem uF {size n:Nat} {e:TypeId} {v:zq} {xs:List zq} (h:w.ownsRow base e size v n xs):∀ k,v.ownBlock=some k→k<w.heap.size:=fun k hk=>(h.lt k hk).2
theorem th.hi {x:pa} (h:th w base x) (hs:nx w x):(x.l=[]∨∀ k,(yv x.a x.l.length x.c).ownBlock=some k→k<w.heap.size)∧∀ y∈x.l,∀ k,(yv y.a y.l.length y.c).ownBlock=some k→k<w.heap.size:=by
 rcases h with h|⟨g,h1,h2,h3,h4⟩
 ·exact ⟨.inl h,fun y hy=>absurd hy (by rw [h];simp)⟩
 ·exact ⟨.inr (uF h3),fun y hy=>uF (h4 y hy)⟩
set_option maxHeartbeats 3200000 in
theorem wB (s:lz) (w:ze) (hin:n9 w s) (hm:s.m.l.length≤1000) (hu:s.u.l.length≤1000) (hr:s.r.l.length≤1000) (hg:s.g.l.length≤1000) (hz:∀ x∈s.u.l++s.r.l,x.l.length≤1000000) :
 zi prog 56 #[s.v] w fun e w'=>∃ s' b1 b2 b3,e=zp s'.v∧CopI w s s' b1 b2 b3 w':=by
 have cM:=fun W (hW:yz w w W)=>DM s.m.a s.m.l s.m.c W (hin.later hW).m lf;have cU:=fun W (hW:yz w w W)=>lA s.u.a s.u.l s.u.c W (hin.later hW).u hu (fun x hx=>hz x (by simp [hx]));have cR:=fun W (hW:yz w w W)=>lA s.r.a s.r.l s.r.c W (hin.later hW).r hr (fun x hx=>hz x (by simp [hx]));have cG:=fun W (hW:yz w w W)=>pC s.g.a s.g.l s.g.c W (hin.later hW).g lf;have B0:l6 ((w.alloc (zd #[yx s.t,yv s.m.a s.m.l.length s.m.c,yv s.u.a s.u.l.length s.u.c,yv s.r.a s.r.l.length s.r.c,yy s.o,yv s.g.a s.g.l.length s.g.c] 26)).alloc (zd #[yx ⟨#[]⟩,yv none 0 0,yv none 0 0,yv none 0 0,yy false,yv none 0 0] 26)) w #[yx s.t,yv s.m.a s.m.l.length s.m.c,yv s.u.a s.u.l.length s.u.c,yv s.r.a s.r.l.length s.r.c,yy s.o,yv s.g.a s.g.l.length s.g.c] 26:=(l6.new _ _ _).alloc _;have B1:l6 ((w.alloc (zd #[yx s.t,yv s.m.a s.m.l.length s.m.c,yv s.u.a s.u.l.length s.u.c,yv s.r.a s.r.l.length s.r.c,yy s.o,yv s.g.a s.g.l.length s.g.c] 26)).alloc (zd #[yx ⟨#[]⟩,yv none 0 0,yv none 0 0,yv none 0 0,yy false,yv none 0 0] 26)) (w+1) #[yx ⟨#[]⟩,yv none 0 0,yv none 0 0,yv none 0 0,yy false,yv none 0 0] 26:=by
  have:=l6.new (w.alloc (zd #[yx s.t,yv s.m.a s.m.l.length s.m.c,yv s.u.a s.u.l.length s.u.c,yv s.r.a s.r.l.length s.r.c,yy s.o,yv s.g.a s.g.l.length s.g.c] 26)) #[yx ⟨#[]⟩,yv none 0 0,yv none 0 0,yv none 0 0,yy false,yv none 0 0] 26;rwa [zx] at this
 have ac:=qj w (zd #[yx s.t,yv s.m.a s.m.l.length s.m.c,yv s.u.a s.u.l.length s.u.c,yv s.r.a s.r.l.length s.r.c,yy s.o,yv s.g.a s.g.l.length s.g.c] 26) (zd #[yx ⟨#[]⟩,yv none 0 0,yv none 0 0,yv none 0 0,yy false,yv none 0 0] 26);obtain ⟨wX,hwX⟩:∃ wX,(w.alloc (zd #[yx s.t,yv s.m.a s.m.l.length s.m.c,yv s.u.a s.u.l.length s.u.c,yv s.r.a s.r.l.length s.r.c,yy s.o,yv s.g.a s.g.l.length s.g.c] 26)).alloc (zd #[yx ⟨#[]⟩,yv none 0 0,yv none 0 0,yv none 0 0,yy false,yv none 0 0] 26)=wX:=⟨_,rfl⟩;rw [hwX] at B0 B1 ac;have x1:wX ⟨w,1,none⟩=some (yv s.m.a s.m.l.length s.m.c):=B0.cell 1 _ rfl;have aa:=yw ac;have K0:=yw B0;have R0:=yw B1;have CM:=yw cM;have CU:=yw cU;have CR:=yw cR;have CG:=yw cG;clear ac B0 B1 cM cU cR cG hin hz;go_enter func56,ntmps56;go_wp2_with fail;refine (CM.out _ aa.out).mono ?_;rintro e w1 ⟨ma,mc,rfl,hom,hb⟩;have hlt:w.heap.size<wX:=K0.out.lt;have hbs:yz w w w1:=aa.out.trans (hb.mono aa.out.size);have kb:=K0.out.onto hb;have rb:=R0.out.onto hb;have y1:w1 ⟨w,1,none⟩=some (yv s.m.a s.m.l.length s.m.c):=kb.cell 1 _ rfl;have fz:=kb.free 1;have kv:l6 (w1.setCell ⟨w,1,none⟩ (yv ma s.m.l.length mc)) w #[yx s.t,yv ma s.m.l.length mc,yv s.u.a s.u.l.length s.u.c,yv s.r.a s.r.l.length s.r.c,yy s.o,yv s.g.a s.g.l.length s.g.c] 26:=kb.set 1 _;have rv:l6 (w1.setCell ⟨w,1,none⟩ (yv ma s.m.l.length mc)) (w+1) #[yx ⟨#[]⟩,yv none 0 0,yv none 0 0,yv none 0 0,yy false,yv none 0 0] 26:=rb.other _ (by show w.heap.size≠w+1;omega) _;have bv:yz w w (w1.setCell ⟨w,1,none⟩ (yv ma s.m.l.length mc)):=hbs.setCell (p:=⟨w,1,none⟩) (zg _) _;have row:vr (w1.setCell ⟨w,1,none⟩ (yv ma s.m.l.length mc)) wX ⟨ma,s.m.l,mc⟩:=aH hom (p:=⟨w,1,none⟩) hlt _;have sz:(w1.setCell ⟨w,1,none⟩ (yv ma s.m.l.length mc)).heap.size=w1:=zh _ _ _;obtain ⟨v1,hv⟩:∃ V,w1.setCell ⟨w,1,none⟩ (yv ma s.m.l.length mc)=V:=⟨_,rfl⟩;rw [hv] at kv rv bv row sz;have av:=yw hv;have ad:=yw bv;have K1:=yw kv;have R1:=yw rv;have ae:=yw hlt;have ak:=yw (show wX.heap.size≤v1 by rw [sz];exact hb.size);have OM:=yw row;have al:=yw (uF row);have z2:v1 ⟨w,2,none⟩=some (yv s.u.a s.u.l.length s.u.c):=kv.cell 2 _ rfl;clear hlt hbs kb rb kv rv bv row sz hb hom x1;go_wp2_with fail;refine (CU.out _ ad.out).mono ?_;rintro e w2 ⟨ua,uc,ul,rfl,hul,hus,huc,hb⟩;have hlt:w.heap.size<v1:=K1.out.lt;have hbs:yz w w w2:=ad.out.trans (hb.mono ad.out.size);have kb:=K1.out.onto hb;have rb:=R1.out.onto hb;have y2:w2 ⟨w,2,none⟩=some (yv s.u.a s.u.l.length s.u.c):=kb.cell 2 _ rfl;have fz:=kb.free 2;have kv:l6 (w2.setCell ⟨w,2,none⟩ (yv ua ul.length uc)) w #[yx s.t,yv ma s.m.l.length mc,yv ua ul.length uc,yv s.r.a s.r.l.length s.r.c,yy s.o,yv s.g.a s.g.l.length s.g.c] 26:=kb.set 2 _;have rv:l6 (w2.setCell ⟨w,2,none⟩ (yv ua ul.length uc)) (w+1) #[yx ⟨#[]⟩,yv none 0 0,yv none 0 0,yv none 0 0,yy false,yv none 0 0] 26:=rb.other _ (by show w.heap.size≠w+1;omega) _;have bv:yz w w (w2.setCell ⟨w,2,none⟩ (yv ua ul.length uc)):=hbs.setCell (p:=⟨w,2,none⟩) (zg _) _;have row:th (w2.setCell ⟨w,2,none⟩ (yv ua ul.length uc)) v1 ⟨ua,ul,uc⟩:=huc.setCell (p:=⟨w,2,none⟩) hlt _;have rows:nx (w2.setCell ⟨w,2,none⟩ (yv ua ul.length uc)) ⟨ua,ul,uc⟩:=hus.setLow huc (p:=⟨w,2,none⟩) hlt _;have sz:(w2.setCell ⟨w,2,none⟩ (yv ua ul.length uc)).heap.size=w2:=zh _ _ _;have om:=aH (bK OM.out hb) (p:=⟨w,2,none⟩) ae.out (yv ua ul.length uc);obtain ⟨v2,hv⟩:∃ V,w2.setCell ⟨w,2,none⟩ (yv ua ul.length uc)=V:=⟨_,rfl⟩;rw [hv] at kv rv bv row sz rows om;have aw:=yw hv;have af:=yw bv;have K2:=yw kv;have R2:=yw rv;have ab:=yw hlt;have am:=yw (show v1.heap.size≤v2 by rw [sz];exact hb.size);have OU:=yw row;have OUS:=yw rows;have OM:=yw om;have an:=yw hul;have ah:=yw (th.hi row rows);have z3:v2 ⟨w,3,none⟩=some (yv s.r.a s.r.l.length s.r.c):=kv.cell 3 _ rfl;clear hlt hbs kb rb kv rv bv row sz hb rows om hul hus huc z2;go_wp2_with fail;refine (CR.out _ af.out).mono ?_;rintro e w3 ⟨ra,rc,rl,rfl,hrl,hrs,hrc,hb⟩;have hlt:w.heap.size<v2:=K2.out.lt;have hbs:yz w w w3:=af.out.trans (hb.mono af.out.size);have kb:=K2.out.onto hb;have rb:=R2.out.onto hb;have y3:w3 ⟨w,3,none⟩=some (yv s.r.a s.r.l.length s.r.c):=kb.cell 3 _ rfl;have fz:=kb.free 3;have kv:l6 (w3.setCell ⟨w,3,none⟩ (yv ra rl.length rc)) w #[yx s.t,yv ma s.m.l.length mc,yv ua ul.length uc,yv ra rl.length rc,yy s.o,yv s.g.a s.g.l.length s.g.c] 26:=kb.set 3 _;have rv:l6 (w3.setCell ⟨w,3,none⟩ (yv ra rl.length rc)) (w+1) #[yx ⟨#[]⟩,yv none 0 0,yv none 0 0,yv none 0 0,yy false,yv none 0 0] 26:=rb.other _ (by show w.heap.size≠w+1;omega) _;have bv:yz w w (w3.setCell ⟨w,3,none⟩ (yv ra rl.length rc)):=hbs.setCell (p:=⟨w,3,none⟩) (zg _) _;have row:th (w3.setCell ⟨w,3,none⟩ (yv ra rl.length rc)) v2 ⟨ra,rl,rc⟩:=hrc.setCell (p:=⟨w,3,none⟩) hlt _;have rows:nx (w3.setCell ⟨w,3,none⟩ (yv ra rl.length rc)) ⟨ra,rl,rc⟩:=hrs.setLow hrc (p:=⟨w,3,none⟩) hlt _;have sz:(w3.setCell ⟨w,3,none⟩ (yv ra rl.length rc)).heap.size=w3:=zh _ _ _;have om:=aH (bK OM.out hb) (p:=⟨w,3,none⟩) ae.out (yv ra rl.length rc);have ou:=(OU.out.on hb).setCell (p:=⟨w,3,none⟩) ab.out (yv ra rl.length rc);have ous:=(OUS.out.later hb).setLow (OU.out.on hb) (p:=⟨w,3,none⟩) ab.out (yv ra rl.length rc);obtain ⟨v3,hv⟩:∃ V,w3.setCell ⟨w,3,none⟩ (yv ra rl.length rc)=V:=⟨_,rfl⟩;rw [hv] at kv rv bv row sz rows om ou ous;have ax:=yw hv;have ag:=yw bv;have K3:=yw kv;have R3:=yw rv;have ai:=yw hlt;have ao:=yw (show v2.heap.size≤v3 by rw [sz];exact hb.size);have OR:=yw row;have ORS:=yw rows;have OM:=yw om;have OU:=yw ou;have OUS:=yw ous;have aq:=yw hrl;have aj:=yw (th.hi row rows);have z5:v3 ⟨w,5,none⟩=some (yv s.g.a s.g.l.length s.g.c):=kv.cell 5 _ rfl;clear hlt hbs kb rb kv rv bv row sz hb rows om ou ous hrl hrs hrc z3;go_wp2_with fail;refine (CG.out _ ag.out).mono ?_;rintro e w4 ⟨ga,gc,rfl,hog,hb⟩;have hlt:w.heap.size<v3:=K3.out.lt;have hbs:yz w w w4:=ag.out.trans (hb.mono ag.out.size);have kb:=K3.out.onto hb;have rb:=R3.out.onto hb;have y5:w4 ⟨w,5,none⟩=some (yv s.g.a s.g.l.length s.g.c):=kb.cell 5 _ rfl;have fz:=kb.free 5;have kv:l6 (w4.setCell ⟨w,5,none⟩ (yv ga s.g.l.length gc)) w #[yx s.t,yv ma s.m.l.length mc,yv ua ul.length uc,yv ra rl.length rc,yy s.o,yv ga s.g.l.length gc] 26:=kb.set 5 _;have rv:l6 (w4.setCell ⟨w,5,none⟩ (yv ga s.g.l.length gc)) (w+1) #[yx ⟨#[]⟩,yv none 0 0,yv none 0 0,yv none 0 0,yy false,yv none 0 0] 26:=rb.other _ (by show w.heap.size≠w+1;omega) _;have bv:yz w w (w4.setCell ⟨w,5,none⟩ (yv ga s.g.l.length gc)):=hbs.setCell (p:=⟨w,5,none⟩) (zg _) _;have row:tg (w4.setCell ⟨w,5,none⟩ (yv ga s.g.l.length gc)) v3 ⟨ga,s.g.l,gc⟩:=aH hog (p:=⟨w,5,none⟩) hlt _;have sz:(w4.setCell ⟨w,5,none⟩ (yv ga s.g.l.length gc)).heap.size=w4:=zh _ _ _;have om:=aH (bK OM.out hb) (p:=⟨w,5,none⟩) ae.out (yv ga s.g.l.length gc);have ou:=(OU.out.on hb).setCell (p:=⟨w,5,none⟩) ab.out (yv ga s.g.l.length gc);have ous:=(OUS.out.later hb).setLow (OU.out.on hb) (p:=⟨w,5,none⟩) ab.out (yv ga s.g.l.length gc);have or:=(OR.out.on hb).setCell (p:=⟨w,5,none⟩) ai.out (yv ga s.g.l.length gc);have ors:=(ORS.out.later hb).setLow (OR.out.on hb) (p:=⟨w,5,none⟩) ai.out (yv ga s.g.l.length gc);obtain ⟨v4,hv⟩:∃ V,w4.setCell ⟨w,5,none⟩ (yv ga s.g.l.length gc)=V:=⟨_,rfl⟩;rw [hv] at kv rv bv row sz om ou ous or ors;have ay:=yw hv;have ar:=yw bv;have K4:=yw kv;have R4:=yw rv;have az:=yw hlt;have au:=yw (show v3.heap.size≤v4 by rw [sz];exact hb.size);have OG:=yw row;have OM:=yw om;have OU:=yw ou;have OUS:=yw ous;have OR:=yw or;have ORS:=yw ors;have z0:v4 ⟨w,0,none⟩=some (yx s.t):=kv.cell 0 _ rfl;have z1:v4 ⟨w,1,none⟩=some (yv ma s.m.l.length mc):=kv.cell 1 _ rfl;have z2:v4 ⟨w,2,none⟩=some (yv ua ul.length uc):=kv.cell 2 _ rfl;have z3:v4 ⟨w,3,none⟩=some (yv ra rl.length rc):=kv.cell 3 _ rfl;have z4:v4 ⟨w,4,none⟩=some (yy s.o):=kv.cell 4 _ rfl;have z5:v4 ⟨w,5,none⟩=some (yv ga s.g.l.length gc):=kv.cell 5 _ rfl;have g0:=rv.free 0;have g1:=rv.free 1;have g2:=rv.free 2;have g3:=rv.free 3;have g4:=rv.free 4;have g5:=rv.free 5;have u0:v4 ⟨w+1,0,none⟩=some (yx ⟨#[]⟩):=rv.cell 0 _ rfl;have u1:v4 ⟨w+1,1,none⟩=some (yv none 0 0):=rv.cell 1 _ rfl;have u2:v4 ⟨w+1,2,none⟩=some (yv none 0 0):=rv.cell 2 _ rfl;have u3:v4 ⟨w+1,3,none⟩=some (yv none 0 0):=rv.cell 3 _ rfl;have u4:v4 ⟨w+1,4,none⟩=some (yy false):=rv.cell 4 _ rfl;have u5:v4 ⟨w+1,5,none⟩=some (yv none 0 0):=rv.cell 5 _ rfl;clear hlt hbs kb rb kv rv bv row sz hb om ou ous or ors hog;go_wp2_with fail;clear g0 g1 g2 g3 g4 g5 u0 u1 u2 u3 u4 u5 z0 z1 z2 z3 z4 z5;have lw:w.heap.size+1<wX:=R0.out.lt;have lz1:=ak.out;have lz2:=am.out;have lz3:=ao.out;have lz4:=au.out;have a0:=R4.out;have m0:=OM.out;have c0:=OU.out;have s0:=OUS.out;have d0:=OR.out;have t0:=ORS.out;have e0:=OG.out;have b0:=ar.out;have n0:v4.heap.size=v4:=rfl;have a1:l6 (v4.setCell ⟨w+1,0,none⟩ (yx s.t)) (w+1) #[yx s.t,yv none 0 0,yv none 0 0,yv none 0 0,yy false,yv none 0 0] 26:=a0.set 0 _;have m1:vr (v4.setCell ⟨w+1,0,none⟩ (yx s.t)) wX ⟨ma,s.m.l,mc⟩:=aH m0 (p:=⟨w+1,0,none⟩) lw (yx s.t);have s1:=s0.setLow c0 (p:=⟨w+1,0,none⟩) (by show w.heap.size+1<v1;omega) (yx s.t);have c1:=c0.setCell (p:=⟨w+1,0,none⟩) (by show w.heap.size+1<v1;omega) (yx s.t);have t1:=t0.setLow d0 (p:=⟨w+1,0,none⟩) (by show w.heap.size+1<v2;omega) (yx s.t);have d1:=d0.setCell (p:=⟨w+1,0,none⟩) (by show w.heap.size+1<v2;omega) (yx s.t);have e1:tg (v4.setCell ⟨w+1,0,none⟩ (yx s.t)) v3 ⟨ga,s.g.l,gc⟩:=aH e0 (p:=⟨w+1,0,none⟩) (by show w.heap.size+1<v3;omega) (yx s.t);have b1:=b0.setCell (p:=⟨w+1,0,none⟩) (by show w.heap.size≤w+1;omega) (yx s.t);have n1:(v4.setCell ⟨w+1,0,none⟩ (yx s.t)).heap.size=v4:=(zh _ _ _).trans n0;have a2:l6 ((v4.setCell ⟨w+1,0,none⟩ (yx s.t)).setCell ⟨w+1,1,none⟩ (yv ma s.m.l.length mc)) (w+1) #[yx s.t,yv ma s.m.l.length mc,yv none 0 0,yv none 0 0,yy false,yv none 0 0] 26:=a1.set 1 _;have m2:vr ((v4.setCell ⟨w+1,0,none⟩ (yx s.t)).setCell ⟨w+1,1,none⟩ (yv ma s.m.l.length mc)) wX ⟨ma,s.m.l,mc⟩:=aH m1 (p:=⟨w+1,1,none⟩) lw (yv ma s.m.l.length mc);have s2:=s1.setLow c1 (p:=⟨w+1,1,none⟩) (by show w.heap.size+1<v1;omega) (yv ma s.m.l.length mc);have c2:=c1.setCell (p:=⟨w+1,1,none⟩) (by show w.heap.size+1<v1;omega) (yv ma s.m.l.length mc);have t2:=t1.setLow d1 (p:=⟨w+1,1,none⟩) (by show w.heap.size+1<v2;omega) (yv ma s.m.l.length mc);have d2:=d1.setCell (p:=⟨w+1,1,none⟩) (by show w.heap.size+1<v2;omega) (yv ma s.m.l.length mc);have e2:tg ((v4.setCell ⟨w+1,0,none⟩ (yx s.t)).setCell ⟨w+1,1,none⟩ (yv ma s.m.l.length mc)) v3 ⟨ga,s.g.l,gc⟩:=aH e1 (p:=⟨w+1,1,none⟩) (by show w.heap.size+1<v3;omega) (yv ma s.m.l.length mc);have b2:=b1.setCell (p:=⟨w+1,1,none⟩) (by show w.heap.size≤w+1;omega) (yv ma s.m.l.length mc);have n2:((v4.setCell ⟨w+1,0,none⟩ (yx s.t)).setCell ⟨w+1,1,none⟩ (yv ma s.m.l.length mc)).heap.size=v4:=(zh _ _ _).trans n1;have a3:l6 (((v4.setCell ⟨w+1,0,none⟩ (yx s.t)).setCell ⟨w+1,1,none⟩ (yv ma s.m.l.length mc)).setCell ⟨w+1,2,none⟩ (yv ua ul.length uc)) (w+1) #[yx s.t,yv ma s.m.l.length mc,yv ua ul.length uc,yv none 0 0,yy false,yv none 0 0] 26:=a2.set 2 _;have m3:vr (((v4.setCell ⟨w+1,0,none⟩ (yx s.t)).setCell ⟨w+1,1,none⟩ (yv ma s.m.l.length mc)).setCell ⟨w+1,2,none⟩ (yv ua ul.length uc)) wX ⟨ma,s.m.l,mc⟩:=aH m2 (p:=⟨w+1,2,none⟩) lw (yv ua ul.length uc);have s3:=s2.setLow c2 (p:=⟨w+1,2,none⟩) (by show w.heap.size+1<v1;omega) (yv ua ul.length uc);have c3:=c2.setCell (p:=⟨w+1,2,none⟩) (by show w.heap.size+1<v1;omega) (yv ua ul.length uc);have t3:=t2.setLow d2 (p:=⟨w+1,2,none⟩) (by show w.heap.size+1<v2;omega) (yv ua ul.length uc);have d3:=d2.setCell (p:=⟨w+1,2,none⟩) (by show w.heap.size+1<v2;omega) (yv ua ul.length uc);have e3:tg (((v4.setCell ⟨w+1,0,none⟩ (yx s.t)).setCell ⟨w+1,1,none⟩ (yv ma s.m.l.length mc)).setCell ⟨w+1,2,none⟩ (yv ua ul.length uc)) v3 ⟨ga,s.g.l,gc⟩:=aH e2 (p:=⟨w+1,2,none⟩) (by show w.heap.size+1<v3;omega) (yv ua ul.length uc);have b3:=b2.setCell (p:=⟨w+1,2,none⟩) (by show w.heap.size≤w+1;omega) (yv ua ul.length uc);have n3:(((v4.setCell ⟨w+1,0,none⟩ (yx s.t)).setCell ⟨w+1,1,none⟩ (yv ma s.m.l.length mc)).setCell ⟨w+1,2,none⟩ (yv ua ul.length uc)).heap.size=v4:=(zh _ _ _).trans n2;have a4:l6 ((((v4.setCell ⟨w+1,0,none⟩ (yx s.t)).setCell ⟨w+1,1,none⟩ (yv ma s.m.l.length mc)).setCell ⟨w+1,2,none⟩ (yv ua ul.length uc)).setCell ⟨w+1,3,none⟩ (yv ra rl.length rc)) (w+1) #[yx s.t,yv ma s.m.l.length mc,yv ua ul.length uc,yv ra rl.length rc,yy false,yv none 0 0] 26:=a3.set 3 _;have m4:vr ((((v4.setCell ⟨w+1,0,none⟩ (yx s.t)).setCell ⟨w+1,1,none⟩ (yv ma s.m.l.length mc)).setCell ⟨w+1,2,none⟩ (yv ua ul.length uc)).setCell ⟨w+1,3,none⟩ (yv ra rl.length rc)) wX ⟨ma,s.m.l,mc⟩:=aH m3 (p:=⟨w+1,3,none⟩) lw (yv ra rl.length rc);have s4:=s3.setLow c3 (p:=⟨w+1,3,none⟩) (by show w.heap.size+1<v1;omega) (yv ra rl.length rc);have c4:=c3.setCell (p:=⟨w+1,3,none⟩) (by show w.heap.size+1<v1;omega) (yv ra rl.length rc);have t4:=t3.setLow d3 (p:=⟨w+1,3,none⟩) (by show w.heap.size+1<v2;omega) (yv ra rl.length rc);have d4:=d3.setCell (p:=⟨w+1,3,none⟩) (by show w.heap.size+1<v2;omega) (yv ra rl.length rc);have e4:tg ((((v4.setCell ⟨w+1,0,none⟩ (yx s.t)).setCell ⟨w+1,1,none⟩ (yv ma s.m.l.length mc)).setCell ⟨w+1,2,none⟩ (yv ua ul.length uc)).setCell ⟨w+1,3,none⟩ (yv ra rl.length rc)) v3 ⟨ga,s.g.l,gc⟩:=aH e3 (p:=⟨w+1,3,none⟩) (by show w.heap.size+1<v3;omega) (yv ra rl.length rc);have b4:=b3.setCell (p:=⟨w+1,3,none⟩) (by show w.heap.size≤w+1;omega) (yv ra rl.length rc);have n4:((((v4.setCell ⟨w+1,0,none⟩ (yx s.t)).setCell ⟨w+1,1,none⟩ (yv ma s.m.l.length mc)).setCell ⟨w+1,2,none⟩ (yv ua ul.length uc)).setCell ⟨w+1,3,none⟩ (yv ra rl.length rc)).heap.size=v4:=(zh _ _ _).trans n3;have a5:l6 (((((v4.setCell ⟨w+1,0,none⟩ (yx s.t)).setCell ⟨w+1,1,none⟩ (yv ma s.m.l.length mc)).setCell ⟨w+1,2,none⟩ (yv ua ul.length uc)).setCell ⟨w+1,3,none⟩ (yv ra rl.length rc)).setCell ⟨w+1,4,none⟩ (yy s.o)) (w+1) #[yx s.t,yv ma s.m.l.length mc,yv ua ul.length uc,yv ra rl.length rc,yy s.o,yv none 0 0] 26:=a4.set 4 _;have m5:vr (((((v4.setCell ⟨w+1,0,none⟩ (yx s.t)).setCell ⟨w+1,1,none⟩ (yv ma s.m.l.length mc)).setCell ⟨w+1,2,none⟩ (yv ua ul.length uc)).setCell ⟨w+1,3,none⟩ (yv ra rl.length rc)).setCell ⟨w+1,4,none⟩ (yy s.o)) wX ⟨ma,s.m.l,mc⟩:=aH m4 (p:=⟨w+1,4,none⟩) lw (yy s.o);have s5:=s4.setLow c4 (p:=⟨w+1,4,none⟩) (by show w.heap.size+1<v1;omega) (yy s.o);have c5:=c4.setCell (p:=⟨w+1,4,none⟩) (by show w.heap.size+1<v1;omega) (yy s.o);have t5:=t4.setLow d4 (p:=⟨w+1,4,none⟩) (by show w.heap.size+1<v2;omega) (yy s.o);have d5:=d4.setCell (p:=⟨w+1,4,none⟩) (by show w.heap.size+1<v2;omega) (yy s.o);have e5:tg (((((v4.setCell ⟨w+1,0,none⟩ (yx s.t)).setCell ⟨w+1,1,none⟩ (yv ma s.m.l.length mc)).setCell ⟨w+1,2,none⟩ (yv ua ul.length uc)).setCell ⟨w+1,3,none⟩ (yv ra rl.length rc)).setCell ⟨w+1,4,none⟩ (yy s.o)) v3 ⟨ga,s.g.l,gc⟩:=aH e4 (p:=⟨w+1,4,none⟩) (by show w.heap.size+1<v3;omega) (yy s.o);have b5:=b4.setCell (p:=⟨w+1,4,none⟩) (by show w.heap.size≤w+1;omega) (yy s.o);have n5:(((((v4.setCell ⟨w+1,0,none⟩ (yx s.t)).setCell ⟨w+1,1,none⟩ (yv ma s.m.l.length mc)).setCell ⟨w+1,2,none⟩ (yv ua ul.length uc)).setCell ⟨w+1,3,none⟩ (yv ra rl.length rc)).setCell ⟨w+1,4,none⟩ (yy s.o)).heap.size=v4:=(zh _ _ _).trans n4;have a6:l6 ((((((v4.setCell ⟨w+1,0,none⟩ (yx s.t)).setCell ⟨w+1,1,none⟩ (yv ma s.m.l.length mc)).setCell ⟨w+1,2,none⟩ (yv ua ul.length uc)).setCell ⟨w+1,3,none⟩ (yv ra rl.length rc)).setCell ⟨w+1,4,none⟩ (yy s.o)).setCell ⟨w+1,5,none⟩ (yv ga s.g.l.length gc)) (w+1) #[yx s.t,yv ma s.m.l.length mc,yv ua ul.length uc,yv ra rl.length rc,yy s.o,yv ga s.g.l.length gc] 26:=a5.set 5 _;have m6:vr ((((((v4.setCell ⟨w+1,0,none⟩ (yx s.t)).setCell ⟨w+1,1,none⟩ (yv ma s.m.l.length mc)).setCell ⟨w+1,2,none⟩ (yv ua ul.length uc)).setCell ⟨w+1,3,none⟩ (yv ra rl.length rc)).setCell ⟨w+1,4,none⟩ (yy s.o)).setCell ⟨w+1,5,none⟩ (yv ga s.g.l.length gc)) wX ⟨ma,s.m.l,mc⟩:=aH m5 (p:=⟨w+1,5,none⟩) lw (yv ga s.g.l.length gc);have s6:=s5.setLow c5 (p:=⟨w+1,5,none⟩) (by show w.heap.size+1<v1;omega) (yv ga s.g.l.length gc);have c6:=c5.setCell (p:=⟨w+1,5,none⟩) (by show w.heap.size+1<v1;omega) (yv ga s.g.l.length gc);have t6:=t5.setLow d5 (p:=⟨w+1,5,none⟩) (by show w.heap.size+1<v2;omega) (yv ga s.g.l.length gc);have d6:=d5.setCell (p:=⟨w+1,5,none⟩) (by show w.heap.size+1<v2;omega) (yv ga s.g.l.length gc);have e6:tg ((((((v4.setCell ⟨w+1,0,none⟩ (yx s.t)).setCell ⟨w+1,1,none⟩ (yv ma s.m.l.length mc)).setCell ⟨w+1,2,none⟩ (yv ua ul.length uc)).setCell ⟨w+1,3,none⟩ (yv ra rl.length rc)).setCell ⟨w+1,4,none⟩ (yy s.o)).setCell ⟨w+1,5,none⟩ (yv ga s.g.l.length gc)) v3 ⟨ga,s.g.l,gc⟩:=aH e5 (p:=⟨w+1,5,none⟩) (by show w.heap.size+1<v3;omega) (yv ga s.g.l.length gc);have b6:=b5.setCell (p:=⟨w+1,5,none⟩) (by show w.heap.size≤w+1;omega) (yv ga s.g.l.length gc);have n6:((((((v4.setCell ⟨w+1,0,none⟩ (yx s.t)).setCell ⟨w+1,1,none⟩ (yv ma s.m.l.length mc)).setCell ⟨w+1,2,none⟩ (yv ua ul.length uc)).setCell ⟨w+1,3,none⟩ (yv ra rl.length rc)).setCell ⟨w+1,4,none⟩ (yy s.o)).setCell ⟨w+1,5,none⟩ (yv ga s.g.l.length gc)).heap.size=v4:=(zh _ _ _).trans n5;refine bodyPost_ret (results_cell_row (P:=prog) (fn:=Tryz.f56) (p:=2) (ty:=26) rfl _ _ (w+1) 26 _ (0,0) _ rfl a6 underlying26 rfl lg) rfl ?_;refine ⟨⟨s.t,⟨ma,s.m.l,mc⟩,⟨ua,ul,uc⟩,⟨ra,rl,rc⟩,s.o,⟨ga,s.g.l,gc⟩⟩,v1.heap.size,v2.heap.size,v3.heap.size,rfl,?_⟩;exact ⟨by unfold lz.d;simp only [an.out,aq.out],by have:=aa.out.size;omega,lf,lf,by rw [n6];omega,oD m6 aa.out.size,al.out,c6,ah.out.1,ah.out.2,s6,d6,aj.out.1,aj.out.2,t6,e6,b6⟩
def qu (l:List mo):Nat:=(l.map fun x=>x.l.length).sum
theorem sN (l:List mo) (k:Nat) (h:k<l.length):qu (l.take (k+1))=qu (l.take k)+(l[k]!).l.length:=by
 unfold qu;rw [List.take_succ_eq_append_getElem h,Ap,Aq,og h];simp
theorem zX (l:List mo) (k:Nat):qu (l.take k)≤qu l:=by
 have e:=congrArg qu (List.take_append_drop k l);unfold qu at e ⊢;rw [Ap,Aq] at e;omega
theorem xH {l:List mo} {x:mo} (h:x∈l):x.l.length≤qu l:=by
 induction l with
 | nil=>cases h
 | cons y r ih =>
  unfold qu;rw [List.map_cons,List.sum_cons];rcases List.mem_cons.1 h with rfl|h
  ·omega
  ·have:=ih h;unfold qu at this;omega
def lz.few (s:lz):Bool:=decide (s.t.size≤5000∧s.m.l.length≤20∧s.u.l.length≤20∧s.r.l.length≤20∧s.g.l.length≤40∧qu s.u.l+qu s.r.l≤200)
theorem AD (s:lz):s.few=true↔s.t.size≤5000∧s.m.l.length≤20∧s.u.l.length≤20∧s.r.l.length≤20∧s.g.l.length≤40∧qu s.u.l+qu s.r.l≤200:=by unfold lz.few;exact decide_eq_true_iff
theorem RU {s:lz} (h:¬ (s.t.size≤5000∧s.m.l.length≤20∧s.u.l.length≤20∧s.r.l.length≤20∧s.g.l.length≤40∧qu s.u.l+qu s.r.l≤200)):s.few=false:=decide_eq_false h
structure ym (s:lz):Prop where
 t:s.t.size≤zf
 m:s.m.l.length≤zf
 u:s.u.l.length≤zf
 r:s.r.l.length≤zf
 g:s.g.l.length≤zf
 ez:∀ x∈s.u.l++s.r.l,x.l.length≤4611686018427387904
set_option maxHeartbeats 3200000 in
theorem lS (s:lz) (w:ze) (hin:n9 w s) (hl:ym s) :
 zi prog 7 #[s.v] w fun e w'=>e=zp (yy s.few)∧yz w w w':=by
 have hi:=RdI.new w s;obtain ⟨wX,hwX⟩:∃ wX,w.alloc (zd #[yx s.t,yv s.m.a s.m.l.length s.m.c,yv s.u.a s.u.l.length s.u.c,yv s.r.a s.r.l.length s.r.c,yy s.o,yv s.g.a s.g.l.length s.g.c] 26)=wX:=⟨_,rfl⟩;rw [hwX] at hi;have no:=@RU s;have yes:=(AD s).2;have l0:=hl.t;have l1:=hl.m;have l2:=hl.u;have l3:=hl.r;have l5:=hl.g;unfold zf at l0 l1 l2 l3 l5;obtain ⟨R,hR⟩:∃ R,s.few=R:=⟨_,rfl⟩;rw [hR] at no yes ⊢;have HI:=yw hi;have ab:=yw hin;have NO:=yw no;have YES:=yw yes;have ac:=yw hl.ez;have y0:=hi.b0.x0;have y1:=hi.b0.x1;have y2:=hi.b0.x2;have y3:=hi.b0.x3;have y5:=hi.b0.x5;clear hi hin no yes hl hR;by_cases h0:s.t.size≤5000
 case neg =>
  obtain rfl:=NO.out (fun h=>h0 h.1);have g:(5000:Int)<(s.t.size:Int):=lf;go_enter func7,ntmps7;go_wp2;go_ret;exact ⟨rfl,HI.out.bel⟩
 have g0:(s.t.size:Int)≤5000:=lf;by_cases h1:s.m.l.length≤20
 case neg =>
  obtain rfl:=NO.out (fun h=>h1 h.2.1);have g:(20:Int)<(s.m.l.length:Int):=lf;have g':20<s.m.l.length:=lf;go_enter func7,ntmps7;go_wp2;go_ret;exact ⟨rfl,HI.out.bel⟩
 have g1:(s.m.l.length:Int)≤20:=lf;by_cases h2:s.u.l.length≤20
 case neg =>
  obtain rfl:=NO.out (fun h=>h2 h.2.2.1);have g:(20:Int)<(s.u.l.length:Int):=lf;have g':20<s.u.l.length:=lf;go_enter func7,ntmps7;go_wp2;go_ret;exact ⟨rfl,HI.out.bel⟩
 have g2:(s.u.l.length:Int)≤20:=lf;by_cases h3:s.r.l.length≤20
 case neg =>
  obtain rfl:=NO.out (fun h=>h3 h.2.2.2.1);have g:(20:Int)<(s.r.l.length:Int):=lf;have g':20<s.r.l.length:=lf;go_enter func7,ntmps7;go_wp2;go_ret;exact ⟨rfl,HI.out.bel⟩
 have g3:(s.r.l.length:Int)≤20:=lf;by_cases h5:s.g.l.length≤40
 case neg =>
  obtain rfl:=NO.out (fun h=>h5 h.2.2.2.2.1);have g:(40:Int)<(s.g.l.length:Int):=lf;have g':40<s.g.l.length:=lf;go_enter func7,ntmps7;go_wp2;go_ret;exact ⟨rfl,HI.out.bel⟩
 have g5:(s.g.l.length:Int)≤40:=lf;go_enter func7,ntmps7;go_wp2
 go_loop [3,4] (fun z i=>∃ k:Nat,k≤s.u.l.length∧i=zs .i64 k∧z=zs .i64 (qu (s.u.l.take k):Nat)∧qu (s.u.l.take k)≤200) (fun _ i=>s.u.l.length - (zu i).toNat)
 case atStart=>exact ⟨0,zz _,rfl,rfl,by simp [qu]⟩
 case round =>
  obtain ⟨k,hk,rfl,rfl,hle⟩:=hrel;by_cases hlt:k<s.u.l.length
  ·obtain ⟨ad,had,hab,q0⟩:=(ab.out.later HI.out.bel).u.row k hlt;have hm:=sN s.u.l k hlt;have aa:=zX s.u.l (k+1);have hz:=ac.out (s.u.l[k]!) (by rw [og hlt];simp [Aa hlt]);obtain ⟨x,hx⟩:∃ x,s.u.l[k]! = x:=⟨_,rfl⟩;rw [hx] at q0 hm hz;obtain ⟨xa,xl,xc⟩:=x;simp only [mo.v] at q0 hm hz;obtain ⟨n,hn⟩:∃ n,xl.length=n:=⟨_,rfl⟩;rw [hn] at q0 hm hz;obtain ⟨u,hu⟩:∃ u,qu (s.u.l.take k)=u:=⟨_,rfl⟩;rw [hu] at hle ⊢;have hs:qu (s.u.l.take (k+1))=u+n:=lf;have b0:(0:Int)≤(k:Int):=lf;have b1:(k:Int)<(s.u.l.length:Int):=lf;have b3:(u:Int)+(n:Int)≤9223372036854775807:=lf;by_cases hov:200<u+n
   ·obtain rfl:=NO.out (fun h=>by have:=h.2.2.2.2.2;omega);have g:(200:Int)<(u:Int)+(n:Int):=lf;clear hm aa hx hn hu hs hab;go_wp2;go_ret;exact ⟨rfl,HI.out.bel⟩
   ·have g:(u:Int)+(n:Int)≤200:=lf;have HS:=yw hs;clear hm aa hx hn hu hs hab;go_wp2
    go_round
    case rel=>exact ⟨k+1,lf,by go_num,by rw [HS.out];go_num,by rw [HS.out];omega⟩
    case measure=>simp [zu];omega
  ·obtain rfl:k=s.u.l.length:=lf;rw [Ar] at hle ⊢;have b1:¬ s.u.l.length<s.u.l.length:=lf;clear hlt;have hdu:=hle;go_wp2
   go_loop [3,5] (fun z i=>∃ k:Nat,k≤s.r.l.length∧i=zs .i64 k∧z=zs .i64 (qu s.u.l+qu (s.r.l.take k):Nat)∧qu s.u.l+qu (s.r.l.take k)≤200) (fun _ i=>s.r.l.length - (zu i).toNat)
   case atStart=>exact ⟨0,zz _,rfl,by simp [qu],by simpa [qu] using hdu⟩
   case round =>
    obtain ⟨k,hk,rfl,rfl,hle⟩:=hrel;by_cases hlt:k<s.r.l.length
    ·obtain ⟨ad,had,hab,q0⟩:=(ab.out.later HI.out.bel).r.row k hlt;have hm:=sN s.r.l k hlt;have aa:=zX s.r.l (k+1);have hz:=ac.out (s.r.l[k]!) (by rw [og hlt];simp [Aa hlt]);obtain ⟨x,hx⟩:∃ x,s.r.l[k]! = x:=⟨_,rfl⟩;rw [hx] at q0 hm hz;obtain ⟨xa,xl,xc⟩:=x;simp only [mo.v] at q0 hm hz;obtain ⟨n,hn⟩:∃ n,xl.length=n:=⟨_,rfl⟩;rw [hn] at q0 hm hz;obtain ⟨u,hu⟩:∃ u,qu s.u.l+qu (s.r.l.take k)=u:=⟨_,rfl⟩;rw [hu] at hle ⊢;have hs:qu s.u.l+qu (s.r.l.take (k+1))=u+n:=lf;have b0:(0:Int)≤(k:Int):=lf;have b1:(k:Int)<(s.r.l.length:Int):=lf;have b3:(u:Int)+(n:Int)≤9223372036854775807:=lf;by_cases hov:200<u+n
     ·obtain rfl:=NO.out (fun h=>by have:=h.2.2.2.2.2;omega);have g:(200:Int)<(u:Int)+(n:Int):=lf;clear hm aa hx hn hu hs hab;go_wp2;go_ret;exact ⟨rfl,HI.out.bel⟩
     ·have g:(u:Int)+(n:Int)≤200:=lf;have HS:=yw hs;clear hm aa hx hn hu hs hab;go_wp2
      go_round
      case rel=>exact ⟨k+1,lf,by go_num,by rw [HS.out];go_num,by rw [HS.out];omega⟩
      case measure=>simp [zu];omega
    ·obtain rfl:k=s.r.l.length:=lf;rw [Ar] at hle ⊢;have b1:¬ s.r.l.length<s.r.l.length:=lf;clear hlt;obtain rfl:=YES.out ⟨h0,h1,h2,h3,h5,hle⟩;go_wp2;go_ret;exact ⟨rfl,HI.out.bel⟩
end Go.Proofs.YtbagenpobcgjnaaGreat
