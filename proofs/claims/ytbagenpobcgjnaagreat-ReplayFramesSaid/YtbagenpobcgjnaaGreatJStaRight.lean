/-
  Joined: StaRight, StaRight2, StaRef2, StaRef3, StaCopy, StaCopy2, StaFew, StaSame3.
-/
import Derived.Test.YtbagenpobcgjnaaGreatJStaSize
import Derived.Test.YtbagenpobcgjnaaGreatJMarkDev
open Bool renaming and_assoc->A0,and_comm->Ay,and_eq_true->Ax,and_left_comm->Az,false_and->zz,true_and->zy
open Go renaming Boxed->Aa,Calls->zw,Value->Ae,World->zr,maxLen->zt
open Go.Boxed renaming cell->Aq,frozen->Ar,new->Av,set->Au
open Go.Ending renaming returned->Ad
open Go.Lib renaming hid->zm
open Go.Obj renaming cells->zq
open Go.RowKit renaming Below->zp,intOf->Ai
open Go.RowKit.Below renaming refl->Ab
open Go.Value renaming bool->zo,int->Ag,pointer->zx,slice->zk,string->zn
open Go.World renaming cell?_alloc_new->Af,ownsRow_nil->A3,size_alloc->Al,size_setCell->zv
open List renaming getElem_mem->Ao,length_append->A4,map_append->A6,mem_singleton->Am,sum_append->A7,take_length->A8
open Nat renaming le_refl->zu,le_trans->Aj,lt_succ_self->Ak,sub_self->A5,zero_le->An
variable {r0:Bool} {below:ByteArray} {base:Nat} {W w:Go.World}
namespace Go.Proofs.YtbagenpobcgjnaaGreat
open Go.Proofs.Tryz
set_option maxRecDepth 100000
open Lib (hid)
open Go.RowKit
set_option linter.unusedVariables false
set_option linter.unusedSimpArgs false
def yx (t:ByteArray):Bool:=decide (t.size≤4096) && nx t.data.toList
theorem zB (t:ByteArray) (ht:t.size≤zt) (w:zr):zw prog 84 #[zn t] w fun e w'=>e=Ad (zo (yx t))∧zp w w w':=by
 have cv:=dU t ht;unfold yx;obtain ⟨v,hv⟩:∃ v,nx t.data.toList=v:=⟨_,rfl⟩;rw [hv] at cv ⊢;have CV:=zm cv;clear cv hv ht;by_cases h:t.size≤4096
 ·have g:(t.size:Int)≤4096:=lg;rw [decide_eq_true h,zy];go_enter func84,ntmps84;go_wp2_with (first|(go_at_call 105;refine (CV.out _).mono ?_;rintro e w1 ⟨rfl,aa⟩));go_ret;exact ⟨rfl,aa⟩
 ·have g:(4096:Int)<(t.size:Int):=lg;rw [decide_eq_false h,zz];go_enter func84,ntmps84;go_wp2;go_ret;exact ⟨rfl,by first|exact Ab _ _|exact (Ab _ _).drew⟩
def vk (s:l7) (below:ByteArray):Bool:=mq md below (mf s.u.l) && s.edits.all o8
set_option maxHeartbeats 1600000 in
theorem DZ (s:l7) (below:ByteArray) (r0:Bool) (b N:Nat) (u:FrameMode) (w:zr) (hin:ol w s) (hN:N≤b) (h0:Aa w (b+1) 4 (zo r0)) (h1:Aa w (b+2) 9 (zn below))
 (h2:ur b (zn s.t) (zk s.m.a s.m.l.length s.m.c) (zk s.u.a s.u.l.length s.u.c) (zk s.r.a s.r.l.length s.r.c) (zo s.o) (zk s.g.a s.g.l.length s.g.c) w)
 (ht:below.size≤140737488355328) (hu:s.u.l.length≤100) (hr:s.r.l.length≤100) (hz:∀ x∈s.rows,x.l.length≤100000∧sh x.l 140737488355328) :
 CallsD prog 81 #[zx (some ⟨b+1,0,none⟩),zx (some ⟨b+2,0,none⟩),zx (some ⟨b,0,none⟩)] u w fun e u' w'=>u'=u∧e=Ad (.tuple #[])∧Aa w' (b+1) 4 (zo (r0 && vk s below))∧zp N w w':=by
 have cu:=EN below s.u.a s.u.l s.u.c w hin.u ht lg (fun x hx=>hz x (by unfold l7.rows;simp [hx]));have ce:=fun W (hW:zp w w W)=>vY s W (hin.later hW) hu hr (fun x hx=>Aj (hz x hx).1 lj);have hNz:N≤w:=Aj hN (Nat.le_of_lt h2.lt);have f0:=h0.cell;have f1:=h1.cell;have f2:=h2.x2;have fz:=h0.frozen;unfold vk;obtain ⟨R1,ac⟩:∃ R,mq md below (mf s.u.l)=R:=⟨_,rfl⟩;obtain ⟨R2,ad⟩:∃ R,s.edits.all o8=R:=⟨_,rfl⟩;rw [ac] at cu ⊢;rw [ad] at ce ⊢;have H0:=zm h0;have H2:=zm h2;have CU:=zm cu;have CE:=zm ce;have ae:=zm hNz;have HN:=zm hN;clear h0 h1 h2 cu ce ac ad hin ht hu hr hz hNz hN;cases r0 with
 | false =>
  rw [zz]
  go_enter_d func81,ntmps81
  go_wp2
  go_end0
  exact ⟨rfl,H0.out.set _,(Ab _ _).setCell (p:=⟨b+1,0,none⟩) (by have:=HN.out;show N≤b+1;omega) _⟩
 | true =>
  rw [zy];cases R1 with
  | false =>
   rw [zz]
   go_enter_d func81,ntmps81
   go_wp2_with (first|(go_at_call 82;(with_reducible refine CU.out.mono ?_);rintro e w1 ⟨rfl,aa⟩;have g0:=(aa.block _ H0.out.lt).trans H0.out;have HG:=zm (And.intro g0 aa);have f0:=Aq (show Aa w1 (b+1) 4 _ from g0);have fz:=Ar (show Aa w1 (b+1) 4 _ from g0);clear g0 aa))
   go_end0
   exact ⟨rfl,Au (t:=4) (v:=zo true) _ HG.out.1,(HG.out.2.mono ae.out).setCell (p:=⟨b+1,0,none⟩) (by have:=HN.out;show N≤b+1;omega) _⟩
  | true =>
   rw [zy]
   go_enter_d func81,ntmps81
   go_wp2_with (first
    | (go_at_call 82;(with_reducible refine CU.out.mono ?_);rintro e w1 ⟨rfl,aa⟩;have B1:=zm aa;have g2:=H2.out.on aa H2.out.lt;have y0:=g2.x0;have y1:=g2.x1;have y2:=g2.x2;have y3:=g2.x3;have y4:=g2.x4;have y5:=g2.x5;clear g2 aa f0 f1 f2 fz)
    | (go_at_call 83;(with_reducible refine (CE.out _ B1.out).mono ?_);rintro e w2 ⟨rfl,ab⟩;have g0:=(ab.block _ (Nat.lt_of_lt_of_le H0.out.lt B1.out.size)).trans ((B1.out.block _ H0.out.lt).trans H0.out);have HG:=zm (And.intro g0 (B1.out.trans (ab.mono B1.out.size)));have f0:=Aq (show Aa w2 (b+1) 4 _ from g0);have fz:=Ar (show Aa w2 (b+1) 4 _ from g0);clear g0 ab))
   go_end0
   exact ⟨rfl,Au (t:=4) (v:=zo true) _ HG.out.1,(HG.out.2.mono ae.out).setCell (p:=⟨b+1,0,none⟩) (by have:=HN.out;show N≤b+1;omega) _⟩
structure yz (w:zr) (s:l7) (r0:Bool) (below:ByteArray) (W:zr):Prop where
 b0:ur w (zn s.t) (zk s.m.a s.m.l.length s.m.c) (zk s.u.a s.u.l.length s.u.c) (zk s.r.a s.r.l.length s.r.c) (zo s.o) (zk s.g.a s.g.l.length s.g.c) W
 b1:Aa W (w+1) 4 (zo r0)
 b2:Aa W (w+1+1) 9 (zn below)
 bel:zp w w W
theorem yz.on {W2:zr} {s:l7} (h:yz w s r0 below W) (hb:zp W W W2):yz w s r0 below W2:=
 ⟨h.b0.on hb h.b0.lt,(hb.block _ h.b1.lt).trans h.b1,(hb.block _ h.b2.lt).trans h.b2,h.bel.trans (hb.mono h.bel.size)⟩
theorem yz.setr {s:l7} (h:yz w s r0 below W) (r:Bool):yz w s r below (W.setCell ⟨w+1,0,none⟩ (zo r)):=
 ⟨h.b0.on ((Ab (w+1) W).setCell (p:=⟨w+1,0,none⟩) (zu _) _) (Ak _),h.b1.set _,h.b2.other lg _,h.bel.setCell (p:=⟨w+1,0,none⟩) (by show w.heap.size≤w+1;omega) _⟩
theorem yz.setb {s:l7} (h:yz w s r0 below W) (b:ByteArray):yz w s r0 b (W.setCell ⟨w+1+1,0,none⟩ (zn b)):=
 ⟨h.b0.on ((Ab (w+1) W).setCell (p:=⟨w+1+1,0,none⟩) (by show w.heap.size+1≤w+1+1;omega) _) (Ak _),h.b1.other lg _,h.b2.set _,h.bel.setCell (p:=⟨w+1+1,0,none⟩) (by show w.heap.size≤w+1+1;omega) _⟩
theorem yz.new (w:zr) (s:l7):yz w s false s.t (((w.alloc (zq #[zn s.t,zk s.m.a s.m.l.length s.m.c,zk s.u.a s.u.l.length s.u.c,zk s.r.a s.r.l.length s.r.c,zo s.o,zk s.g.a s.g.l.length s.g.c] 26)).alloc (zq #[zo false] 4)).alloc (zq #[zn s.t] 9)):=by
 have e1:(w.alloc (zq #[zn s.t,zk s.m.a s.m.l.length s.m.c,zk s.u.a s.u.l.length s.u.c,zk s.r.a s.r.l.length s.r.c,zo s.o,zk s.g.a s.g.l.length s.g.c] 26)).heap.size=w+1:=li;refine ⟨((ur.new w _ _ _ _ _ _ _).on (ns _ _) li).on (ns _ _) lr,?_,?_,(qk _ _ _).trans ((ns _ _).mono lr)⟩
 ·have:=Av (w.alloc (zq #[zn s.t,zk s.m.a s.m.l.length s.m.c,zk s.u.a s.u.l.length s.u.c,zk s.r.a s.r.l.length s.r.c,zo s.o,zk s.g.a s.g.l.length s.g.c] 26)) 4 (zo false);rw [Al] at this;exact this.alloc _
 ·have:=Av ((w.alloc (zq #[zn s.t,zk s.m.a s.m.l.length s.m.c,zk s.u.a s.u.l.length s.u.c,zk s.r.a s.r.l.length s.r.c,zo s.o,zk s.g.a s.g.l.length s.g.c] 26)).alloc (zq #[zo false] 4)) 9 (zn s.t);rw [Al,Al] at this;exact this
structure tg (s:l7):Prop where
 t:s.t.size≤1000000000
 m:s.m.l.length≤1000000
 mz:∀ x∈s.m.l,x.name.size≤zt
 u:s.u.l.length≤100
 r:s.r.l.length≤100
 z:∀ x∈s.rows,x.l.length≤100000∧sh x.l 140737488355328
theorem tg.g {s:l7} (h:tg s):s.g.l.length≤100000∧sh s.g.l 140737488355328:=h.z _ (by unfold l7.rows;simp)
theorem bW {s:l7} {R:Bool} {tmps:Array Ae} (hi:yz w s r0 below W) (hR:(r0 && vk s below)=R) (ht0:tmps.getD 2 undef=zx (some ⟨w+1,0,none⟩)) (hin:ol w s) (hbz:below.size≤140737488355328) (hz:tg s) :
 bodyPostD prog Tryz.f54 (wp R w) .ret { tmps:=tmps,defers:=[{ target:=.fn (.func 81) #[zx (some ⟨w+1,0,none⟩),zx (some ⟨w+1+1,0,none⟩),zx (some ⟨w,0,none⟩)],args:=#[] }] } W:=by
 refine leaves_cons (f:=81) (args:=#[zx (some ⟨w+1,0,none⟩),zx (some ⟨w+1+1,0,none⟩),zx (some ⟨w,0,none⟩)]) li (by simp [go_sem]) ?_;refine (DZ s below r0 w w .returning W (hin.later hi.bel) (zu _) hi.b1 hi.b2 hi.b0 hbz hz.u hz.r hz.z).mono ?_;rintro e u' w'' ⟨rfl,rfl,hbox,hbel⟩;exact ⟨_,jH rfl underlying4 (by intro w;kernel_rfl) _ _ ⟨w+1,0,none⟩ R ht0 (by rw [← hR];exact hbox.cell),rfl,hi.bel.trans hbel⟩
def pz (s:l7):Bool:=yx s.t && (nf s.m.l s.t && (mq id s.t (mf s.r.l) && (if s.g.l.length=0 then vk s s.t else (s.o && (decide (s.r.l.length=0) && (m9 s.t (md s.g.l) && vk s (ms s.t (md s.g.l)).1))))))
set_option maxHeartbeats 3200000 in
theorem oN (s:l7) (w:zr) (hin:ol w s) (hz:tg s):zw prog 54 #[s.v] w (wp (pz s) w):=by
 have hmf:∀ (fn:Fn) (first cap:Array Ae) (w:zr),(Instr.makeFunc fn first cap).run prog w=.ok (.func fn first cap) w:=fun _ _ _ _=>rfl;have cT:=fun W=>zB s.t (by have:=hz.t;unfold zt;omega) W;have cM:=fun W (hW:zp w w W)=>DY s.m.a s.m.l s.m.c s.t _ W (hin.later hW).m.row (fun _ h=>h) hz.mz (by have:=hz.t;unfold zt;omega) hz.m;have cD:=fun W (hW:zp w w W)=>FV s.t s.r.a s.r.l s.r.c W (hin.later hW).r (by have:=hz.t;omega) (by have:=hz.r;omega) (fun x hx=>hz.z x (by unfold l7.rows;simp [hx]));have cI:=fun W (hW:zp w w W)=>pN s.g.a s.g.l s.g.c W (hin.later hW).g.row hz.g.1;have cR:=fun W (hW:zp w w W) ba bc (hr:o0 W ⟨ba,md s.g.l,bc⟩)=>by
  have h:=qS s.t ba (md s.g.l) bc W hr.row (by have:=hz.t;omega) (by rw [aF];have:=hz.g.1;omega) hz.g.2.inv;rw [aF] at h;exact h
 have cX:=fun W (hW:zp w w W) ba bc (hr:o0 W ⟨ba,md s.g.l,bc⟩)=>by
  have h:=iT s.t ba (md s.g.l) bc W hr.row (by have:=hz.t;omega) (by rw [aF];have:=hz.g.1;omega) hz.g.2.inv;rw [aF] at h;exact h
 have hi:=yz.new w s;have htz:s.t.size≤140737488355328:=by have:=hz.t;omega
 have hsz:m9 s.t (md s.g.l)=true→(ms s.t (md s.g.l)).1.size≤140737488355328:=fun h=>by have:=eE h;have:=hz.t;omega
 unfold pz;obtain ⟨T,hT⟩:∃ T,yx s.t=T:=⟨_,rfl⟩;obtain ⟨M,hM⟩:∃ M,nf s.m.l s.t=M:=⟨_,rfl⟩;obtain ⟨Q,hQ⟩:∃ Q,mq id s.t (mf s.r.l)=Q:=⟨_,rfl⟩;obtain ⟨V,hV⟩:∃ V,m9 s.t (md s.g.l)=V:=⟨_,rfl⟩;obtain ⟨⟨B,E⟩,hB⟩:∃ B,ms s.t (md s.g.l)=B:=⟨_,rfl⟩;obtain ⟨L0,ay⟩:∃ L,vk s s.t=L:=⟨_,rfl⟩;rw [hB] at cX hsz;rw [hT] at cT;rw [hM] at cM;rw [hQ] at cD;rw [hV] at cR hsz;rw [hT,hM,hQ,hV,hB,ay];dsimp only;obtain ⟨L1,az⟩:∃ L,vk s B=L:=⟨_,rfl⟩;rw [az];obtain ⟨wX,hwX⟩:∃ wX,((w.alloc (zq #[zn s.t,zk s.m.a s.m.l.length s.m.c,zk s.u.a s.u.l.length s.u.c,zk s.r.a s.r.l.length s.r.c,zo s.o,zk s.g.a s.g.l.length s.g.c] 26)).alloc (zq #[zo false] 4)).alloc (zq #[zn s.t] 9)=wX:=⟨_,rfl⟩;rw [hwX] at hi;have hrl:s.r.l.length≤100:=hz.r;have hgl:s.g.l.length≤100000:=hz.g.1;have ai:=zm hi;have CT:=zm cT;have CM:=zm cM;have CD:=zm cD;have CI:=zm cI;have CR:=zm cR;have CX:=zm cX;have aq:=zm hin;have HZ:=zm hz;have a3:=zm ay;have a4:=zm az;have ar:=zm htz;have a5:=zm hsz;have p0:=ai.out.b0.x0;have p1:=ai.out.b0.x1;have p3:=ai.out.b0.x3;have p4:=ai.out.b0.x4;have p5:=ai.out.b0.x5;have c1:=ai.out.b1.cell;have z1:=ai.out.b1.frozen;have c2:=ai.out.b2.cell;have z2:=ai.out.b2.frozen;clear hi cT cM cD cI cR cX hin hz hT hM hQ hV hB ay az htz hsz;cases T with
 | false =>
  rw [zz]
  go_enter_defers func54,ntmps54
  go_wp2_with (first
   | (go_at_call 84;(with_reducible refine (CT.out _).mono ?_);rintro e w1 ⟨rfl,ae⟩;have aa:=zm (ai.out.on ae);clear ae;clear p0 p1 p3 p4 p5 c1 z1 c2 z2;have p0:=aa.out.b0.x0;have p1:=aa.out.b0.x1;have p3:=aa.out.b0.x3;have p4:=aa.out.b0.x4;have p5:=aa.out.b0.x5;have c1:=aa.out.b1.cell;have z1:=aa.out.b1.frozen;have c2:=aa.out.b2.cell;have z2:=aa.out.b2.frozen))
  exact bW (aa.out.setr false) lm rfl aq.out ar.out HZ.out
 | true =>
  rw [zy];cases M with
  | false =>
   rw [zz]
   go_enter_defers func54,ntmps54
   go_wp2_with (first
    | (go_at_call 84;(with_reducible refine (CT.out _).mono ?_);rintro e w1 ⟨rfl,ae⟩;have aa:=zm (ai.out.on ae);clear ae;clear p0 p1 p3 p4 p5 c1 z1 c2 z2;have p0:=aa.out.b0.x0;have p1:=aa.out.b0.x1;have p3:=aa.out.b0.x3;have p4:=aa.out.b0.x4;have p5:=aa.out.b0.x5;have c1:=aa.out.b1.cell;have z1:=aa.out.b1.frozen;have c2:=aa.out.b2.cell;have z2:=aa.out.b2.frozen)
    | (go_at_call 85;(with_reducible refine (CM.out _ aa.out.bel).mono ?_);rintro e w2 ⟨rfl,ah⟩;have ab:=zm (aa.out.on ah);clear ah;clear p0 p1 p3 p4 p5 c1 z1 c2 z2;have p0:=ab.out.b0.x0;have p1:=ab.out.b0.x1;have p3:=ab.out.b0.x3;have p4:=ab.out.b0.x4;have p5:=ab.out.b0.x5;have c1:=ab.out.b1.cell;have z1:=ab.out.b1.frozen;have c2:=ab.out.b2.cell;have z2:=ab.out.b2.frozen))
   exact bW (ab.out.setr false) lm rfl aq.out ar.out HZ.out
  | true =>
   rw [zy];cases Q with
   | false =>
    rw [zz]
    go_enter_defers func54,ntmps54
    go_wp2_with (first
     | (go_at_call 84;(with_reducible refine (CT.out _).mono ?_);rintro e w1 ⟨rfl,ae⟩;have aa:=zm (ai.out.on ae);clear ae;clear p0 p1 p3 p4 p5 c1 z1 c2 z2;have p0:=aa.out.b0.x0;have p1:=aa.out.b0.x1;have p3:=aa.out.b0.x3;have p4:=aa.out.b0.x4;have p5:=aa.out.b0.x5;have c1:=aa.out.b1.cell;have z1:=aa.out.b1.frozen;have c2:=aa.out.b2.cell;have z2:=aa.out.b2.frozen)
     | (go_at_call 85;(with_reducible refine (CM.out _ aa.out.bel).mono ?_);rintro e w2 ⟨rfl,ah⟩;have ab:=zm (aa.out.on ah);clear ah;clear p0 p1 p3 p4 p5 c1 z1 c2 z2;have p0:=ab.out.b0.x0;have p1:=ab.out.b0.x1;have p3:=ab.out.b0.x3;have p4:=ab.out.b0.x4;have p5:=ab.out.b0.x5;have c1:=ab.out.b1.cell;have z1:=ab.out.b1.frozen;have c2:=ab.out.b2.cell;have z2:=ab.out.b2.frozen)
     | (go_at_call 86;(with_reducible refine (CD.out _ ab.out.bel).mono ?_);rintro e w3 ⟨rfl,aj⟩;have ac:=zm (ab.out.on aj);clear aj;clear p0 p1 p3 p4 p5 c1 z1 c2 z2;have p0:=ac.out.b0.x0;have p1:=ac.out.b0.x1;have p3:=ac.out.b0.x3;have p4:=ac.out.b0.x4;have p5:=ac.out.b0.x5;have c1:=ac.out.b1.cell;have z1:=ac.out.b1.frozen;have c2:=ac.out.b2.cell;have z2:=ac.out.b2.frozen))
    exact bW (ac.out.setr false) lm rfl aq.out ar.out HZ.out
   | true =>
    rw [zy];by_cases hg:s.g.l.length=0
    ·rw [if_pos hg];have a6:(s.g.l.length:Int)≤0:=lg;clear hg
     go_enter_defers func54,ntmps54
     go_wp2_with (first
      | (go_at_call 84;(with_reducible refine (CT.out _).mono ?_);rintro e w1 ⟨rfl,ae⟩;have aa:=zm (ai.out.on ae);clear ae;clear p0 p1 p3 p4 p5 c1 z1 c2 z2;have p0:=aa.out.b0.x0;have p1:=aa.out.b0.x1;have p3:=aa.out.b0.x3;have p4:=aa.out.b0.x4;have p5:=aa.out.b0.x5;have c1:=aa.out.b1.cell;have z1:=aa.out.b1.frozen;have c2:=aa.out.b2.cell;have z2:=aa.out.b2.frozen)
      | (go_at_call 85;(with_reducible refine (CM.out _ aa.out.bel).mono ?_);rintro e w2 ⟨rfl,ah⟩;have ab:=zm (aa.out.on ah);clear ah;clear p0 p1 p3 p4 p5 c1 z1 c2 z2;have p0:=ab.out.b0.x0;have p1:=ab.out.b0.x1;have p3:=ab.out.b0.x3;have p4:=ab.out.b0.x4;have p5:=ab.out.b0.x5;have c1:=ab.out.b1.cell;have z1:=ab.out.b1.frozen;have c2:=ab.out.b2.cell;have z2:=ab.out.b2.frozen)
      | (go_at_call 86;(with_reducible refine (CD.out _ ab.out.bel).mono ?_);rintro e w3 ⟨rfl,aj⟩;have ac:=zm (ab.out.on aj);clear aj;clear p0 p1 p3 p4 p5 c1 z1 c2 z2;have p0:=ac.out.b0.x0;have p1:=ac.out.b0.x1;have p3:=ac.out.b0.x3;have p4:=ac.out.b0.x4;have p5:=ac.out.b0.x5;have c1:=ac.out.b1.cell;have z1:=ac.out.b1.frozen;have c2:=ac.out.b2.cell;have z2:=ac.out.b2.frozen))
     exact bW (ac.out.setr true) (by rw [a3.out];rfl) rfl aq.out ar.out HZ.out
    ·rw [if_neg hg];have a6:(0:Int)<(s.g.l.length:Int):=lg;have hor:s.o=true∨s.o=false:=by cases s.o <;> simp
     rcases hor with ho|ho
     ·rw [ho,zy];by_cases hr:s.r.l.length=0
      ·rw [decide_eq_true hr,zy];have a7:(s.r.l.length:Int)≤0:=lg;have a8:¬ 0<s.r.l.length:=lg;clear hr;cases V with
       | false =>
        rw [zz]
        go_enter_defers func54,ntmps54
        go_upto_region 7 with (first
         | (go_at_call 84;(with_reducible refine (CT.out _).mono ?_);rintro e w1 ⟨rfl,ae⟩;have aa:=zm (ai.out.on ae);clear ae;clear p0 p1 p3 p4 p5 c1 z1 c2 z2;have p0:=aa.out.b0.x0;have p1:=aa.out.b0.x1;have p3:=aa.out.b0.x3;have p4:=aa.out.b0.x4;have p5:=aa.out.b0.x5;have c1:=aa.out.b1.cell;have z1:=aa.out.b1.frozen;have c2:=aa.out.b2.cell;have z2:=aa.out.b2.frozen)
         | (go_at_call 85;(with_reducible refine (CM.out _ aa.out.bel).mono ?_);rintro e w2 ⟨rfl,ah⟩;have ab:=zm (aa.out.on ah);clear ah;clear p0 p1 p3 p4 p5 c1 z1 c2 z2;have p0:=ab.out.b0.x0;have p1:=ab.out.b0.x1;have p3:=ab.out.b0.x3;have p4:=ab.out.b0.x4;have p5:=ab.out.b0.x5;have c1:=ab.out.b1.cell;have z1:=ab.out.b1.frozen;have c2:=ab.out.b2.cell;have z2:=ab.out.b2.frozen)
         | (go_at_call 86;(with_reducible refine (CD.out _ ab.out.bel).mono ?_);rintro e w3 ⟨rfl,aj⟩;have ac:=zm (ab.out.on aj);clear aj;clear p0 p1 p3 p4 p5 c1 z1 c2 z2;have p0:=ac.out.b0.x0;have p1:=ac.out.b0.x1;have p3:=ac.out.b0.x3;have p4:=ac.out.b0.x4;have p5:=ac.out.b0.x5;have c1:=ac.out.b1.cell;have z1:=ac.out.b1.frozen;have c2:=ac.out.b2.cell;have z2:=ac.out.b2.frozen)
         | (go_at_call 87;refine (CI.out _ ac.out.bel).mono ?_;rintro e w4 ⟨ba,bc,rfl,hrow,am⟩;have au:=zm (ac.out.on am);have an:=zm hrow;clear am hrow;clear p0 p1 p3 p4 p5 c1 z1 c2 z2))
        rw [aF];obtain ⟨w5,af⟩:∃ w5,w4.alloc (zq #[zk ba s.g.l.length bc] 54)=w5:=⟨_,rfl⟩;rw [af];have ak:zp w4 w4 w5:=by rw [← af];exact ns _ _
        have ad:=zm (au.out.on ak);have av:=zm (an.out.in.later ak);have aw:=zm (show w4.heap.size<w5.heap.size by rw [← af];simp);have k0:w5 ⟨w4,0,none⟩=some (zk ba s.g.l.length bc):=by rw [← af];simp [Af]
        have ax:=zm k0;clear af ak;have p0:=ad.out.b0.x0;have p1:=ad.out.b0.x1;have p3:=ad.out.b0.x3;have p4:=ad.out.b0.x4;have p5:=ad.out.b0.x5;have c1:=ad.out.b1.cell;have z1:=ad.out.b1.frozen;have c2:=ad.out.b2.cell;have z2:=ad.out.b2.frozen;rw [ho] at p4;go_wp2_with (first
         | (go_at_call 88;(with_reducible refine (CR.out _ ad.out.bel _ _ av.out).mono ?_);rintro e w6 ⟨rfl,ao⟩;have ag:=zm (ad.out.on ao);have a1:=zm (av.out.later ao);have a0:=zm ((ao.cell (p:=⟨w4,0,none⟩) aw.out).trans ax.out);clear ao k0;clear p0 p1 p3 p4 p5 c1 z1 c2 z2;have p0:=ag.out.b0.x0;have p1:=ag.out.b0.x1;have p3:=ag.out.b0.x3;have p4:=ag.out.b0.x4;have p5:=ag.out.b0.x5;have c1:=ag.out.b1.cell;have z1:=ag.out.b1.frozen;have c2:=ag.out.b2.cell;have z2:=ag.out.b2.frozen;have k0:=a0.out))
        exact bW (ag.out.setr false) lm rfl aq.out ar.out HZ.out
       | true =>
        rw [zy]
        go_enter_defers func54,ntmps54
        go_upto_region 7 with (first
         | (go_at_call 84;(with_reducible refine (CT.out _).mono ?_);rintro e w1 ⟨rfl,ae⟩;have aa:=zm (ai.out.on ae);clear ae;clear p0 p1 p3 p4 p5 c1 z1 c2 z2;have p0:=aa.out.b0.x0;have p1:=aa.out.b0.x1;have p3:=aa.out.b0.x3;have p4:=aa.out.b0.x4;have p5:=aa.out.b0.x5;have c1:=aa.out.b1.cell;have z1:=aa.out.b1.frozen;have c2:=aa.out.b2.cell;have z2:=aa.out.b2.frozen)
         | (go_at_call 85;(with_reducible refine (CM.out _ aa.out.bel).mono ?_);rintro e w2 ⟨rfl,ah⟩;have ab:=zm (aa.out.on ah);clear ah;clear p0 p1 p3 p4 p5 c1 z1 c2 z2;have p0:=ab.out.b0.x0;have p1:=ab.out.b0.x1;have p3:=ab.out.b0.x3;have p4:=ab.out.b0.x4;have p5:=ab.out.b0.x5;have c1:=ab.out.b1.cell;have z1:=ab.out.b1.frozen;have c2:=ab.out.b2.cell;have z2:=ab.out.b2.frozen)
         | (go_at_call 86;(with_reducible refine (CD.out _ ab.out.bel).mono ?_);rintro e w3 ⟨rfl,aj⟩;have ac:=zm (ab.out.on aj);clear aj;clear p0 p1 p3 p4 p5 c1 z1 c2 z2;have p0:=ac.out.b0.x0;have p1:=ac.out.b0.x1;have p3:=ac.out.b0.x3;have p4:=ac.out.b0.x4;have p5:=ac.out.b0.x5;have c1:=ac.out.b1.cell;have z1:=ac.out.b1.frozen;have c2:=ac.out.b2.cell;have z2:=ac.out.b2.frozen)
         | (go_at_call 87;refine (CI.out _ ac.out.bel).mono ?_;rintro e w4 ⟨ba,bc,rfl,hrow,am⟩;have au:=zm (ac.out.on am);have an:=zm hrow;clear am hrow;clear p0 p1 p3 p4 p5 c1 z1 c2 z2))
        rw [aF];obtain ⟨w5,af⟩:∃ w5,w4.alloc (zq #[zk ba s.g.l.length bc] 54)=w5:=⟨_,rfl⟩;rw [af];have ak:zp w4 w4 w5:=by rw [← af];exact ns _ _
        have ad:=zm (au.out.on ak);have av:=zm (an.out.in.later ak);have aw:=zm (show w4.heap.size<w5.heap.size by rw [← af];simp);have k0:w5 ⟨w4,0,none⟩=some (zk ba s.g.l.length bc):=by rw [← af];simp [Af]
        have ax:=zm k0;clear af ak;have p0:=ad.out.b0.x0;have p1:=ad.out.b0.x1;have p3:=ad.out.b0.x3;have p4:=ad.out.b0.x4;have p5:=ad.out.b0.x5;have c1:=ad.out.b1.cell;have z1:=ad.out.b1.frozen;have c2:=ad.out.b2.cell;have z2:=ad.out.b2.frozen;rw [ho] at p4;go_wp2_with (first
         | (go_at_call 88;(with_reducible refine (CR.out _ ad.out.bel _ _ av.out).mono ?_);rintro e w6 ⟨rfl,ao⟩;have ag:=zm (ad.out.on ao);have a1:=zm (av.out.later ao);have a0:=zm ((ao.cell (p:=⟨w4,0,none⟩) aw.out).trans ax.out);clear ao k0;clear p0 p1 p3 p4 p5 c1 z1 c2 z2;have p0:=ag.out.b0.x0;have p1:=ag.out.b0.x1;have p3:=ag.out.b0.x3;have p4:=ag.out.b0.x4;have p5:=ag.out.b0.x5;have c1:=ag.out.b1.cell;have z1:=ag.out.b1.frozen;have c2:=ag.out.b2.cell;have z2:=ag.out.b2.frozen;have k0:=a0.out)
         | (go_at_call 89;(with_reducible refine (CX.out _ ag.out.bel _ _ a1.out).mono ?_);rintro e w7 ⟨rfl,a2⟩;have al:=zm (ag.out.on a2);clear a2 k0;clear p0 p1 p3 p4 p5 c1 z1 c2 z2;have p0:=al.out.b0.x0;have p1:=al.out.b0.x1;have p3:=al.out.b0.x3;have p4:=al.out.b0.x4;have p5:=al.out.b0.x5;have c1:=al.out.b1.cell;have z1:=al.out.b1.frozen;have c2:=al.out.b2.cell;have z2:=al.out.b2.frozen;have z1b:=(al.out.setb B).b1.frozen;have c1b:=(al.out.setb B).b1.cell))
        exact bW ((al.out.setb B).setr true) (by rw [a4.out];rfl) rfl aq.out (a5.out (by trivial)) HZ.out
      ·rw [decide_eq_false hr,zz];have a7:(0:Int)<(s.r.l.length:Int):=lg
       go_enter_defers func54,ntmps54
       go_upto_region 7 with (first
        | (go_at_call 84;(with_reducible refine (CT.out _).mono ?_);rintro e w1 ⟨rfl,ae⟩;have aa:=zm (ai.out.on ae);clear ae;clear p0 p1 p3 p4 p5 c1 z1 c2 z2;have p0:=aa.out.b0.x0;have p1:=aa.out.b0.x1;have p3:=aa.out.b0.x3;have p4:=aa.out.b0.x4;have p5:=aa.out.b0.x5;have c1:=aa.out.b1.cell;have z1:=aa.out.b1.frozen;have c2:=aa.out.b2.cell;have z2:=aa.out.b2.frozen)
        | (go_at_call 85;(with_reducible refine (CM.out _ aa.out.bel).mono ?_);rintro e w2 ⟨rfl,ah⟩;have ab:=zm (aa.out.on ah);clear ah;clear p0 p1 p3 p4 p5 c1 z1 c2 z2;have p0:=ab.out.b0.x0;have p1:=ab.out.b0.x1;have p3:=ab.out.b0.x3;have p4:=ab.out.b0.x4;have p5:=ab.out.b0.x5;have c1:=ab.out.b1.cell;have z1:=ab.out.b1.frozen;have c2:=ab.out.b2.cell;have z2:=ab.out.b2.frozen)
        | (go_at_call 86;(with_reducible refine (CD.out _ ab.out.bel).mono ?_);rintro e w3 ⟨rfl,aj⟩;have ac:=zm (ab.out.on aj);clear aj;clear p0 p1 p3 p4 p5 c1 z1 c2 z2;have p0:=ac.out.b0.x0;have p1:=ac.out.b0.x1;have p3:=ac.out.b0.x3;have p4:=ac.out.b0.x4;have p5:=ac.out.b0.x5;have c1:=ac.out.b1.cell;have z1:=ac.out.b1.frozen;have c2:=ac.out.b2.cell;have z2:=ac.out.b2.frozen)
        | (go_at_call 87;refine (CI.out _ ac.out.bel).mono ?_;rintro e w4 ⟨ba,bc,rfl,hrow,am⟩;have au:=zm (ac.out.on am);have an:=zm hrow;clear am hrow;clear p0 p1 p3 p4 p5 c1 z1 c2 z2))
       rw [aF];obtain ⟨w5,af⟩:∃ w5,w4.alloc (zq #[zk ba s.g.l.length bc] 54)=w5:=⟨_,rfl⟩;rw [af];have ak:zp w4 w4 w5:=by rw [← af];exact ns _ _
       have ad:=zm (au.out.on ak);have av:=zm (an.out.in.later ak);have aw:=zm (show w4.heap.size<w5.heap.size by rw [← af];simp);have k0:w5 ⟨w4,0,none⟩=some (zk ba s.g.l.length bc):=by rw [← af];simp [Af]
       have ax:=zm k0;clear af ak;have p0:=ad.out.b0.x0;have p1:=ad.out.b0.x1;have p3:=ad.out.b0.x3;have p4:=ad.out.b0.x4;have p5:=ad.out.b0.x5;have c1:=ad.out.b1.cell;have z1:=ad.out.b1.frozen;have c2:=ad.out.b2.cell;have z2:=ad.out.b2.frozen;rw [ho] at p4;go_wp2;exact bW (ad.out.setr false) lm rfl aq.out ar.out HZ.out
     ·rw [ho,zz]
      go_enter_defers func54,ntmps54
      go_upto_region 7 with (first
       | (go_at_call 84;(with_reducible refine (CT.out _).mono ?_);rintro e w1 ⟨rfl,ae⟩;have aa:=zm (ai.out.on ae);clear ae;clear p0 p1 p3 p4 p5 c1 z1 c2 z2;have p0:=aa.out.b0.x0;have p1:=aa.out.b0.x1;have p3:=aa.out.b0.x3;have p4:=aa.out.b0.x4;have p5:=aa.out.b0.x5;have c1:=aa.out.b1.cell;have z1:=aa.out.b1.frozen;have c2:=aa.out.b2.cell;have z2:=aa.out.b2.frozen)
       | (go_at_call 85;(with_reducible refine (CM.out _ aa.out.bel).mono ?_);rintro e w2 ⟨rfl,ah⟩;have ab:=zm (aa.out.on ah);clear ah;clear p0 p1 p3 p4 p5 c1 z1 c2 z2;have p0:=ab.out.b0.x0;have p1:=ab.out.b0.x1;have p3:=ab.out.b0.x3;have p4:=ab.out.b0.x4;have p5:=ab.out.b0.x5;have c1:=ab.out.b1.cell;have z1:=ab.out.b1.frozen;have c2:=ab.out.b2.cell;have z2:=ab.out.b2.frozen)
       | (go_at_call 86;(with_reducible refine (CD.out _ ab.out.bel).mono ?_);rintro e w3 ⟨rfl,aj⟩;have ac:=zm (ab.out.on aj);clear aj;clear p0 p1 p3 p4 p5 c1 z1 c2 z2;have p0:=ac.out.b0.x0;have p1:=ac.out.b0.x1;have p3:=ac.out.b0.x3;have p4:=ac.out.b0.x4;have p5:=ac.out.b0.x5;have c1:=ac.out.b1.cell;have z1:=ac.out.b1.frozen;have c2:=ac.out.b2.cell;have z2:=ac.out.b2.frozen)
       | (go_at_call 87;refine (CI.out _ ac.out.bel).mono ?_;rintro e w4 ⟨ba,bc,rfl,hrow,am⟩;have au:=zm (ac.out.on am);have an:=zm hrow;clear am hrow;clear p0 p1 p3 p4 p5 c1 z1 c2 z2))
      rw [aF];obtain ⟨w5,af⟩:∃ w5,w4.alloc (zq #[zk ba s.g.l.length bc] 54)=w5:=⟨_,rfl⟩;rw [af];have ak:zp w4 w4 w5:=by rw [← af];exact ns _ _
      have ad:=zm (au.out.on ak);have av:=zm (an.out.in.later ak);have aw:=zm (show w4.heap.size<w5.heap.size by rw [← af];simp);have k0:w5 ⟨w4,0,none⟩=some (zk ba s.g.l.length bc):=by rw [← af];simp [Af]
      have ax:=zm k0;clear af ak;have p0:=ad.out.b0.x0;have p1:=ad.out.b0.x1;have p3:=ad.out.b0.x3;have p4:=ad.out.b0.x4;have p5:=ad.out.b0.x5;have c1:=ad.out.b1.cell;have z1:=ad.out.b1.frozen;have c2:=ad.out.b2.cell;have z2:=ad.out.b2.frozen;rw [ho] at p4;go_wp2;exact bW (ad.out.setr false) lm rfl aq.out ar.out HZ.out
structure RdI (w:zr) (s:l7) (W:zr):Prop where
 b0:ur w (zn s.t) (zk s.m.a s.m.l.length s.m.c) (zk s.u.a s.u.l.length s.u.c) (zk s.r.a s.r.l.length s.r.c) (zo s.o) (zk s.g.a s.g.l.length s.g.c) W
 bel:zp w w W
theorem RdI.on {W2:zr} {s:l7} (h:RdI w s W) (hb:zp W W W2):RdI w s W2:=⟨h.b0.on hb h.b0.lt,h.bel.trans (hb.mono h.bel.size)⟩
theorem RdI.new (w:zr) (s:l7):RdI w s (w.alloc (zq #[zn s.t,zk s.m.a s.m.l.length s.m.c,zk s.u.a s.u.l.length s.u.c,zk s.r.a s.r.l.length s.r.c,zo s.o,zk s.g.a s.g.l.length s.g.c] 26)):=⟨ur.new w _ _ _ _ _ _ _,ns _ _⟩
theorem SF {g:mo} (h:o0 W g) (t:TypeId):nz (W.alloc (zq #[zk g.a g.l.length g.c] t)) ⟨some ⟨W,0,none⟩,[g],1⟩:=
 ⟨fun k hk=>by
  have:k=0:=by have h:k<1:=hk;omega
  subst this;exact ⟨_,rfl,by show W.heap.size<_;simp,by show World.cell? _ (Addr.add ⟨W,0,none⟩ 0)=_;simp [Addr.add,Af,mo.v]⟩,fun x hx=>by
  obtain rfl:=Am.1 hx;exact h.later (ns _ _),fun e=>(by cases e),zu _,by show 1≤zt;unfold zt;omega⟩
def we (s:l7):Bool:=nx s.t.data.toList && (decide (s.t.size≤4096) && (nf s.m.l s.t && (decide (s.u.l.length≤16) && (decide (s.r.l.length≤16) && (decide (s.g.l.length≤32) && (oz s.u.l && (oz s.r.l && (oz [s.g] &&
 (if s.g.l.length=0 then mq md s.t (mf s.u.l) && mq id s.t (mf s.r.l) else (s.o && (decide (s.r.l.length=0) && (m9 s.t (md s.g.l) && (mq md (ms s.t (md s.g.l)).1 (mf s.u.l) && mq id s.t (mf s.r.l))))))))))))))
theorem qH {f:List l8→List l8} {t:ByteArray} {l:List mo} (h:mq f t (mf l)=true):l.length≤16:=by
 unfold mq at h;rw [Ax,decide_eq_true_eq,aD] at h;exact h.2
theorem DX {t:ByteArray} {l:List l8} (h:m9 t l=true):l.length≤32:=by
 unfold m9 at h;simp only [Ax,decide_eq_true_eq] at h;exact h.1.2
theorem OA (s:l7):we s=pz s:=by
 have e1:∀ b,mq md b (mf s.u.l)=true→decide (s.u.l.length≤16)=true:=fun b h=>decide_eq_true (qH h);have e2:mq id s.t (mf s.r.l)=true→decide (s.r.l.length≤16)=true:=fun h=>decide_eq_true (qH h);have e3:m9 s.t (md s.g.l)=true→decide (s.g.l.length≤32)=true:=fun h=>decide_eq_true (by have:=DX h;rwa [aF] at this);have e4:s.g.l.length=0→decide (s.g.l.length≤32)=true:=fun h=>decide_eq_true lg;unfold we pz yx vk;rw [qK];by_cases hg:s.g.l.length=0
 ·rw [if_pos hg,if_pos hg];have e5:=e1 s.t;have e4:=e4 hg;clear hg e1 e3
  revert e5 e2 e4
  generalize mq md s.t (mf s.u.l)=a1;generalize mq id s.t (mf s.r.l)=a2;generalize decide (s.u.l.length≤16)=a3;generalize decide (s.r.l.length≤16)=a4;generalize decide (s.g.l.length≤32)=a5;generalize oz s.u.l=a6;generalize oz s.r.l=a7;generalize oz [s.g]=a8;generalize nx s.t.data.toList=a9;generalize decide (s.t.size≤4096)=a10;generalize nf s.m.l s.t=a11;cases a1 <;> cases a2 <;> cases a3 <;> cases a4 <;> cases a5 <;> simp [Ay,Az,A0]
 ·rw [if_neg hg,if_neg hg];have e5:=e1 (ms s.t (md s.g.l)).1;clear hg e1 e4
  revert e5 e2 e3
  generalize mq md (ms s.t (md s.g.l)).1 (mf s.u.l)=a1;generalize mq id s.t (mf s.r.l)=a2;generalize decide (s.u.l.length≤16)=a3;generalize decide (s.r.l.length≤16)=a4;generalize decide (s.g.l.length≤32)=a5;generalize oz s.u.l=a6;generalize oz s.r.l=a7;generalize oz [s.g]=a8;generalize nx s.t.data.toList=a9;generalize decide (s.t.size≤4096)=a10;generalize nf s.m.l s.t=a11;generalize m9 s.t (md s.g.l)=a12;generalize decide (s.r.l.length=0)=a13;generalize s.o=a14;cases a1 <;> cases a2 <;> cases a3 <;> cases a4 <;> cases a5 <;> cases a12 <;> simp [Ay,Az,A0]
set_option maxHeartbeats 16000000 in
theorem zN (s:l7) (w:zr) (hin:ol w s) (hz:tg s):zw prog 21 #[s.v] w (wp (we s) w):=by
 have cV:=fun W=>eT s.t (by have:=hz.t;omega) W;have cM:=fun W (hW:zp w w W)=>xK s.m.a s.m.l s.m.c s.t _ W (hin.later hW).m.row (fun _ h=>h) hz.m hz.mz (by have:=hz.t;omega);have cA:=fun W (hW:zp w w W)=>lI s.u.a s.u.l s.u.c W (hin.later hW).u (by have:=hz.u;omega) (fun x hx=>Aj (hz.z x (by unfold l7.rows;simp [hx])).1 lj);have cB:=fun W (hW:zp w w W)=>lI s.r.a s.r.l s.r.c W (hin.later hW).r (by have:=hz.r;omega) (fun x hx=>Aj (hz.z x (by unfold l7.rows;simp [hx])).1 lj);have cC:=fun W (hW:zp w w W)=>lI (some ⟨W,0,none⟩) [s.g] 1 _ (SF (hin.later hW).g 54) li (fun x hx=>by obtain rfl:=Am.1 hx;exact Aj hz.g.1 lj);have cI:=fun W (hW:zp w w W)=>lD s.g.a s.g.l s.g.c W (hin.later hW).g.row hz.g.1;have cR:=fun W (hW:zp w w W) ba bc (hr:o0 W ⟨ba,md s.g.l,bc⟩)=>by
  have h:=iP s.t ba (md s.g.l) bc W hr.row (by have:=hz.t;omega) (by rw [aF];have:=hz.g.1;omega) hz.g.2.inv;rw [aF] at h;exact h
 have cX:=fun W (hW:zp w w W) ba bc (hr:o0 W ⟨ba,md s.g.l,bc⟩)=>by
  have h:=gJ s.t ba (md s.g.l) bc W hr.row (by have:=hz.t;omega) (by rw [aF];have:=hz.g.1;omega) hz.g.2.inv;rw [aF] at h;exact h
 have cU:=fun t (ht:t.size≤140737488355328) W (hW:zp w w W)=>zD t s.u.a s.u.l s.u.c W (hin.later hW).u ht (by have:=hz.u;omega) (fun x hx=>hz.z x (by unfold l7.rows;simp [hx]));have cD:=fun W (hW:zp w w W)=>BA s.t s.r.a s.r.l s.r.c W (hin.later hW).r (by have:=hz.t;omega) (by have:=hz.r;omega) (fun x hx=>hz.z x (by unfold l7.rows;simp [hx]));have hi:=RdI.new w s;have htz:s.t.size≤140737488355328:=by have:=hz.t;omega
 have hsz:m9 s.t (md s.g.l)=true→(ms s.t (md s.g.l)).1.size≤140737488355328:=fun h=>by have:=eE h;have:=hz.t;omega
 have ao:=cU s.t htz;obtain ⟨R,hQ⟩:∃ R,we s=R:=⟨_,rfl⟩;rw [hQ];unfold we at hQ;obtain ⟨vV,hV⟩:∃ T,nx s.t.data.toList=T:=⟨_,rfl⟩;obtain ⟨vM,hM⟩:∃ M,nf s.m.l s.t=M:=⟨_,rfl⟩;obtain ⟨vA,hA⟩:∃ M,oz s.u.l=M:=⟨_,rfl⟩;obtain ⟨vB,hB⟩:∃ M,oz s.r.l=M:=⟨_,rfl⟩;obtain ⟨vC,hC⟩:∃ M,oz [s.g]=M:=⟨_,rfl⟩;obtain ⟨vD,hD⟩:∃ Q,mq id s.t (mf s.r.l)=Q:=⟨_,rfl⟩;obtain ⟨vU,hU⟩:∃ Q,mq md s.t (mf s.u.l)=Q:=⟨_,rfl⟩;obtain ⟨vR,hR⟩:∃ V,m9 s.t (md s.g.l)=V:=⟨_,rfl⟩;obtain ⟨⟨B,E⟩,hX⟩:∃ B,ms s.t (md s.g.l)=B:=⟨_,rfl⟩;rw [hX] at cX hsz;rw [hV] at cV;rw [hM] at cM;rw [hA] at cA;rw [hB] at cB;rw [hC] at cC;rw [hD] at cD;rw [hU] at ao;rw [hR] at cR hsz;rw [hV,hM,hA,hB,hC,hD,hU,hR,hX] at hQ;dsimp only at hQ;have aq:=fun h=>cU B (hsz h);obtain ⟨vW,au⟩:∃ Q,mq md B (mf s.u.l)=Q:=⟨_,rfl⟩;rw [au] at aq hQ;obtain ⟨wX,hwX⟩:∃ wX,w.alloc (zq #[zn s.t,zk s.m.a s.m.l.length s.m.c,zk s.u.a s.u.l.length s.u.c,zk s.r.a s.r.l.length s.r.c,zo s.o,zk s.g.a s.g.l.length s.g.c] 26)=wX:=⟨_,rfl⟩;rw [hwX] at hi;have hul:s.u.l.length≤100:=hz.u;have hrl:s.r.l.length≤100:=hz.r;have hgl:s.g.l.length≤100000:=hz.g.1;have HQ:=zm hQ;have am:=zm hi;have CV:=zm cV;have CM:=zm cM;have CA:=zm cA;have CB:=zm cB;have CC:=zm cC;have CI:=zm cI;have CR:=zm cR;have CX:=zm cX;have az:=zm ao;have av:=zm aq;have CD:=zm cD;have a9:=zm hin;have p0:=am.out.b0.x0;have p1:=am.out.b0.x1;have p2:=am.out.b0.x2;have p3:=am.out.b0.x3;have p4:=am.out.b0.x4;have p5:=am.out.b0.x5;clear hQ hi cV cM cA cB cC cI cR cX cU ao aq cD hin hz hV hM hA hB hC hD hU hR hX au htz hsz;go_enter func21,ntmps21;go_wp2_with fail;refine (CV.out _).mono ?_;rintro e w1 ⟨rfl,aa⟩;have ag:=zm (am.out.on aa);clear aa;clear p0 p1 p2 p3 p4 p5;have p0:=ag.out.b0.x0;have p1:=ag.out.b0.x1;have p2:=ag.out.b0.x2;have p3:=ag.out.b0.x3;have p4:=ag.out.b0.x4;have p5:=ag.out.b0.x5;cases vV
 ·obtain rfl:R=false:=by rw [← HQ.out];rfl
  go_wp2;go_ret;exact ⟨rfl,ag.out.bel⟩
 by_cases k1:s.t.size≤4096
 case neg =>
  rw [decide_eq_false k1] at HQ;have k12:(4096:Int)<(s.t.size:Int):=lg;obtain rfl:R=false:=by rw [← HQ.out];rfl
  go_wp2;go_ret;exact ⟨rfl,ag.out.bel⟩
 rw [decide_eq_true k1] at HQ;have k12:(s.t.size:Int)≤4096:=lg;go_wp2_with fail;refine (CM.out _ ag.out.bel).mono ?_;rintro e w2 ⟨rfl,aa⟩;have ad:=zm (ag.out.on aa);clear aa;clear p0 p1 p2 p3 p4 p5;have p0:=ad.out.b0.x0;have p1:=ad.out.b0.x1;have p2:=ad.out.b0.x2;have p3:=ad.out.b0.x3;have p4:=ad.out.b0.x4;have p5:=ad.out.b0.x5;cases vM
 ·obtain rfl:R=false:=by rw [← HQ.out];rfl
  go_wp2;go_ret;exact ⟨rfl,ad.out.bel⟩
 by_cases k2:s.u.l.length≤16
 case neg =>
  rw [decide_eq_false k2] at HQ;have k22:(16:Int)<(s.u.l.length:Int):=lg;obtain rfl:R=false:=by rw [← HQ.out];rfl
  go_wp2;go_ret;exact ⟨rfl,ad.out.bel⟩
 rw [decide_eq_true k2] at HQ;have k22:(s.u.l.length:Int)≤16:=lg;by_cases k3:s.r.l.length≤16
 case neg =>
  rw [decide_eq_false k3] at HQ;have k32:(16:Int)<(s.r.l.length:Int):=lg;obtain rfl:R=false:=by rw [← HQ.out];rfl
  go_wp2;go_ret;exact ⟨rfl,ad.out.bel⟩
 rw [decide_eq_true k3] at HQ;have k32:(s.r.l.length:Int)≤16:=lg;by_cases k4:s.g.l.length≤32
 case neg =>
  rw [decide_eq_false k4] at HQ;have k42:(32:Int)<(s.g.l.length:Int):=lg;obtain rfl:R=false:=by rw [← HQ.out];rfl
  go_wp2;go_ret;exact ⟨rfl,ad.out.bel⟩
 rw [decide_eq_true k4] at HQ;have k42:(s.g.l.length:Int)≤32:=lg;go_wp2_with fail;refine (CA.out _ ad.out.bel).mono ?_;rintro e w3 ⟨rfl,aa⟩;have ai:=zm (ad.out.on aa);clear aa;clear p0 p1 p2 p3 p4 p5;have p0:=ai.out.b0.x0;have p1:=ai.out.b0.x1;have p2:=ai.out.b0.x2;have p3:=ai.out.b0.x3;have p4:=ai.out.b0.x4;have p5:=ai.out.b0.x5;cases vA
 ·obtain rfl:R=false:=by rw [← HQ.out];rfl
  go_wp2;go_ret;exact ⟨rfl,ai.out.bel⟩
 go_wp2_with fail;refine (CB.out _ ai.out.bel).mono ?_;rintro e w4 ⟨rfl,aa⟩;have aj:=zm (ai.out.on aa);clear aa;clear p0 p1 p2 p3 p4 p5;have p0:=aj.out.b0.x0;have p1:=aj.out.b0.x1;have p2:=aj.out.b0.x2;have p3:=aj.out.b0.x3;have p4:=aj.out.b0.x4;have p5:=aj.out.b0.x5;cases vB
 ·obtain rfl:R=false:=by rw [← HQ.out];rfl
  go_wp2;go_ret;exact ⟨rfl,aj.out.bel⟩
 go_wp2_with fail;refine (CC.out _ aj.out.bel).mono ?_;rintro e w5 ⟨rfl,aa⟩;have ae:=zm (aj.out.on (yX aa));clear aa;clear p0 p1 p2 p3 p4 p5;have p0:=ae.out.b0.x0;have p1:=ae.out.b0.x1;have p2:=ae.out.b0.x2;have p3:=ae.out.b0.x3;have p4:=ae.out.b0.x4;have p5:=ae.out.b0.x5;cases vC
 ·obtain rfl:R=false:=by rw [← HQ.out];rfl
  go_wp2;go_ret;exact ⟨rfl,ae.out.bel⟩
 by_cases hg:s.g.l.length=0
 ·rw [if_pos hg] at HQ;have a0:(s.g.l.length:Int)≤0:=lg;have a1:¬ 0<s.g.l.length:=lg;clear hg k4;go_wp2_with fail;refine (az.out _ ae.out.bel).mono ?_;rintro e w6 ⟨rfl,aa⟩;have af:=zm (ae.out.on aa);clear aa;clear p0 p1 p2 p3 p4 p5;have p0:=af.out.b0.x0;have p1:=af.out.b0.x1;have p2:=af.out.b0.x2;have p3:=af.out.b0.x3;have p4:=af.out.b0.x4;have p5:=af.out.b0.x5;cases vU
  ·obtain rfl:R=false:=by rw [← HQ.out];rfl
   go_wp2;go_ret;exact ⟨rfl,af.out.bel⟩
  go_wp2_with fail;refine (CD.out _ af.out.bel).mono ?_;rintro e w7 ⟨rfl,aa⟩;have ab:=zm (af.out.on aa);clear aa;clear p0 p1 p2 p3 p4 p5;have p0:=ab.out.b0.x0;have p1:=ab.out.b0.x1;have p2:=ab.out.b0.x2;have p3:=ab.out.b0.x3;have p4:=ab.out.b0.x4;have p5:=ab.out.b0.x5;obtain rfl:R=vD:=by rw [← HQ.out];rfl
  go_wp2;go_ret;exact ⟨rfl,ab.out.bel⟩
 ·rw [if_neg hg] at HQ;have a0:(0:Int)<(s.g.l.length:Int):=lg;have a1:0<s.g.l.length:=lg
  go_upto_region 8 with (first
   | (go_at_call 40;refine (CI.out _ ae.out.bel).mono ?_;rintro e w6 ⟨ba,bc,rfl,hrow,aw⟩;have af:=zm (ae.out.on aw);have ay:=zm hrow;clear aw hrow;clear p0 p1 p2 p3 p4 p5))
  rw [aF];obtain ⟨w7,an⟩:∃ w5,w6.alloc (zq #[zk ba s.g.l.length bc] 54)=w5:=⟨_,rfl⟩;rw [an];have ar:zp w6 w6 w7:=by rw [← an];exact ns _ _
  have ab:=zm (af.out.on ar);have ax:=zm (ay.out.in.later ar);have a2:=zm (show w6.heap.size<w7 by rw [← an];simp);have k0:w7 ⟨w6,0,none⟩=some (zk ba s.g.l.length bc):=by rw [← an];simp [Af]
  have a3:=zm k0;clear an ar;have p0:=ab.out.b0.x0;have p1:=ab.out.b0.x1;have p2:=ab.out.b0.x2;have p3:=ab.out.b0.x3;have p4:=ab.out.b0.x4;have p5:=ab.out.b0.x5;have hor:s.o=true∨s.o=false:=by cases s.o <;> simp
  rcases hor with ho|ho
  case inr =>
   rw [ho] at p4 HQ;obtain rfl:R=false:=by rw [← HQ.out];rfl
   go_wp2;go_ret;exact ⟨rfl,ab.out.bel⟩
  rw [ho] at p4 HQ;by_cases hr:s.r.l.length=0
  case neg =>
   rw [decide_eq_false hr] at HQ;have a4:(0:Int)<(s.r.l.length:Int):=lg;have a5:0<s.r.l.length:=lg;obtain rfl:R=false:=by rw [← HQ.out];rfl
   go_wp2;go_ret;exact ⟨rfl,ab.out.bel⟩
  rw [decide_eq_true hr] at HQ;have a4:(s.r.l.length:Int)≤0:=lg;have a5:¬ 0<s.r.l.length:=lg;clear hr k3;go_wp2_with fail;refine (CR.out _ ab.out.bel _ _ ax.out).mono ?_;rintro e w8 ⟨rfl,aa⟩;have ak:=zm (ab.out.on aa);have a6:=zm (ax.out.later aa);have a7:=zm ((aa.cell (p:=⟨w6,0,none⟩) a2.out).trans a3.out);clear k0;clear aa;clear p0 p1 p2 p3 p4 p5;have p0:=ak.out.b0.x0;have p1:=ak.out.b0.x1;have p2:=ak.out.b0.x2;have p3:=ak.out.b0.x3;have p4:=ak.out.b0.x4;have p5:=ak.out.b0.x5;have k0:=a7.out;cases vR
  ·obtain rfl:R=false:=by rw [← HQ.out];rfl
   go_wp2;go_ret;exact ⟨rfl,ak.out.bel⟩
  go_wp2_with fail;refine (CX.out _ ak.out.bel _ _ a6.out).mono ?_;rintro e w9 ⟨rfl,aa⟩;have al:=zm (ak.out.on aa);clear k0;clear aa;clear p0 p1 p2 p3 p4 p5;have p0:=al.out.b0.x0;have p1:=al.out.b0.x1;have p2:=al.out.b0.x2;have p3:=al.out.b0.x3;have p4:=al.out.b0.x4;have p5:=al.out.b0.x5;have a8:=zm (av.out (by trivial));clear av;go_wp2_with fail;refine (a8.out _ al.out.bel).mono ?_;rintro e w10 ⟨rfl,aa⟩;have ac:=zm (al.out.on aa);clear aa;clear p0 p1 p2 p3 p4 p5;have p0:=ac.out.b0.x0;have p1:=ac.out.b0.x1;have p2:=ac.out.b0.x2;have p3:=ac.out.b0.x3;have p4:=ac.out.b0.x4;have p5:=ac.out.b0.x5;cases vW
  ·obtain rfl:R=false:=by rw [← HQ.out];rfl
   go_wp2;go_ret;exact ⟨rfl,ac.out.bel⟩
  go_wp2_with fail;refine (CD.out _ ac.out.bel).mono ?_;rintro e w11 ⟨rfl,aa⟩;have ah:=zm (ac.out.on aa);clear aa;clear p0 p1 p2 p3 p4 p5;have p0:=ah.out.b0.x0;have p1:=ah.out.b0.x1;have p2:=ah.out.b0.x2;have p3:=ah.out.b0.x3;have p4:=ah.out.b0.x4;have p5:=ah.out.b0.x5;obtain rfl:R=vD:=by rw [← HQ.out];rfl
  go_wp2;go_ret;exact ⟨rfl,ah.out.bel⟩
theorem mV (s:l7) (w:zr) (hin:ol w s) (hz:tg s):zw prog 21 #[s.v] w (wp (pz s) w):=by
 rw [← OA];exact zN s w hin hz
theorem qL (a:Option Addr) (l:List l8) (c:Nat) (w:zr) (hp:o0 w ⟨a,l,c⟩) (hl:l.length≤1000000) :
 zw prog 93 #[zk a l.length c] w fun e w'=>∃ a' c',e=Ad (zk a' l.length c')∧w'.ownsRow w 92 3 (zk a' l.length c') l.length (l8.flat l)∧zp w w w':=by
 cases a with
 | none =>
  have e0:l=[]:=hp.len rfl;have e1:c=0:=hp.nil rfl;subst e0;subst e1;refine (qG w).mono ?_;rintro e w' ⟨rfl,rfl⟩;exact ⟨none,0,rfl,A3 _ _ _ _,Ab _ _⟩
 | some ad =>
  refine (oI ad l c w hp.row hl).mono ?_;rintro e w' ⟨v,rfl,ho,-,hb⟩;obtain ⟨a',c',rfl,-⟩:=dV ho;exact ⟨a',c',rfl,ho,hb⟩
theorem ES (a:Option Addr) (l:List l9) (c:Nat) (w:zr) (hp:vf w ⟨a,l,c⟩) (hl:l.length≤1000000) :
 zw prog 91 #[zk a l.length c] w fun e w'=>∃ a' c',e=Ad (zk a' l.length c')∧w'.ownsRow w 90 2 (zk a' l.length c') l.length (l9.flat l)∧zp w w w':=by
 cases a with
 | none =>
  have e0:l=[]:=hp.len rfl;have e1:c=0:=hp.nil rfl;subst e0;subst e1;refine (zA w).mono ?_;rintro e w' ⟨rfl,rfl⟩;exact ⟨none,0,rfl,A3 _ _ _ _,Ab _ _⟩
 | some ad =>
  refine (AC ad l c w hp.row hl).mono ?_;rintro e w' ⟨v,rfl,ho,-,hb⟩;obtain ⟨a',c',rfl,-⟩:=xS ho;exact ⟨a',c',rfl,ho,hb⟩
abbrev tr (w:zr) (base:Nat) (x:mo):Prop:=w.ownsRow base 92 3 (zk x.a x.l.length x.c) x.l.length (l8.flat x.l)
abbrev v7 (w:zr) (base:Nat) (x:qx):Prop:=w.ownsRow base 90 2 (zk x.a x.l.length x.c) x.l.length (l9.flat x.l)
abbrev OwnS (w:zr) (base:Nat) (x:o7):Prop:=w.ownsRow base 54 1 (zk x.a x.l.length x.c) x.l.length (nb x.l)
def tt (w:zr) (base:Nat) (x:o7):Prop:=x.l=[]∨∃ g,x.a=some ⟨g,0,none⟩∧base≤g∧OwnS w base x∧∀ y∈x.l,tr w (g+1) y
def RetCop (w:zr) (L:List (List l8)) (e:Ending) (w':zr):Prop:=∃ a c l,e=Ad (zk a l.length c)∧mf l=L∧nz w' ⟨a,l,c⟩∧tt w' w ⟨a,l,c⟩∧zp w w w'
theorem tr.in {x:mo} (h:tr w base x):o0 w x:=by
 obtain ⟨a,c,ev,hr⟩:=dV h;obtain ⟨xa,xl,xc⟩:=x;injection ev with e1 e2 e3;simp only at e1 e3;subst e1;subst e3;exact hr.in
set_option maxHeartbeats 1600000 in
theorem lO (a:Option Addr) (l:List mo) (c:Nat) (w:zr) (hp:nz w ⟨a,l,c⟩) (hl:l.length≤1000) (hb:∀ x∈l,x.l.length≤1000000) :
 zw prog 92 #[zk a l.length c] w (RetCop w (mf l)):=by
 cases a with
 | none =>
  have e0:l=[]:=hp.len rfl;have e1:c=0:=hp.nil rfl;subst e0;subst e1;have CN:=zm (fun W=>ET W);clear hp hl hb;show zw prog 92 #[zk none 0 0] w (RetCop w (mf []));go_enter func92,ntmps92;go_wp2_with fail;refine (CN.out _).mono ?_;rintro e w1 ⟨rfl,ah⟩;have HB:=zm (show zp w.heap.size w w1 by rw [ah];exact Ab _ _);clear ah;go_wp2
  go_loopw [9] (fun i wr=>i=Ag .i64 0∧zp w w wr) (fun i _=>0)
  case atStart=>exact ⟨rfl,HB.out⟩
  case round =>
   obtain ⟨rfl,hbel⟩:=hrel;have ar:=zm hbel;clear hbel;go_wp2;go_ret;exact ⟨none,0,[],rfl,rfl,nz.empty _,.inl rfl,ar.out⟩
 | some ad0 =>
  obtain ⟨n,hn⟩:∃ n,l.length=n:=⟨_,rfl⟩;have cc:=AM ad0 l c w hp.row lg;have CC:=zm cc;have HP:=zm hp;have HN:=zm hn;have au:=zm hb;rw [hn] at hl CC ⊢;clear hn hp hb cc;go_enter func92,ntmps92;go_wp2_with fail;refine CC.out.mono ?_;rintro e w1 ⟨v,rfl,hown,hne,ai⟩;have hown:w1.ownsRow w 54 1 v n (nb l):=hown;obtain ⟨g,cp,hg,hwg⟩:∃ g cp,v=zk (some ⟨g,0,none⟩) n cp∧w.heap.size≤g:=by
   rcases hown.2 with ⟨h,-⟩|⟨g,cap,cur,h,hb,-⟩
   ·exact absurd h hne
   ·exact ⟨g,cap,h,hb⟩
  subst hg;have an:=zm hown;have av:=zm ai;have HG:=zm hwg;clear hown hne ai CC hwg;go_wp2
  go_loopw [9] (fun i wr=>∃ (k:Nat) (qs:List mo),k≤n∧i=Ag .i64 k∧qs.length=k∧wr.ownsRow w 54 1 (zk (some ⟨g,0,none⟩) n cp) n (nb (qs++l.drop k))∧mf qs=(mf l).take k∧(∀ x∈qs,tr wr (g+1) x)∧zp w w wr) (fun i _=>n - (Ai i).toNat)
  case atStart=>exact ⟨0,[],An _,rfl,rfl,an.out,rfl,fun x hx=>absurd hx li,av.out⟩
  case round =>
   obtain ⟨k,qs,hk,rfl,hqk,hown,hqs,hall,hbel⟩:=hrel;by_cases hlt:k<n
   ·have hkl:k<l.length:=by rw [HN.out];exact hlt
    have af:=(HP.out.later hbel).all.at k hkl;have ad:=au.out (l[k]!) (by rw [og hkl];exact Ao hkl);have ae:mf qs++[(l[k]!).l]=(mf l).take (k+1):=by rw [ltake (by rw [aD];exact hkl),hqs,cO l k hkl]
    have hgl:g<wr:=(hown.lt _ rfl).2;have hkq:k<(qs++l.drop k).length:=by rw [A4,List.length_drop,hqk];omega
    have q0:=(hown.cellAt k lg).trans (fZ _ k hkq);have hdr:(qs++l.drop k)[k]! = l[k]! :=by
     rw [og hkq,og hkl,List.getElem_append_right (by rw [hqk];exact zu _),List.getElem_drop];simp only [hqk,A5,Nat.add_zero]
    rw [hdr] at q0;have hset:∀ y,(qs++l.drop k).set k y=(qs++[y])++l.drop (k+1):=fun y=>by
     rw [List.set_append_right _ _ (by rw [hqk];exact zu _),hqk,A5,List.drop_eq_getElem_cons hkl,List.set_cons_zero,List.append_assoc];rfl
    obtain ⟨x,hx⟩:∃ x,l[k]! = x:=⟨_,rfl⟩;rw [hx] at q0 af ad ae;obtain ⟨xa,xl,xc⟩:=x;simp only [mo.v] at q0 ad ae;replace q0:wr ⟨g,k,none⟩=some (zk xa xl.length xc):=q0;have hbx:=ns wr (zq #[zk xa xl.length xc] 54);have co:=qL xa xl xc _ (af.later hbx) ad;obtain ⟨m,hm⟩:∃ m,xl.length=m:=⟨_,rfl⟩;have CO:=zm co;have HO:=zm hown;have HM:=zm hm;have aw:=zm ae;have ac:=zm hall;have ag:=zm hbx;have aj:=zm hgl;have HQ:=zm hqk;have ao:=zm hset;rw [hm] at q0 CO ag;have b0:(0:Int)≤(k:Int):=lg;have b1:(k:Int)<(n:Int):=lg;clear co hown hm hx af ad ae hall hbx hgl hqs hqk hset hdr hkq;go_wp2_with fail;refine CO.out.mono ?_;rintro e w3 ⟨a3,c3,rfl,aa,ak⟩;have ab:zp wr wr w3:=ag.out.trans (ak.mono ag.out.size);have al:=zm (bN HO.out ab);have ax:=zm (hbel.trans (ab.mono hbel.size));have f0:=al.out.frozenAt k;have q3:=(ab.cell (p:=⟨g,k,none⟩) aj.out).trans q0;have ay:=zm (al.out.stored k (zk a3 xl.length c3)).1;have HS:=zm ((uH (qs++l.drop k) k ⟨a3,xl,c3⟩).trans (congrArg nb (ao.out ⟨a3,xl,c3⟩)));have az:=zm (ax.out.setCell (p:=⟨g,k,none⟩) HG.out (zk a3 m c3));have aa:tr w3 (wr.alloc (zq #[zk xa m xc] 54)) ⟨a3,xl,c3⟩:=by show World.ownsRow _ _ _ _ (zk a3 xl.length c3) _ _;rw [HM.out];rw [← HM.out] at aa ⊢;exact aa
    have a0:=zm (aK (oW (b2:=g+1) aa (by have:=aj.out;simp;omega)) (p:=⟨g,k,none⟩) (Ak g) (zk a3 m c3));have a1:=zm (fun x hx=>aK (bN (ac.out x hx) ab) (p:=⟨g,k,none⟩) (Ak g) (zk a3 m c3));clear aa ak ab hbel q0;go_wp2;go_roundw
    case rel =>
     refine ⟨k+1,qs++[⟨a3,xl,c3⟩],lg,by go_num,by rw [A4,HQ.out];rfl,?_,by rw [fK];exact aw.out,?_,az.out⟩
     ·have h:=ay.out;have hS:=HS.out;simp only [mo.v] at hS;rw [hS,HM.out] at h;exact h
     ·intro x hx;rcases List.mem_append.1 hx with hx|hx
      ·exact a1.out x hx
      ·obtain rfl:=Am.1 hx;exact a0.out
    case measure=>simp [Ai];omega
   ·obtain rfl:k=n:=lg;rw [List.drop_eq_nil_of_le (by rw [HN.out];exact zu _),List.append_nil] at hown;have hown:wr.ownsRow w 54 1 (zk (some ⟨g,0,none⟩) k cp) qs.length (nb qs):=by rw [hqk];exact hown
    obtain ⟨a4,c4,ev,hrow⟩:=eG hown (fun x hx=>tr.in (hall x hx));rw [hqk] at ev;injection ev with e1 e2 e3;subst e1;subst e3;have am:mf qs=mf l:=by rw [hqs,List.take_of_length_le (by rw [aD,HN.out];exact zu _)]
    have aq:=zm hrow;have HQ:=zm hqk;have a2:=zm (show wr.ownsRow w.heap.size 54 1 (zk (some ⟨g,0,none⟩) qs.length cp) qs.length (nb qs) by have h:=hown;rw [hqk] at h ⊢;exact h);have a5:=zm am;have ac:=zm hall;clear hrow hown hqk hqs hall am;go_wp2;go_ret;exact ⟨_,cp,qs,by rw [HQ.out];rfl,a5.out,aq.out.in,.inr ⟨g,rfl,HG.out,a2.out,ac.out⟩,hbel⟩
structure CopI (w:zr) (s s':l7) (b1 b2 b3:Nat) (w':zr):Prop where
 d:s'.d=s.d
 l1:w≤b1
 l2:b1≤b2
 l3:b2≤b3
 l4:b3≤w'
 m:v7 w' w s'.m
 mh:∀ k,(zk s'.m.a s'.m.l.length s'.m.c).ownBlock=some k→k<b1
 u:tt w' b1 s'.u
 uh:s'.u.l=[]∨∀ k,(zk s'.u.a s'.u.l.length s'.u.c).ownBlock=some k→k<b2
 ue:∀ y∈s'.u.l,∀ k,(zk y.a y.l.length y.c).ownBlock=some k→k<b2
 us:nz w' s'.u
 r:tt w' b2 s'.r
 rh:s'.r.l=[]∨∀ k,(zk s'.r.a s'.r.l.length s'.r.c).ownBlock=some k→k<b3
 re:∀ y∈s'.r.l,∀ k,(zk y.a y.l.length y.c).ownBlock=some k→k<b3
 rs:nz w' s'.r
 g:tr w' b3 s'.g
 bel:zp w w w'
theorem tt.on {w':zr} {x:o7} (h:tt w base x) (hb:zp w w w'):tt w' base x:=by
 rcases h with h|⟨g,h1,h2,h3,h4⟩
 ·exact .inl h
 ·exact .inr ⟨g,h1,h2,bN h3 hb,fun y hy=>bN (h4 y hy) hb⟩
theorem tt.setCell {x:o7} (h:tt w base x) {p:Addr} (hp:p.block<base) (u:Ae):tt (w.setCell p u) base x:=by
 rcases h with h|⟨g,h1,h2,h3,h4⟩
 ·exact .inl h
 ·exact .inr ⟨g,h1,h2,aK h3 hp u,fun y hy=>aK (h4 y hy) lg u⟩
theorem nz.setLow {x:o7} (h:nz w x) (hc:tt w base x) {p:Addr} (hp:p.block<base) (u:Ae):nz (w.setCell p u) x:=by
 have hsz:(w.setCell p u).heap.size=w:=zv _ _ _;rcases hc with hc|⟨g,h1,h2,h3,h4⟩
 ·exact ⟨fun k hk=>absurd hk (by rw [hc];simp),fun y hy=>absurd hy (by rw [hc];simp),h.nil,h.le,h.cap⟩
 ·refine ⟨fun k hk=>?_,fun y hy=>tr.in (aK (h4 y hy) lg u),h.nil,h.le,h.cap⟩;obtain ⟨ad,e,hb,q⟩:=h.row k hk;refine ⟨ad,e,by rw [hsz];exact hb,(World.cell?_setCell_other _ _ _ _ (fun e2=>?_)).trans q⟩;rw [h1] at e;cases e;have:=congrArg Addr.block e2;rw [aX] at this;have:p.block=g:=this;omega
theorem vG {size n:Nat} {e:TypeId} {v:Ae} {xs:List Ae} (h:w.ownsRow base e size v n xs):∀ k,v.ownBlock=some k→k<w.heap.size:=fun k hk=>(h.lt k hk).2
theorem tt.hi {x:o7} (h:tt w base x) (hs:nz w x):(x.l=[]∨∀ k,(zk x.a x.l.length x.c).ownBlock=some k→k<w.heap.size)∧∀ y∈x.l,∀ k,(zk y.a y.l.length y.c).ownBlock=some k→k<w.heap.size:=by
 rcases h with h|⟨g,h1,h2,h3,h4⟩
 ·exact ⟨.inl h,fun y hy=>absurd hy (by rw [h];simp)⟩
 ·exact ⟨.inr (vG h3),fun y hy=>vG (h4 y hy)⟩
set_option maxHeartbeats 3200000 in
theorem xM (s:l7) (w:zr) (hin:ol w s) (hm:s.m.l.length≤1000) (hu:s.u.l.length≤1000) (hr:s.r.l.length≤1000) (hg:s.g.l.length≤1000) (hz:∀ x∈s.u.l++s.r.l,x.l.length≤1000000) :
 zw prog 56 #[s.v] w fun e w'=>∃ s' b1 b2 b3,e=Ad s'.v∧CopI w s s' b1 b2 b3 w':=by
 have cM:=fun W (hW:zp w w W)=>ES s.m.a s.m.l s.m.c W (hin.later hW).m lg;have cU:=fun W (hW:zp w w W)=>lO s.u.a s.u.l s.u.c W (hin.later hW).u hu (fun x hx=>hz x (by simp [hx]));have cR:=fun W (hW:zp w w W)=>lO s.r.a s.r.l s.r.c W (hin.later hW).r hr (fun x hx=>hz x (by simp [hx]));have cG:=fun W (hW:zp w w W)=>qL s.g.a s.g.l s.g.c W (hin.later hW).g lg;have B0:l6 ((w.alloc (zq #[zn s.t,zk s.m.a s.m.l.length s.m.c,zk s.u.a s.u.l.length s.u.c,zk s.r.a s.r.l.length s.r.c,zo s.o,zk s.g.a s.g.l.length s.g.c] 26)).alloc (zq #[zn ⟨#[]⟩,zk none 0 0,zk none 0 0,zk none 0 0,zo false,zk none 0 0] 26)) w #[zn s.t,zk s.m.a s.m.l.length s.m.c,zk s.u.a s.u.l.length s.u.c,zk s.r.a s.r.l.length s.r.c,zo s.o,zk s.g.a s.g.l.length s.g.c] 26:=(l6.new _ _ _).alloc _;have B1:l6 ((w.alloc (zq #[zn s.t,zk s.m.a s.m.l.length s.m.c,zk s.u.a s.u.l.length s.u.c,zk s.r.a s.r.l.length s.r.c,zo s.o,zk s.g.a s.g.l.length s.g.c] 26)).alloc (zq #[zn ⟨#[]⟩,zk none 0 0,zk none 0 0,zk none 0 0,zo false,zk none 0 0] 26)) (w+1) #[zn ⟨#[]⟩,zk none 0 0,zk none 0 0,zk none 0 0,zo false,zk none 0 0] 26:=by
  have:=l6.new (w.alloc (zq #[zn s.t,zk s.m.a s.m.l.length s.m.c,zk s.u.a s.u.l.length s.u.c,zk s.r.a s.r.l.length s.r.c,zo s.o,zk s.g.a s.g.l.length s.g.c] 26)) #[zn ⟨#[]⟩,zk none 0 0,zk none 0 0,zk none 0 0,zo false,zk none 0 0] 26;rwa [Al] at this
 have ac:=qk w (zq #[zn s.t,zk s.m.a s.m.l.length s.m.c,zk s.u.a s.u.l.length s.u.c,zk s.r.a s.r.l.length s.r.c,zo s.o,zk s.g.a s.g.l.length s.g.c] 26) (zq #[zn ⟨#[]⟩,zk none 0 0,zk none 0 0,zk none 0 0,zo false,zk none 0 0] 26);obtain ⟨wX,hwX⟩:∃ wX,(w.alloc (zq #[zn s.t,zk s.m.a s.m.l.length s.m.c,zk s.u.a s.u.l.length s.u.c,zk s.r.a s.r.l.length s.r.c,zo s.o,zk s.g.a s.g.l.length s.g.c] 26)).alloc (zq #[zn ⟨#[]⟩,zk none 0 0,zk none 0 0,zk none 0 0,zo false,zk none 0 0] 26)=wX:=⟨_,rfl⟩;rw [hwX] at B0 B1 ac;have x1:wX ⟨w,1,none⟩=some (zk s.m.a s.m.l.length s.m.c):=B0.cell 1 _ rfl;have aa:=zm ac;have K0:=zm B0;have R0:=zm B1;have CM:=zm cM;have CU:=zm cU;have CR:=zm cR;have CG:=zm cG;clear ac B0 B1 cM cU cR cG hin hz;go_enter func56,ntmps56;go_wp2_with fail;refine (CM.out _ aa.out).mono ?_;rintro e w1 ⟨ma,mc,rfl,hom,hb⟩;have hlt:w.heap.size<wX:=K0.out.lt;have hbs:zp w w w1:=aa.out.trans (hb.mono aa.out.size);have kb:=K0.out.onto hb;have rb:=R0.out.onto hb;have y1:w1 ⟨w,1,none⟩=some (zk s.m.a s.m.l.length s.m.c):=kb.cell 1 _ rfl;have fz:=kb.free 1;have kv:l6 (w1.setCell ⟨w,1,none⟩ (zk ma s.m.l.length mc)) w #[zn s.t,zk ma s.m.l.length mc,zk s.u.a s.u.l.length s.u.c,zk s.r.a s.r.l.length s.r.c,zo s.o,zk s.g.a s.g.l.length s.g.c] 26:=kb.set 1 _;have rv:l6 (w1.setCell ⟨w,1,none⟩ (zk ma s.m.l.length mc)) (w+1) #[zn ⟨#[]⟩,zk none 0 0,zk none 0 0,zk none 0 0,zo false,zk none 0 0] 26:=rb.other _ (by show w.heap.size≠w+1;omega) _;have bv:zp w w (w1.setCell ⟨w,1,none⟩ (zk ma s.m.l.length mc)):=hbs.setCell (p:=⟨w,1,none⟩) (zu _) _;have row:v7 (w1.setCell ⟨w,1,none⟩ (zk ma s.m.l.length mc)) wX ⟨ma,s.m.l,mc⟩:=aK hom (p:=⟨w,1,none⟩) hlt _;have sz:(w1.setCell ⟨w,1,none⟩ (zk ma s.m.l.length mc)).heap.size=w1:=zv _ _ _;obtain ⟨v1,hv⟩:∃ V,w1.setCell ⟨w,1,none⟩ (zk ma s.m.l.length mc)=V:=⟨_,rfl⟩;rw [hv] at kv rv bv row sz;have av:=zm hv;have ad:=zm bv;have K1:=zm kv;have R1:=zm rv;have ae:=zm hlt;have ak:=zm (show wX.heap.size≤v1 by rw [sz];exact hb.size);have OM:=zm row;have al:=zm (vG row);have z2:v1 ⟨w,2,none⟩=some (zk s.u.a s.u.l.length s.u.c):=kv.cell 2 _ rfl;clear hlt hbs kb rb kv rv bv row sz hb hom x1;go_wp2_with fail;refine (CU.out _ ad.out).mono ?_;rintro e w2 ⟨ua,uc,ul,rfl,hul,hus,huc,hb⟩;have hlt:w.heap.size<v1:=K1.out.lt;have hbs:zp w w w2:=ad.out.trans (hb.mono ad.out.size);have kb:=K1.out.onto hb;have rb:=R1.out.onto hb;have y2:w2 ⟨w,2,none⟩=some (zk s.u.a s.u.l.length s.u.c):=kb.cell 2 _ rfl;have fz:=kb.free 2;have kv:l6 (w2.setCell ⟨w,2,none⟩ (zk ua ul.length uc)) w #[zn s.t,zk ma s.m.l.length mc,zk ua ul.length uc,zk s.r.a s.r.l.length s.r.c,zo s.o,zk s.g.a s.g.l.length s.g.c] 26:=kb.set 2 _;have rv:l6 (w2.setCell ⟨w,2,none⟩ (zk ua ul.length uc)) (w+1) #[zn ⟨#[]⟩,zk none 0 0,zk none 0 0,zk none 0 0,zo false,zk none 0 0] 26:=rb.other _ (by show w.heap.size≠w+1;omega) _;have bv:zp w w (w2.setCell ⟨w,2,none⟩ (zk ua ul.length uc)):=hbs.setCell (p:=⟨w,2,none⟩) (zu _) _;have row:tt (w2.setCell ⟨w,2,none⟩ (zk ua ul.length uc)) v1 ⟨ua,ul,uc⟩:=huc.setCell (p:=⟨w,2,none⟩) hlt _;have rows:nz (w2.setCell ⟨w,2,none⟩ (zk ua ul.length uc)) ⟨ua,ul,uc⟩:=hus.setLow huc (p:=⟨w,2,none⟩) hlt _;have sz:(w2.setCell ⟨w,2,none⟩ (zk ua ul.length uc)).heap.size=w2:=zv _ _ _;have om:=aK (bN OM.out hb) (p:=⟨w,2,none⟩) ae.out (zk ua ul.length uc);obtain ⟨v2,hv⟩:∃ V,w2.setCell ⟨w,2,none⟩ (zk ua ul.length uc)=V:=⟨_,rfl⟩;rw [hv] at kv rv bv row sz rows om;have aw:=zm hv;have af:=zm bv;have K2:=zm kv;have R2:=zm rv;have ab:=zm hlt;have am:=zm (show v1.heap.size≤v2 by rw [sz];exact hb.size);have OU:=zm row;have OUS:=zm rows;have OM:=zm om;have an:=zm hul;have ah:=zm (tt.hi row rows);have z3:v2 ⟨w,3,none⟩=some (zk s.r.a s.r.l.length s.r.c):=kv.cell 3 _ rfl;clear hlt hbs kb rb kv rv bv row sz hb rows om hul hus huc z2;go_wp2_with fail;refine (CR.out _ af.out).mono ?_;rintro e w3 ⟨ra,rc,rl,rfl,hrl,hrs,hrc,hb⟩;have hlt:w.heap.size<v2:=K2.out.lt;have hbs:zp w w w3:=af.out.trans (hb.mono af.out.size);have kb:=K2.out.onto hb;have rb:=R2.out.onto hb;have y3:w3 ⟨w,3,none⟩=some (zk s.r.a s.r.l.length s.r.c):=kb.cell 3 _ rfl;have fz:=kb.free 3;have kv:l6 (w3.setCell ⟨w,3,none⟩ (zk ra rl.length rc)) w #[zn s.t,zk ma s.m.l.length mc,zk ua ul.length uc,zk ra rl.length rc,zo s.o,zk s.g.a s.g.l.length s.g.c] 26:=kb.set 3 _;have rv:l6 (w3.setCell ⟨w,3,none⟩ (zk ra rl.length rc)) (w+1) #[zn ⟨#[]⟩,zk none 0 0,zk none 0 0,zk none 0 0,zo false,zk none 0 0] 26:=rb.other _ (by show w.heap.size≠w+1;omega) _;have bv:zp w w (w3.setCell ⟨w,3,none⟩ (zk ra rl.length rc)):=hbs.setCell (p:=⟨w,3,none⟩) (zu _) _;have row:tt (w3.setCell ⟨w,3,none⟩ (zk ra rl.length rc)) v2 ⟨ra,rl,rc⟩:=hrc.setCell (p:=⟨w,3,none⟩) hlt _;have rows:nz (w3.setCell ⟨w,3,none⟩ (zk ra rl.length rc)) ⟨ra,rl,rc⟩:=hrs.setLow hrc (p:=⟨w,3,none⟩) hlt _;have sz:(w3.setCell ⟨w,3,none⟩ (zk ra rl.length rc)).heap.size=w3:=zv _ _ _;have om:=aK (bN OM.out hb) (p:=⟨w,3,none⟩) ae.out (zk ra rl.length rc);have ou:=(OU.out.on hb).setCell (p:=⟨w,3,none⟩) ab.out (zk ra rl.length rc);have ous:=(OUS.out.later hb).setLow (OU.out.on hb) (p:=⟨w,3,none⟩) ab.out (zk ra rl.length rc);obtain ⟨v3,hv⟩:∃ V,w3.setCell ⟨w,3,none⟩ (zk ra rl.length rc)=V:=⟨_,rfl⟩;rw [hv] at kv rv bv row sz rows om ou ous;have ax:=zm hv;have ag:=zm bv;have K3:=zm kv;have R3:=zm rv;have ai:=zm hlt;have ao:=zm (show v2.heap.size≤v3 by rw [sz];exact hb.size);have OR:=zm row;have ORS:=zm rows;have OM:=zm om;have OU:=zm ou;have OUS:=zm ous;have aq:=zm hrl;have aj:=zm (tt.hi row rows);have z5:v3 ⟨w,5,none⟩=some (zk s.g.a s.g.l.length s.g.c):=kv.cell 5 _ rfl;clear hlt hbs kb rb kv rv bv row sz hb rows om ou ous hrl hrs hrc z3;go_wp2_with fail;refine (CG.out _ ag.out).mono ?_;rintro e w4 ⟨ga,gc,rfl,hog,hb⟩;have hlt:w.heap.size<v3:=K3.out.lt;have hbs:zp w w w4:=ag.out.trans (hb.mono ag.out.size);have kb:=K3.out.onto hb;have rb:=R3.out.onto hb;have y5:w4 ⟨w,5,none⟩=some (zk s.g.a s.g.l.length s.g.c):=kb.cell 5 _ rfl;have fz:=kb.free 5;have kv:l6 (w4.setCell ⟨w,5,none⟩ (zk ga s.g.l.length gc)) w #[zn s.t,zk ma s.m.l.length mc,zk ua ul.length uc,zk ra rl.length rc,zo s.o,zk ga s.g.l.length gc] 26:=kb.set 5 _;have rv:l6 (w4.setCell ⟨w,5,none⟩ (zk ga s.g.l.length gc)) (w+1) #[zn ⟨#[]⟩,zk none 0 0,zk none 0 0,zk none 0 0,zo false,zk none 0 0] 26:=rb.other _ (by show w.heap.size≠w+1;omega) _;have bv:zp w w (w4.setCell ⟨w,5,none⟩ (zk ga s.g.l.length gc)):=hbs.setCell (p:=⟨w,5,none⟩) (zu _) _;have row:tr (w4.setCell ⟨w,5,none⟩ (zk ga s.g.l.length gc)) v3 ⟨ga,s.g.l,gc⟩:=aK hog (p:=⟨w,5,none⟩) hlt _;have sz:(w4.setCell ⟨w,5,none⟩ (zk ga s.g.l.length gc)).heap.size=w4:=zv _ _ _;have om:=aK (bN OM.out hb) (p:=⟨w,5,none⟩) ae.out (zk ga s.g.l.length gc);have ou:=(OU.out.on hb).setCell (p:=⟨w,5,none⟩) ab.out (zk ga s.g.l.length gc);have ous:=(OUS.out.later hb).setLow (OU.out.on hb) (p:=⟨w,5,none⟩) ab.out (zk ga s.g.l.length gc);have or:=(OR.out.on hb).setCell (p:=⟨w,5,none⟩) ai.out (zk ga s.g.l.length gc);have ors:=(ORS.out.later hb).setLow (OR.out.on hb) (p:=⟨w,5,none⟩) ai.out (zk ga s.g.l.length gc);obtain ⟨v4,hv⟩:∃ V,w4.setCell ⟨w,5,none⟩ (zk ga s.g.l.length gc)=V:=⟨_,rfl⟩;rw [hv] at kv rv bv row sz om ou ous or ors;have ay:=zm hv;have ar:=zm bv;have K4:=zm kv;have R4:=zm rv;have az:=zm hlt;have au:=zm (show v3.heap.size≤v4 by rw [sz];exact hb.size);have OG:=zm row;have OM:=zm om;have OU:=zm ou;have OUS:=zm ous;have OR:=zm or;have ORS:=zm ors;have z0:v4 ⟨w,0,none⟩=some (zn s.t):=kv.cell 0 _ rfl;have z1:v4 ⟨w,1,none⟩=some (zk ma s.m.l.length mc):=kv.cell 1 _ rfl;have z2:v4 ⟨w,2,none⟩=some (zk ua ul.length uc):=kv.cell 2 _ rfl;have z3:v4 ⟨w,3,none⟩=some (zk ra rl.length rc):=kv.cell 3 _ rfl;have z4:v4 ⟨w,4,none⟩=some (zo s.o):=kv.cell 4 _ rfl;have z5:v4 ⟨w,5,none⟩=some (zk ga s.g.l.length gc):=kv.cell 5 _ rfl;have g0:=rv.free 0;have g1:=rv.free 1;have g2:=rv.free 2;have g3:=rv.free 3;have g4:=rv.free 4;have g5:=rv.free 5;have u0:v4 ⟨w+1,0,none⟩=some (zn ⟨#[]⟩):=rv.cell 0 _ rfl;have u1:v4 ⟨w+1,1,none⟩=some (zk none 0 0):=rv.cell 1 _ rfl;have u2:v4 ⟨w+1,2,none⟩=some (zk none 0 0):=rv.cell 2 _ rfl;have u3:v4 ⟨w+1,3,none⟩=some (zk none 0 0):=rv.cell 3 _ rfl;have u4:v4 ⟨w+1,4,none⟩=some (zo false):=rv.cell 4 _ rfl;have u5:v4 ⟨w+1,5,none⟩=some (zk none 0 0):=rv.cell 5 _ rfl;clear hlt hbs kb rb kv rv bv row sz hb om ou ous or ors hog;go_wp2_with fail;clear g0 g1 g2 g3 g4 g5 u0 u1 u2 u3 u4 u5 z0 z1 z2 z3 z4 z5;have lw:w.heap.size+1<wX:=R0.out.lt;have lz1:=ak.out;have lz2:=am.out;have lz3:=ao.out;have lz4:=au.out;have a0:=R4.out;have m0:=OM.out;have c0:=OU.out;have s0:=OUS.out;have d0:=OR.out;have t0:=ORS.out;have e0:=OG.out;have b0:=ar.out;have n0:v4.heap.size=v4:=rfl;have a1:l6 (v4.setCell ⟨w+1,0,none⟩ (zn s.t)) (w+1) #[zn s.t,zk none 0 0,zk none 0 0,zk none 0 0,zo false,zk none 0 0] 26:=a0.set 0 _;have m1:v7 (v4.setCell ⟨w+1,0,none⟩ (zn s.t)) wX ⟨ma,s.m.l,mc⟩:=aK m0 (p:=⟨w+1,0,none⟩) lw (zn s.t);have s1:=s0.setLow c0 (p:=⟨w+1,0,none⟩) (by show w.heap.size+1<v1;omega) (zn s.t);have c1:=c0.setCell (p:=⟨w+1,0,none⟩) (by show w.heap.size+1<v1;omega) (zn s.t);have t1:=t0.setLow d0 (p:=⟨w+1,0,none⟩) (by show w.heap.size+1<v2;omega) (zn s.t);have d1:=d0.setCell (p:=⟨w+1,0,none⟩) (by show w.heap.size+1<v2;omega) (zn s.t);have e1:tr (v4.setCell ⟨w+1,0,none⟩ (zn s.t)) v3 ⟨ga,s.g.l,gc⟩:=aK e0 (p:=⟨w+1,0,none⟩) (by show w.heap.size+1<v3;omega) (zn s.t);have b1:=b0.setCell (p:=⟨w+1,0,none⟩) (by show w.heap.size≤w+1;omega) (zn s.t);have n1:(v4.setCell ⟨w+1,0,none⟩ (zn s.t)).heap.size=v4:=(zv _ _ _).trans n0;have a2:l6 ((v4.setCell ⟨w+1,0,none⟩ (zn s.t)).setCell ⟨w+1,1,none⟩ (zk ma s.m.l.length mc)) (w+1) #[zn s.t,zk ma s.m.l.length mc,zk none 0 0,zk none 0 0,zo false,zk none 0 0] 26:=a1.set 1 _;have m2:v7 ((v4.setCell ⟨w+1,0,none⟩ (zn s.t)).setCell ⟨w+1,1,none⟩ (zk ma s.m.l.length mc)) wX ⟨ma,s.m.l,mc⟩:=aK m1 (p:=⟨w+1,1,none⟩) lw (zk ma s.m.l.length mc);have s2:=s1.setLow c1 (p:=⟨w+1,1,none⟩) (by show w.heap.size+1<v1;omega) (zk ma s.m.l.length mc);have c2:=c1.setCell (p:=⟨w+1,1,none⟩) (by show w.heap.size+1<v1;omega) (zk ma s.m.l.length mc);have t2:=t1.setLow d1 (p:=⟨w+1,1,none⟩) (by show w.heap.size+1<v2;omega) (zk ma s.m.l.length mc);have d2:=d1.setCell (p:=⟨w+1,1,none⟩) (by show w.heap.size+1<v2;omega) (zk ma s.m.l.length mc);have e2:tr ((v4.setCell ⟨w+1,0,none⟩ (zn s.t)).setCell ⟨w+1,1,none⟩ (zk ma s.m.l.length mc)) v3 ⟨ga,s.g.l,gc⟩:=aK e1 (p:=⟨w+1,1,none⟩) (by show w.heap.size+1<v3;omega) (zk ma s.m.l.length mc);have b2:=b1.setCell (p:=⟨w+1,1,none⟩) (by show w.heap.size≤w+1;omega) (zk ma s.m.l.length mc);have n2:((v4.setCell ⟨w+1,0,none⟩ (zn s.t)).setCell ⟨w+1,1,none⟩ (zk ma s.m.l.length mc)).heap.size=v4:=(zv _ _ _).trans n1;have a3:l6 (((v4.setCell ⟨w+1,0,none⟩ (zn s.t)).setCell ⟨w+1,1,none⟩ (zk ma s.m.l.length mc)).setCell ⟨w+1,2,none⟩ (zk ua ul.length uc)) (w+1) #[zn s.t,zk ma s.m.l.length mc,zk ua ul.length uc,zk none 0 0,zo false,zk none 0 0] 26:=a2.set 2 _;have m3:v7 (((v4.setCell ⟨w+1,0,none⟩ (zn s.t)).setCell ⟨w+1,1,none⟩ (zk ma s.m.l.length mc)).setCell ⟨w+1,2,none⟩ (zk ua ul.length uc)) wX ⟨ma,s.m.l,mc⟩:=aK m2 (p:=⟨w+1,2,none⟩) lw (zk ua ul.length uc);have s3:=s2.setLow c2 (p:=⟨w+1,2,none⟩) (by show w.heap.size+1<v1;omega) (zk ua ul.length uc);have c3:=c2.setCell (p:=⟨w+1,2,none⟩) (by show w.heap.size+1<v1;omega) (zk ua ul.length uc);have t3:=t2.setLow d2 (p:=⟨w+1,2,none⟩) (by show w.heap.size+1<v2;omega) (zk ua ul.length uc);have d3:=d2.setCell (p:=⟨w+1,2,none⟩) (by show w.heap.size+1<v2;omega) (zk ua ul.length uc);have e3:tr (((v4.setCell ⟨w+1,0,none⟩ (zn s.t)).setCell ⟨w+1,1,none⟩ (zk ma s.m.l.length mc)).setCell ⟨w+1,2,none⟩ (zk ua ul.length uc)) v3 ⟨ga,s.g.l,gc⟩:=aK e2 (p:=⟨w+1,2,none⟩) (by show w.heap.size+1<v3;omega) (zk ua ul.length uc);have b3:=b2.setCell (p:=⟨w+1,2,none⟩) (by show w.heap.size≤w+1;omega) (zk ua ul.length uc);have n3:(((v4.setCell ⟨w+1,0,none⟩ (zn s.t)).setCell ⟨w+1,1,none⟩ (zk ma s.m.l.length mc)).setCell ⟨w+1,2,none⟩ (zk ua ul.length uc)).heap.size=v4:=(zv _ _ _).trans n2;have a4:l6 ((((v4.setCell ⟨w+1,0,none⟩ (zn s.t)).setCell ⟨w+1,1,none⟩ (zk ma s.m.l.length mc)).setCell ⟨w+1,2,none⟩ (zk ua ul.length uc)).setCell ⟨w+1,3,none⟩ (zk ra rl.length rc)) (w+1) #[zn s.t,zk ma s.m.l.length mc,zk ua ul.length uc,zk ra rl.length rc,zo false,zk none 0 0] 26:=a3.set 3 _;have m4:v7 ((((v4.setCell ⟨w+1,0,none⟩ (zn s.t)).setCell ⟨w+1,1,none⟩ (zk ma s.m.l.length mc)).setCell ⟨w+1,2,none⟩ (zk ua ul.length uc)).setCell ⟨w+1,3,none⟩ (zk ra rl.length rc)) wX ⟨ma,s.m.l,mc⟩:=aK m3 (p:=⟨w+1,3,none⟩) lw (zk ra rl.length rc);have s4:=s3.setLow c3 (p:=⟨w+1,3,none⟩) (by show w.heap.size+1<v1;omega) (zk ra rl.length rc);have c4:=c3.setCell (p:=⟨w+1,3,none⟩) (by show w.heap.size+1<v1;omega) (zk ra rl.length rc);have t4:=t3.setLow d3 (p:=⟨w+1,3,none⟩) (by show w.heap.size+1<v2;omega) (zk ra rl.length rc);have d4:=d3.setCell (p:=⟨w+1,3,none⟩) (by show w.heap.size+1<v2;omega) (zk ra rl.length rc);have e4:tr ((((v4.setCell ⟨w+1,0,none⟩ (zn s.t)).setCell ⟨w+1,1,none⟩ (zk ma s.m.l.length mc)).setCell ⟨w+1,2,none⟩ (zk ua ul.length uc)).setCell ⟨w+1,3,none⟩ (zk ra rl.length rc)) v3 ⟨ga,s.g.l,gc⟩:=aK e3 (p:=⟨w+1,3,none⟩) (by show w.heap.size+1<v3;omega) (zk ra rl.length rc);have b4:=b3.setCell (p:=⟨w+1,3,none⟩) (by show w.heap.size≤w+1;omega) (zk ra rl.length rc);have n4:((((v4.setCell ⟨w+1,0,none⟩ (zn s.t)).setCell ⟨w+1,1,none⟩ (zk ma s.m.l.length mc)).setCell ⟨w+1,2,none⟩ (zk ua ul.length uc)).setCell ⟨w+1,3,none⟩ (zk ra rl.length rc)).heap.size=v4:=(zv _ _ _).trans n3;have a5:l6 (((((v4.setCell ⟨w+1,0,none⟩ (zn s.t)).setCell ⟨w+1,1,none⟩ (zk ma s.m.l.length mc)).setCell ⟨w+1,2,none⟩ (zk ua ul.length uc)).setCell ⟨w+1,3,none⟩ (zk ra rl.length rc)).setCell ⟨w+1,4,none⟩ (zo s.o)) (w+1) #[zn s.t,zk ma s.m.l.length mc,zk ua ul.length uc,zk ra rl.length rc,zo s.o,zk none 0 0] 26:=a4.set 4 _;have m5:v7 (((((v4.setCell ⟨w+1,0,none⟩ (zn s.t)).setCell ⟨w+1,1,none⟩ (zk ma s.m.l.length mc)).setCell ⟨w+1,2,none⟩ (zk ua ul.length uc)).setCell ⟨w+1,3,none⟩ (zk ra rl.length rc)).setCell ⟨w+1,4,none⟩ (zo s.o)) wX ⟨ma,s.m.l,mc⟩:=aK m4 (p:=⟨w+1,4,none⟩) lw (zo s.o);have s5:=s4.setLow c4 (p:=⟨w+1,4,none⟩) (by show w.heap.size+1<v1;omega) (zo s.o);have c5:=c4.setCell (p:=⟨w+1,4,none⟩) (by show w.heap.size+1<v1;omega) (zo s.o);have t5:=t4.setLow d4 (p:=⟨w+1,4,none⟩) (by show w.heap.size+1<v2;omega) (zo s.o);have d5:=d4.setCell (p:=⟨w+1,4,none⟩) (by show w.heap.size+1<v2;omega) (zo s.o);have e5:tr (((((v4.setCell ⟨w+1,0,none⟩ (zn s.t)).setCell ⟨w+1,1,none⟩ (zk ma s.m.l.length mc)).setCell ⟨w+1,2,none⟩ (zk ua ul.length uc)).setCell ⟨w+1,3,none⟩ (zk ra rl.length rc)).setCell ⟨w+1,4,none⟩ (zo s.o)) v3 ⟨ga,s.g.l,gc⟩:=aK e4 (p:=⟨w+1,4,none⟩) (by show w.heap.size+1<v3;omega) (zo s.o);have b5:=b4.setCell (p:=⟨w+1,4,none⟩) (by show w.heap.size≤w+1;omega) (zo s.o);have n5:(((((v4.setCell ⟨w+1,0,none⟩ (zn s.t)).setCell ⟨w+1,1,none⟩ (zk ma s.m.l.length mc)).setCell ⟨w+1,2,none⟩ (zk ua ul.length uc)).setCell ⟨w+1,3,none⟩ (zk ra rl.length rc)).setCell ⟨w+1,4,none⟩ (zo s.o)).heap.size=v4:=(zv _ _ _).trans n4;have a6:l6 ((((((v4.setCell ⟨w+1,0,none⟩ (zn s.t)).setCell ⟨w+1,1,none⟩ (zk ma s.m.l.length mc)).setCell ⟨w+1,2,none⟩ (zk ua ul.length uc)).setCell ⟨w+1,3,none⟩ (zk ra rl.length rc)).setCell ⟨w+1,4,none⟩ (zo s.o)).setCell ⟨w+1,5,none⟩ (zk ga s.g.l.length gc)) (w+1) #[zn s.t,zk ma s.m.l.length mc,zk ua ul.length uc,zk ra rl.length rc,zo s.o,zk ga s.g.l.length gc] 26:=a5.set 5 _;have m6:v7 ((((((v4.setCell ⟨w+1,0,none⟩ (zn s.t)).setCell ⟨w+1,1,none⟩ (zk ma s.m.l.length mc)).setCell ⟨w+1,2,none⟩ (zk ua ul.length uc)).setCell ⟨w+1,3,none⟩ (zk ra rl.length rc)).setCell ⟨w+1,4,none⟩ (zo s.o)).setCell ⟨w+1,5,none⟩ (zk ga s.g.l.length gc)) wX ⟨ma,s.m.l,mc⟩:=aK m5 (p:=⟨w+1,5,none⟩) lw (zk ga s.g.l.length gc);have s6:=s5.setLow c5 (p:=⟨w+1,5,none⟩) (by show w.heap.size+1<v1;omega) (zk ga s.g.l.length gc);have c6:=c5.setCell (p:=⟨w+1,5,none⟩) (by show w.heap.size+1<v1;omega) (zk ga s.g.l.length gc);have t6:=t5.setLow d5 (p:=⟨w+1,5,none⟩) (by show w.heap.size+1<v2;omega) (zk ga s.g.l.length gc);have d6:=d5.setCell (p:=⟨w+1,5,none⟩) (by show w.heap.size+1<v2;omega) (zk ga s.g.l.length gc);have e6:tr ((((((v4.setCell ⟨w+1,0,none⟩ (zn s.t)).setCell ⟨w+1,1,none⟩ (zk ma s.m.l.length mc)).setCell ⟨w+1,2,none⟩ (zk ua ul.length uc)).setCell ⟨w+1,3,none⟩ (zk ra rl.length rc)).setCell ⟨w+1,4,none⟩ (zo s.o)).setCell ⟨w+1,5,none⟩ (zk ga s.g.l.length gc)) v3 ⟨ga,s.g.l,gc⟩:=aK e5 (p:=⟨w+1,5,none⟩) (by show w.heap.size+1<v3;omega) (zk ga s.g.l.length gc);have b6:=b5.setCell (p:=⟨w+1,5,none⟩) (by show w.heap.size≤w+1;omega) (zk ga s.g.l.length gc);have n6:((((((v4.setCell ⟨w+1,0,none⟩ (zn s.t)).setCell ⟨w+1,1,none⟩ (zk ma s.m.l.length mc)).setCell ⟨w+1,2,none⟩ (zk ua ul.length uc)).setCell ⟨w+1,3,none⟩ (zk ra rl.length rc)).setCell ⟨w+1,4,none⟩ (zo s.o)).setCell ⟨w+1,5,none⟩ (zk ga s.g.l.length gc)).heap.size=v4:=(zv _ _ _).trans n5;refine bodyPost_ret (results_cell_row (P:=prog) (fn:=Tryz.f56) (p:=2) (ty:=26) rfl _ _ (w+1) 26 _ (0,0) _ rfl a6 underlying26 rfl lh) rfl ?_;refine ⟨⟨s.t,⟨ma,s.m.l,mc⟩,⟨ua,ul,uc⟩,⟨ra,rl,rc⟩,s.o,⟨ga,s.g.l,gc⟩⟩,v1.heap.size,v2.heap.size,v3.heap.size,rfl,?_⟩;exact ⟨by unfold l7.d;simp only [an.out,aq.out],by have:=aa.out.size;omega,lg,lg,by rw [n6];omega,oW m6 aa.out.size,al.out,c6,ah.out.1,ah.out.2,s6,d6,aj.out.1,aj.out.2,t6,e6,b6⟩
def qw (l:List mo):Nat:=(l.map fun x=>x.l.length).sum
theorem sS (l:List mo) (k:Nat) (h:k<l.length):qw (l.take (k+1))=qw (l.take k)+(l[k]!).l.length:=by
 unfold qw;rw [List.take_succ_eq_append_getElem h,A6,A7,og h];simp
theorem BN (l:List mo) (k:Nat):qw (l.take k)≤qw l:=by
 have e:=congrArg qw (List.take_append_drop k l);unfold qw at e ⊢;rw [A6,A7] at e;omega
theorem yP {l:List mo} {x:mo} (h:x∈l):x.l.length≤qw l:=by
 induction l with
 | nil=>cases h
 | cons y r ih =>
  unfold qw;rw [List.map_cons,List.sum_cons];rcases List.mem_cons.1 h with rfl|h
  ·omega
  ·have:=ih h;unfold qw at this;omega
def l7.few (s:l7):Bool:=decide (s.t.size≤5000∧s.m.l.length≤20∧s.u.l.length≤20∧s.r.l.length≤20∧s.g.l.length≤40∧qw s.u.l+qw s.r.l≤200)
theorem DA (s:l7):s.few=true↔s.t.size≤5000∧s.m.l.length≤20∧s.u.l.length≤20∧s.r.l.length≤20∧s.g.l.length≤40∧qw s.u.l+qw s.r.l≤200:=by unfold l7.few;exact decide_eq_true_iff
theorem TI {s:l7} (h:¬ (s.t.size≤5000∧s.m.l.length≤20∧s.u.l.length≤20∧s.r.l.length≤20∧s.g.l.length≤40∧qw s.u.l+qw s.r.l≤200)):s.few=false:=decide_eq_false h
structure zd (s:l7):Prop where
 t:s.t.size≤zt
 m:s.m.l.length≤zt
 u:s.u.l.length≤zt
 r:s.r.l.length≤zt
 g:s.g.l.length≤zt
 ez:∀ x∈s.u.l++s.r.l,x.l.length≤4611686018427387904
set_option maxHeartbeats 3200000 in
theorem lR (s:l7) (w:zr) (hin:ol w s) (hl:zd s) :
 zw prog 7 #[s.v] w fun e w'=>e=Ad (zo s.few)∧zp w w w':=by
 have hi:=RdI.new w s;obtain ⟨wX,hwX⟩:∃ wX,w.alloc (zq #[zn s.t,zk s.m.a s.m.l.length s.m.c,zk s.u.a s.u.l.length s.u.c,zk s.r.a s.r.l.length s.r.c,zo s.o,zk s.g.a s.g.l.length s.g.c] 26)=wX:=⟨_,rfl⟩;rw [hwX] at hi;have no:=@TI s;have yes:=(DA s).2;have l0:=hl.t;have l1:=hl.m;have l2:=hl.u;have l3:=hl.r;have l5:=hl.g;unfold zt at l0 l1 l2 l3 l5;obtain ⟨R,hR⟩:∃ R,s.few=R:=⟨_,rfl⟩;rw [hR] at no yes ⊢;have HI:=zm hi;have ab:=zm hin;have NO:=zm no;have YES:=zm yes;have ac:=zm hl.ez;have y0:=hi.b0.x0;have y1:=hi.b0.x1;have y2:=hi.b0.x2;have y3:=hi.b0.x3;have y5:=hi.b0.x5;clear hi hin no yes hl hR;by_cases h0:s.t.size≤5000
 case neg =>
  obtain rfl:=NO.out (fun h=>h0 h.1);have g:(5000:Int)<(s.t.size:Int):=lg;go_enter func7,ntmps7;go_wp2;go_ret;exact ⟨rfl,HI.out.bel⟩
 have g0:(s.t.size:Int)≤5000:=lg;by_cases h1:s.m.l.length≤20
 case neg =>
  obtain rfl:=NO.out (fun h=>h1 h.2.1);have g:(20:Int)<(s.m.l.length:Int):=lg;have g':20<s.m.l.length:=lg;go_enter func7,ntmps7;go_wp2;go_ret;exact ⟨rfl,HI.out.bel⟩
 have g1:(s.m.l.length:Int)≤20:=lg;by_cases h2:s.u.l.length≤20
 case neg =>
  obtain rfl:=NO.out (fun h=>h2 h.2.2.1);have g:(20:Int)<(s.u.l.length:Int):=lg;have g':20<s.u.l.length:=lg;go_enter func7,ntmps7;go_wp2;go_ret;exact ⟨rfl,HI.out.bel⟩
 have g2:(s.u.l.length:Int)≤20:=lg;by_cases h3:s.r.l.length≤20
 case neg =>
  obtain rfl:=NO.out (fun h=>h3 h.2.2.2.1);have g:(20:Int)<(s.r.l.length:Int):=lg;have g':20<s.r.l.length:=lg;go_enter func7,ntmps7;go_wp2;go_ret;exact ⟨rfl,HI.out.bel⟩
 have g3:(s.r.l.length:Int)≤20:=lg;by_cases h5:s.g.l.length≤40
 case neg =>
  obtain rfl:=NO.out (fun h=>h5 h.2.2.2.2.1);have g:(40:Int)<(s.g.l.length:Int):=lg;have g':40<s.g.l.length:=lg;go_enter func7,ntmps7;go_wp2;go_ret;exact ⟨rfl,HI.out.bel⟩
 have g5:(s.g.l.length:Int)≤40:=lg;go_enter func7,ntmps7;go_wp2
 go_loop [3,4] (fun z i=>∃ k:Nat,k≤s.u.l.length∧i=Ag .i64 k∧z=Ag .i64 (qw (s.u.l.take k):Nat)∧qw (s.u.l.take k)≤200) (fun _ i=>s.u.l.length - (Ai i).toNat)
 case atStart=>exact ⟨0,An _,rfl,rfl,by simp [qw]⟩
 case round =>
  obtain ⟨k,hk,rfl,rfl,hle⟩:=hrel;by_cases hlt:k<s.u.l.length
  ·obtain ⟨ad,had,hab,q0⟩:=(ab.out.later HI.out.bel).u.row k hlt;have hm:=sS s.u.l k hlt;have aa:=BN s.u.l (k+1);have hz:=ac.out (s.u.l[k]!) (by rw [og hlt];simp [Ao hlt]);obtain ⟨x,hx⟩:∃ x,s.u.l[k]! = x:=⟨_,rfl⟩;rw [hx] at q0 hm hz;obtain ⟨xa,xl,xc⟩:=x;simp only [mo.v] at q0 hm hz;obtain ⟨n,hn⟩:∃ n,xl.length=n:=⟨_,rfl⟩;rw [hn] at q0 hm hz;obtain ⟨u,hu⟩:∃ u,qw (s.u.l.take k)=u:=⟨_,rfl⟩;rw [hu] at hle ⊢;have hs:qw (s.u.l.take (k+1))=u+n:=lg;have b0:(0:Int)≤(k:Int):=lg;have b1:(k:Int)<(s.u.l.length:Int):=lg;have b3:(u:Int)+(n:Int)≤9223372036854775807:=lg;by_cases hov:200<u+n
   ·obtain rfl:=NO.out (fun h=>by have:=h.2.2.2.2.2;omega);have g:(200:Int)<(u:Int)+(n:Int):=lg;clear hm aa hx hn hu hs hab;go_wp2;go_ret;exact ⟨rfl,HI.out.bel⟩
   ·have g:(u:Int)+(n:Int)≤200:=lg;have HS:=zm hs;clear hm aa hx hn hu hs hab;go_wp2
    go_round
    case rel=>exact ⟨k+1,lg,by go_num,by rw [HS.out];go_num,by rw [HS.out];omega⟩
    case measure=>simp [Ai];omega
  ·obtain rfl:k=s.u.l.length:=lg;rw [A8] at hle ⊢;have b1:¬ s.u.l.length<s.u.l.length:=lg;clear hlt;have hdu:=hle;go_wp2
   go_loop [3,5] (fun z i=>∃ k:Nat,k≤s.r.l.length∧i=Ag .i64 k∧z=Ag .i64 (qw s.u.l+qw (s.r.l.take k):Nat)∧qw s.u.l+qw (s.r.l.take k)≤200) (fun _ i=>s.r.l.length - (Ai i).toNat)
   case atStart=>exact ⟨0,An _,rfl,by simp [qw],by simpa [qw] using hdu⟩
   case round =>
    obtain ⟨k,hk,rfl,rfl,hle⟩:=hrel;by_cases hlt:k<s.r.l.length
    ·obtain ⟨ad,had,hab,q0⟩:=(ab.out.later HI.out.bel).r.row k hlt;have hm:=sS s.r.l k hlt;have aa:=BN s.r.l (k+1);have hz:=ac.out (s.r.l[k]!) (by rw [og hlt];simp [Ao hlt]);obtain ⟨x,hx⟩:∃ x,s.r.l[k]! = x:=⟨_,rfl⟩;rw [hx] at q0 hm hz;obtain ⟨xa,xl,xc⟩:=x;simp only [mo.v] at q0 hm hz;obtain ⟨n,hn⟩:∃ n,xl.length=n:=⟨_,rfl⟩;rw [hn] at q0 hm hz;obtain ⟨u,hu⟩:∃ u,qw s.u.l+qw (s.r.l.take k)=u:=⟨_,rfl⟩;rw [hu] at hle ⊢;have hs:qw s.u.l+qw (s.r.l.take (k+1))=u+n:=lg;have b0:(0:Int)≤(k:Int):=lg;have b1:(k:Int)<(s.r.l.length:Int):=lg;have b3:(u:Int)+(n:Int)≤9223372036854775807:=lg;by_cases hov:200<u+n
     ·obtain rfl:=NO.out (fun h=>by have:=h.2.2.2.2.2;omega);have g:(200:Int)<(u:Int)+(n:Int):=lg;clear hm aa hx hn hu hs hab;go_wp2;go_ret;exact ⟨rfl,HI.out.bel⟩
     ·have g:(u:Int)+(n:Int)≤200:=lg;have HS:=zm hs;clear hm aa hx hn hu hs hab;go_wp2
      go_round
      case rel=>exact ⟨k+1,lg,by go_num,by rw [HS.out];go_num,by rw [HS.out];omega⟩
      case measure=>simp [Ai];omega
    ·obtain rfl:k=s.r.l.length:=lg;rw [A8] at hle ⊢;have b1:¬ s.r.l.length<s.r.l.length:=lg;clear hlt;obtain rfl:=YES.out ⟨h0,h1,h2,h3,h5,hle⟩;go_wp2;go_ret;exact ⟨rfl,HI.out.bel⟩
end Go.Proofs.YtbagenpobcgjnaaGreat
