/-
  Joined: StaRight, StaRight2, StaRef2, StaRef3, StaCopy, StaCopy2, StaFew, StaSame3.
-/
import Derived.Test.YtbagenpobcgjnaaGreatJStaSize
import Derived.Test.YtbagenpobcgjnaaGreatJStkRef2
import Derived.Test.YtbagenpobcgjnaaGreatJMarkDev
import Derived.Defers
import Derived.Test.YtbagenpobcgjnaaGreatJStaSame
import Derived.Test.YtbagenpobcgjnaaGreatJMarkRef
import Derived.Deep.RegionHeld3
import Derived.Test.YtbagenpobcgjnaaGreatStaIter
import Derived.Test.YtbagenpobcgjnaaGreatJStepMath
import Derived.Test.YtbagenpobcgjnaaGreatJStepRef2
import Derived.Test.YtbagenpobcgjnaaGreatJCells
variable {r0:Bool} {below:ByteArray} {base:Nat} {W w:Go.World}
namespace Go.Proofs.YtbagenpobcgjnaaGreat
open Go.Proofs.Tryz
set_option maxRecDepth 100000
open Lib (hid)
open Go.RowKit
set_option linter.unusedVariables false
set_option linter.unusedSimpArgs false
def mayT (t:ByteArray):Bool:=decide (t.size≤4096) && vldB t.data.toList
theorem wR (t:ByteArray) (ht:t.size≤maxLen) (w:World):Calls prog 84 #[.string t] w fun e w'=>e=.returned (.bool (mayT t))∧Below w.heap.size w w':=by
 have cv:=dB t ht
 unfold mayT
 obtain ⟨v,hv⟩:∃ v,vldB t.data.toList=v:=⟨_,rfl⟩
 rw [hv] at cv ⊢
 have CV:=hid cv
 clear cv hv ht
 by_cases h:t.size≤4096
 ·have g:(t.size:Int)≤4096:=by omega
  rw [decide_eq_true h,Bool.true_and]
  go_enter func84,ntmps84
  go_wp2_with (first|(go_at_call 105;refine (CV.out _).mono ?_;rintro e w1 ⟨rfl,aa⟩))
  go_ret
  exact ⟨rfl,aa⟩
 ·have g:(4096:Int)<(t.size:Int):=by omega
  rw [decide_eq_false h,Bool.false_and]
  go_enter func84,ntmps84
  go_wp2
  go_ret
  exact ⟨rfl,by first|exact Below.refl _ _|exact (Below.refl _ _).drew⟩
def lastB (s:Sta) (below:ByteArray):Bool:=goes16 invL below (lsP s.u.l) && s.edits.all okE5
set_option maxHeartbeats 1600000 in
theorem zY (s:Sta) (below:ByteArray) (r0:Bool) (b N:Nat) (u:FrameMode) (w:World) (hin:StaIn w s) (hN:N≤b) (h0:Boxed w (b+1) 4 (.bool r0)) (h1:Boxed w (b+2) 9 (.string below))
 (h2:Box6 b (.string s.t) (.slice s.m.a s.m.l.length s.m.c) (.slice s.u.a s.u.l.length s.u.c) (.slice s.r.a s.r.l.length s.r.c) (.bool s.o) (.slice s.g.a s.g.l.length s.g.c) w)
 (ht:below.size≤140737488355328) (hu:s.u.l.length≤100) (hr:s.r.l.length≤100) (hz:∀ x∈s.rows,x.l.length≤100000∧Edtz x.l 140737488355328) :
 CallsD prog 81 #[.pointer (some ⟨b+1,0,none⟩),.pointer (some ⟨b+2,0,none⟩),.pointer (some ⟨b,0,none⟩)] u w fun e u' w'=>u'=u∧e=.returned (.tuple #[])∧Boxed w' (b+1) 4 (.bool (r0 && lastB s below))∧Below N w w':=by
 have cu:=AD below s.u.a s.u.l s.u.c w hin.u ht (by omega) (fun x hx=>hz x (by unfold Sta.rows;simp [hx]))
 have ce:=fun W (hW:Below w.heap.size w W)=>uO s W (hin.later hW) hu hr (fun x hx=>Nat.le_trans (hz x hx).1 (by decide))
 have hNz:N≤w.heap.size:=Nat.le_trans hN (Nat.le_of_lt h2.lt)
 have f0:=h0.cell
 have f1:=h1.cell
 have f2:=h2.x2
 have fz:=h0.frozen
 unfold lastB
 obtain ⟨R1,ac⟩:∃ R,goes16 invL below (lsP s.u.l)=R:=⟨_,rfl⟩
 obtain ⟨R2,ad⟩:∃ R,s.edits.all okE5=R:=⟨_,rfl⟩
 rw [ac] at cu ⊢
 rw [ad] at ce ⊢
 have H0:=hid h0;have H2:=hid h2;have CU:=hid cu;have CE:=hid ce;have ae:=hid hNz;have HN:=hid hN
 clear h0 h1 h2 cu ce ac ad hin ht hu hr hz hNz hN
 cases r0 with
 | false =>
  rw [Bool.false_and]
  go_enter_d func81,ntmps81
  go_wp2
  go_end0
  exact ⟨rfl,H0.out.set _,(Below.refl _ _).setCell (p:=⟨b+1,0,none⟩) (by have:=HN.out;show N≤b+1;omega) _⟩
 | true =>
  rw [Bool.true_and]
  cases R1 with
  | false =>
   rw [Bool.false_and]
   go_enter_d func81,ntmps81
   go_wp2_with (first|(go_at_call 82;(with_reducible refine CU.out.mono ?_);rintro e w1 ⟨rfl,aa⟩;have g0:=(aa.block _ H0.out.lt).trans H0.out;have HG:=hid (And.intro g0 aa);have f0:=Boxed.cell (show Boxed w1 (b+1) 4 _ from g0);have fz:=Boxed.frozen (show Boxed w1 (b+1) 4 _ from g0);clear g0 aa))
   go_end0
   exact ⟨rfl,Boxed.set (t:=4) (v:=.bool true) _ HG.out.1,(HG.out.2.mono ae.out).setCell (p:=⟨b+1,0,none⟩) (by have:=HN.out;show N≤b+1;omega) _⟩
  | true =>
   rw [Bool.true_and]
   go_enter_d func81,ntmps81
   go_wp2_with (first
    | (go_at_call 82;(with_reducible refine CU.out.mono ?_);rintro e w1 ⟨rfl,aa⟩;have B1:=hid aa;have g2:=H2.out.on aa H2.out.lt;have y0:=g2.x0;have y1:=g2.x1;have y2:=g2.x2;have y3:=g2.x3;have y4:=g2.x4;have y5:=g2.x5;clear g2 aa f0 f1 f2 fz)
    | (go_at_call 83;(with_reducible refine (CE.out _ B1.out).mono ?_);rintro e w2 ⟨rfl,ab⟩;have g0:=(ab.block _ (Nat.lt_of_lt_of_le H0.out.lt B1.out.size)).trans ((B1.out.block _ H0.out.lt).trans H0.out);have HG:=hid (And.intro g0 (B1.out.trans (ab.mono B1.out.size)));have f0:=Boxed.cell (show Boxed w2 (b+1) 4 _ from g0);have fz:=Boxed.frozen (show Boxed w2 (b+1) 4 _ from g0);clear g0 ab))
   go_end0
   exact ⟨rfl,Boxed.set (t:=4) (v:=.bool true) _ HG.out.1,(HG.out.2.mono ae.out).setCell (p:=⟨b+1,0,none⟩) (by have:=HN.out;show N≤b+1;omega) _⟩
structure RtI (w:World) (s:Sta) (r0:Bool) (below:ByteArray) (W:World):Prop where
 b0:Box6 w.heap.size (.string s.t) (.slice s.m.a s.m.l.length s.m.c) (.slice s.u.a s.u.l.length s.u.c) (.slice s.r.a s.r.l.length s.r.c) (.bool s.o) (.slice s.g.a s.g.l.length s.g.c) W
 b1:Boxed W (w.heap.size+1) 4 (.bool r0)
 b2:Boxed W (w.heap.size+1+1) 9 (.string below)
 bel:Below w.heap.size w W
theorem RtI.on {W2:World} {s:Sta} (h:RtI w s r0 below W) (hb:Below W.heap.size W W2):RtI w s r0 below W2:=
 ⟨h.b0.on hb h.b0.lt,(hb.block _ h.b1.lt).trans h.b1,(hb.block _ h.b2.lt).trans h.b2,h.bel.trans (hb.mono h.bel.size)⟩
theorem RtI.setr {s:Sta} (h:RtI w s r0 below W) (r:Bool):RtI w s r below (W.setCell ⟨w.heap.size+1,0,none⟩ (.bool r)):=
 ⟨h.b0.on ((Below.refl (w.heap.size+1) W).setCell (p:=⟨w.heap.size+1,0,none⟩) (Nat.le_refl _) _) (Nat.lt_succ_self _),h.b1.set _,h.b2.other (by omega) _,h.bel.setCell (p:=⟨w.heap.size+1,0,none⟩) (by show w.heap.size≤w.heap.size+1;omega) _⟩
theorem RtI.setb {s:Sta} (h:RtI w s r0 below W) (b:ByteArray):RtI w s r0 b (W.setCell ⟨w.heap.size+1+1,0,none⟩ (.string b)):=
 ⟨h.b0.on ((Below.refl (w.heap.size+1) W).setCell (p:=⟨w.heap.size+1+1,0,none⟩) (by show w.heap.size+1≤w.heap.size+1+1;omega) _) (Nat.lt_succ_self _),h.b1.other (by omega) _,h.b2.set _,h.bel.setCell (p:=⟨w.heap.size+1+1,0,none⟩) (by show w.heap.size≤w.heap.size+1+1;omega) _⟩
theorem RtI.new (w:World) (s:Sta):RtI w s false s.t (((w.alloc (.cells #[.string s.t,.slice s.m.a s.m.l.length s.m.c,.slice s.u.a s.u.l.length s.u.c,.slice s.r.a s.r.l.length s.r.c,.bool s.o,.slice s.g.a s.g.l.length s.g.c] 26)).alloc (.cells #[.bool false] 4)).alloc (.cells #[.string s.t] 9)):=by
 have e1:(w.alloc (.cells #[.string s.t,.slice s.m.a s.m.l.length s.m.c,.slice s.u.a s.u.l.length s.u.c,.slice s.r.a s.r.l.length s.r.c,.bool s.o,.slice s.g.a s.g.l.length s.g.c] 26)).heap.size=w.heap.size+1:=by simp
 refine ⟨((Box6.new w _ _ _ _ _ _ _).on (below1 _ _) (by simp)).on (below1 _ _) (by simp;omega),?_,?_,(below2 _ _ _).trans ((below1 _ _).mono (by simp;omega))⟩
 ·have:=Boxed.new (w.alloc (.cells #[.string s.t,.slice s.m.a s.m.l.length s.m.c,.slice s.u.a s.u.l.length s.u.c,.slice s.r.a s.r.l.length s.r.c,.bool s.o,.slice s.g.a s.g.l.length s.g.c] 26)) 4 (.bool false)
  rw [World.size_alloc] at this
  exact this.alloc _
 ·have:=Boxed.new ((w.alloc (.cells #[.string s.t,.slice s.m.a s.m.l.length s.m.c,.slice s.u.a s.u.l.length s.u.c,.slice s.r.a s.r.l.length s.r.c,.bool s.o,.slice s.g.a s.g.l.length s.g.c] 26)).alloc (.cells #[.bool false] 4)) 9 (.string s.t)
  rw [World.size_alloc,World.size_alloc] at this
  exact this
structure StaZ (s:Sta):Prop where
 t:s.t.size≤1000000000
 m:s.m.l.length≤1000000
 mz:∀ x∈s.m.l,x.name.size≤maxLen
 u:s.u.l.length≤100
 r:s.r.l.length≤100
 z:∀ x∈s.rows,x.l.length≤100000∧Edtz x.l 140737488355328
theorem StaZ.g {s:Sta} (h:StaZ s):s.g.l.length≤100000∧Edtz s.g.l 140737488355328:=h.z _ (by unfold Sta.rows;simp)
theorem bK {s:Sta} {R:Bool} {tmps:Array Value} (hi:RtI w s r0 below W) (hR:(r0 && lastB s below)=R) (ht0:tmps.getD 2 undef=.pointer (some ⟨w.heap.size+1,0,none⟩)) (hin:StaIn w s) (hbz:below.size≤140737488355328) (hz:StaZ s) :
 bodyPostD prog Tryz.f54 (RetB R w) .ret { tmps:=tmps,defers:=[{ target:=.fn (.func 81) #[.pointer (some ⟨w.heap.size+1,0,none⟩),.pointer (some ⟨w.heap.size+1+1,0,none⟩),.pointer (some ⟨w.heap.size,0,none⟩)],args:=#[] }] } W:=by
 refine leaves_cons (f:=81) (args:=#[.pointer (some ⟨w.heap.size+1,0,none⟩),.pointer (some ⟨w.heap.size+1+1,0,none⟩),.pointer (some ⟨w.heap.size,0,none⟩)]) (by simp) (by simp [go_sem]) ?_
 refine (zY s below r0 w.heap.size w.heap.size .returning W (hin.later hi.bel) (Nat.le_refl _) hi.b1 hi.b2 hi.b0 hbz hz.u hz.r hz.z).mono ?_
 rintro e u' w'' ⟨rfl,rfl,hbox,hbel⟩
 exact ⟨_,gV rfl underlying4 (by intro w;kernel_rfl) _ _ ⟨w.heap.size+1,0,none⟩ R ht0 (by rw [← hR];exact hbox.cell),rfl,hi.bel.trans hbel⟩
def rightP (s:Sta):Bool:=mayT s.t && (rightM s.m.l s.t && (goes16 id s.t (lsP s.r.l) && (if s.g.l.length=0 then lastB s s.t else (s.o && (decide (s.r.l.length=0) && (rightS s.t (invL s.g.l) && lastB s (runE s.t (invL s.g.l)).1))))))
set_option maxHeartbeats 3200000 in
theorem mI (s:Sta) (w:World) (hin:StaIn w s) (hz:StaZ s):Calls prog 54 #[s.v] w (RetB (rightP s) w):=by
 have hmf:∀ (fn:Fn) (first cap:Array Value) (w:World),(Instr.makeFunc fn first cap).run prog w=.ok (.func fn first cap) w:=fun _ _ _ _=>rfl
 have cT:=fun W=>wR s.t (by have:=hz.t;unfold maxLen;omega) W
 have cM:=fun W (hW:Below w.heap.size w W)=>zM s.m.a s.m.l s.m.c s.t _ W (hin.later hW).m.row (fun _ h=>h) hz.mz (by have:=hz.t;unfold maxLen;omega) hz.m
 have cD:=fun W (hW:Below w.heap.size w W)=>zX s.t s.r.a s.r.l s.r.c W (hin.later hW).r (by have:=hz.t;omega) (by have:=hz.r;omega) (fun x hx=>hz.z x (by unfold Sta.rows;simp [hx]))
 have cI:=fun W (hW:Below w.heap.size w W)=>mX s.g.a s.g.l s.g.c W (hin.later hW).g.row hz.g.1
 have cR:=fun W (hW:Below w.heap.size w W) ba bc (hr:EPcs W ⟨ba,invL s.g.l,bc⟩)=>by
  have h:=nU s.t ba (invL s.g.l) bc W hr.row (by have:=hz.t;omega) (by rw [aF];have:=hz.g.1;omega) hz.g.2.inv
  rw [aF] at h
  exact h
 have cX:=fun W (hW:Below w.heap.size w W) ba bc (hr:EPcs W ⟨ba,invL s.g.l,bc⟩)=>by
  have h:=fW s.t ba (invL s.g.l) bc W hr.row (by have:=hz.t;omega) (by rw [aF];have:=hz.g.1;omega) hz.g.2.inv
  rw [aF] at h
  exact h
 have hi:=RtI.new w s
 have htz:s.t.size≤140737488355328:=by have:=hz.t;omega
 have hsz:rightS s.t (invL s.g.l)=true→(runE s.t (invL s.g.l)).1.size≤140737488355328:=fun h=>by have:=mE h;have:=hz.t;omega
 unfold rightP
 obtain ⟨T,hT⟩:∃ T,mayT s.t=T:=⟨_,rfl⟩
 obtain ⟨M,hM⟩:∃ M,rightM s.m.l s.t=M:=⟨_,rfl⟩
 obtain ⟨Q,hQ⟩:∃ Q,goes16 id s.t (lsP s.r.l)=Q:=⟨_,rfl⟩
 obtain ⟨V,hV⟩:∃ V,rightS s.t (invL s.g.l)=V:=⟨_,rfl⟩
 obtain ⟨⟨B,E⟩,hB⟩:∃ B,runE s.t (invL s.g.l)=B:=⟨_,rfl⟩
 obtain ⟨L0,ay⟩:∃ L,lastB s s.t=L:=⟨_,rfl⟩
 rw [hB] at cX hsz
 rw [hT] at cT;rw [hM] at cM;rw [hQ] at cD;rw [hV] at cR hsz
 rw [hT,hM,hQ,hV,hB,ay]
 dsimp only
 obtain ⟨L1,az⟩:∃ L,lastB s B=L:=⟨_,rfl⟩
 rw [az]
 obtain ⟨wX,hwX⟩:∃ wX,((w.alloc (.cells #[.string s.t,.slice s.m.a s.m.l.length s.m.c,.slice s.u.a s.u.l.length s.u.c,.slice s.r.a s.r.l.length s.r.c,.bool s.o,.slice s.g.a s.g.l.length s.g.c] 26)).alloc (.cells #[.bool false] 4)).alloc (.cells #[.string s.t] 9)=wX:=⟨_,rfl⟩
 rw [hwX] at hi
 have hrl:s.r.l.length≤100:=hz.r
 have hgl:s.g.l.length≤100000:=hz.g.1
 have ai:=hid hi;have CT:=hid cT;have CM:=hid cM;have CD:=hid cD;have CI:=hid cI;have CR:=hid cR;have CX:=hid cX;have aq:=hid hin;have HZ:=hid hz;have a3:=hid ay;have a4:=hid az;have ar:=hid htz;have a5:=hid hsz
 have p0:=ai.out.b0.x0
 have p1:=ai.out.b0.x1
 have p3:=ai.out.b0.x3
 have p4:=ai.out.b0.x4
 have p5:=ai.out.b0.x5
 have c1:=ai.out.b1.cell
 have z1:=ai.out.b1.frozen
 have c2:=ai.out.b2.cell
 have z2:=ai.out.b2.frozen
 clear hi cT cM cD cI cR cX hin hz hT hM hQ hV hB ay az htz hsz
 cases T with
 | false =>
  rw [Bool.false_and]
  go_enter_defers func54,ntmps54
  go_wp2_with (first
   | (go_at_call 84;(with_reducible refine (CT.out _).mono ?_);rintro e w1 ⟨rfl,ae⟩;have aa:=hid (ai.out.on ae);clear ae;clear p0 p1 p3 p4 p5 c1 z1 c2 z2;have p0:=aa.out.b0.x0;have p1:=aa.out.b0.x1;have p3:=aa.out.b0.x3;have p4:=aa.out.b0.x4;have p5:=aa.out.b0.x5;have c1:=aa.out.b1.cell;have z1:=aa.out.b1.frozen;have c2:=aa.out.b2.cell;have z2:=aa.out.b2.frozen))
  exact bK (aa.out.setr false) (by rfl) rfl aq.out ar.out HZ.out
 | true =>
  rw [Bool.true_and]
  cases M with
  | false =>
   rw [Bool.false_and]
   go_enter_defers func54,ntmps54
   go_wp2_with (first
    | (go_at_call 84;(with_reducible refine (CT.out _).mono ?_);rintro e w1 ⟨rfl,ae⟩;have aa:=hid (ai.out.on ae);clear ae;clear p0 p1 p3 p4 p5 c1 z1 c2 z2;have p0:=aa.out.b0.x0;have p1:=aa.out.b0.x1;have p3:=aa.out.b0.x3;have p4:=aa.out.b0.x4;have p5:=aa.out.b0.x5;have c1:=aa.out.b1.cell;have z1:=aa.out.b1.frozen;have c2:=aa.out.b2.cell;have z2:=aa.out.b2.frozen)
    | (go_at_call 85;(with_reducible refine (CM.out _ aa.out.bel).mono ?_);rintro e w2 ⟨rfl,ah⟩;have ab:=hid (aa.out.on ah);clear ah;clear p0 p1 p3 p4 p5 c1 z1 c2 z2;have p0:=ab.out.b0.x0;have p1:=ab.out.b0.x1;have p3:=ab.out.b0.x3;have p4:=ab.out.b0.x4;have p5:=ab.out.b0.x5;have c1:=ab.out.b1.cell;have z1:=ab.out.b1.frozen;have c2:=ab.out.b2.cell;have z2:=ab.out.b2.frozen))
   exact bK (ab.out.setr false) (by rfl) rfl aq.out ar.out HZ.out
  | true =>
   rw [Bool.true_and]
   cases Q with
   | false =>
    rw [Bool.false_and]
    go_enter_defers func54,ntmps54
    go_wp2_with (first
     | (go_at_call 84;(with_reducible refine (CT.out _).mono ?_);rintro e w1 ⟨rfl,ae⟩;have aa:=hid (ai.out.on ae);clear ae;clear p0 p1 p3 p4 p5 c1 z1 c2 z2;have p0:=aa.out.b0.x0;have p1:=aa.out.b0.x1;have p3:=aa.out.b0.x3;have p4:=aa.out.b0.x4;have p5:=aa.out.b0.x5;have c1:=aa.out.b1.cell;have z1:=aa.out.b1.frozen;have c2:=aa.out.b2.cell;have z2:=aa.out.b2.frozen)
     | (go_at_call 85;(with_reducible refine (CM.out _ aa.out.bel).mono ?_);rintro e w2 ⟨rfl,ah⟩;have ab:=hid (aa.out.on ah);clear ah;clear p0 p1 p3 p4 p5 c1 z1 c2 z2;have p0:=ab.out.b0.x0;have p1:=ab.out.b0.x1;have p3:=ab.out.b0.x3;have p4:=ab.out.b0.x4;have p5:=ab.out.b0.x5;have c1:=ab.out.b1.cell;have z1:=ab.out.b1.frozen;have c2:=ab.out.b2.cell;have z2:=ab.out.b2.frozen)
     | (go_at_call 86;(with_reducible refine (CD.out _ ab.out.bel).mono ?_);rintro e w3 ⟨rfl,aj⟩;have ac:=hid (ab.out.on aj);clear aj;clear p0 p1 p3 p4 p5 c1 z1 c2 z2;have p0:=ac.out.b0.x0;have p1:=ac.out.b0.x1;have p3:=ac.out.b0.x3;have p4:=ac.out.b0.x4;have p5:=ac.out.b0.x5;have c1:=ac.out.b1.cell;have z1:=ac.out.b1.frozen;have c2:=ac.out.b2.cell;have z2:=ac.out.b2.frozen))
    exact bK (ac.out.setr false) (by rfl) rfl aq.out ar.out HZ.out
   | true =>
    rw [Bool.true_and]
    by_cases hg:s.g.l.length=0
    ·rw [if_pos hg]
     have a6:(s.g.l.length:Int)≤0:=by omega
     clear hg
     go_enter_defers func54,ntmps54
     go_wp2_with (first
      | (go_at_call 84;(with_reducible refine (CT.out _).mono ?_);rintro e w1 ⟨rfl,ae⟩;have aa:=hid (ai.out.on ae);clear ae;clear p0 p1 p3 p4 p5 c1 z1 c2 z2;have p0:=aa.out.b0.x0;have p1:=aa.out.b0.x1;have p3:=aa.out.b0.x3;have p4:=aa.out.b0.x4;have p5:=aa.out.b0.x5;have c1:=aa.out.b1.cell;have z1:=aa.out.b1.frozen;have c2:=aa.out.b2.cell;have z2:=aa.out.b2.frozen)
      | (go_at_call 85;(with_reducible refine (CM.out _ aa.out.bel).mono ?_);rintro e w2 ⟨rfl,ah⟩;have ab:=hid (aa.out.on ah);clear ah;clear p0 p1 p3 p4 p5 c1 z1 c2 z2;have p0:=ab.out.b0.x0;have p1:=ab.out.b0.x1;have p3:=ab.out.b0.x3;have p4:=ab.out.b0.x4;have p5:=ab.out.b0.x5;have c1:=ab.out.b1.cell;have z1:=ab.out.b1.frozen;have c2:=ab.out.b2.cell;have z2:=ab.out.b2.frozen)
      | (go_at_call 86;(with_reducible refine (CD.out _ ab.out.bel).mono ?_);rintro e w3 ⟨rfl,aj⟩;have ac:=hid (ab.out.on aj);clear aj;clear p0 p1 p3 p4 p5 c1 z1 c2 z2;have p0:=ac.out.b0.x0;have p1:=ac.out.b0.x1;have p3:=ac.out.b0.x3;have p4:=ac.out.b0.x4;have p5:=ac.out.b0.x5;have c1:=ac.out.b1.cell;have z1:=ac.out.b1.frozen;have c2:=ac.out.b2.cell;have z2:=ac.out.b2.frozen))
     exact bK (ac.out.setr true) (by rw [a3.out];rfl) rfl aq.out ar.out HZ.out
    ·rw [if_neg hg]
     have a6:(0:Int)<(s.g.l.length:Int):=by omega
     have hor:s.o=true∨s.o=false:=by cases s.o <;> simp
     rcases hor with ho|ho
     ·rw [ho,Bool.true_and]
      by_cases hr:s.r.l.length=0
      ·rw [decide_eq_true hr,Bool.true_and]
       have a7:(s.r.l.length:Int)≤0:=by omega
       have a8:¬ 0<s.r.l.length:=by omega
       clear hr
       cases V with
       | false =>
        rw [Bool.false_and]
        go_enter_defers func54,ntmps54
        go_upto_region 7 with (first
         | (go_at_call 84;(with_reducible refine (CT.out _).mono ?_);rintro e w1 ⟨rfl,ae⟩;have aa:=hid (ai.out.on ae);clear ae;clear p0 p1 p3 p4 p5 c1 z1 c2 z2;have p0:=aa.out.b0.x0;have p1:=aa.out.b0.x1;have p3:=aa.out.b0.x3;have p4:=aa.out.b0.x4;have p5:=aa.out.b0.x5;have c1:=aa.out.b1.cell;have z1:=aa.out.b1.frozen;have c2:=aa.out.b2.cell;have z2:=aa.out.b2.frozen)
         | (go_at_call 85;(with_reducible refine (CM.out _ aa.out.bel).mono ?_);rintro e w2 ⟨rfl,ah⟩;have ab:=hid (aa.out.on ah);clear ah;clear p0 p1 p3 p4 p5 c1 z1 c2 z2;have p0:=ab.out.b0.x0;have p1:=ab.out.b0.x1;have p3:=ab.out.b0.x3;have p4:=ab.out.b0.x4;have p5:=ab.out.b0.x5;have c1:=ab.out.b1.cell;have z1:=ab.out.b1.frozen;have c2:=ab.out.b2.cell;have z2:=ab.out.b2.frozen)
         | (go_at_call 86;(with_reducible refine (CD.out _ ab.out.bel).mono ?_);rintro e w3 ⟨rfl,aj⟩;have ac:=hid (ab.out.on aj);clear aj;clear p0 p1 p3 p4 p5 c1 z1 c2 z2;have p0:=ac.out.b0.x0;have p1:=ac.out.b0.x1;have p3:=ac.out.b0.x3;have p4:=ac.out.b0.x4;have p5:=ac.out.b0.x5;have c1:=ac.out.b1.cell;have z1:=ac.out.b1.frozen;have c2:=ac.out.b2.cell;have z2:=ac.out.b2.frozen)
         | (go_at_call 87;refine (CI.out _ ac.out.bel).mono ?_;rintro e w4 ⟨ba,bc,rfl,hrow,am⟩;have au:=hid (ac.out.on am);have an:=hid hrow;clear am hrow;clear p0 p1 p3 p4 p5 c1 z1 c2 z2))
        rw [aF]
        obtain ⟨w5,af⟩:∃ w5,w4.alloc (.cells #[.slice ba s.g.l.length bc] 54)=w5:=⟨_,rfl⟩
        rw [af]
        have ak:Below w4.heap.size w4 w5:=by rw [← af];exact below1 _ _
        have ad:=hid (au.out.on ak);have av:=hid (an.out.in.later ak);have aw:=hid (show w4.heap.size<w5.heap.size by rw [← af];simp)
        have k0:w5.cell? ⟨w4.heap.size,0,none⟩=some (.slice ba s.g.l.length bc):=by rw [← af];simp [World.cell?_alloc_new]
        have ax:=hid k0
        clear af ak
        have p0:=ad.out.b0.x0
        have p1:=ad.out.b0.x1
        have p3:=ad.out.b0.x3
        have p4:=ad.out.b0.x4
        have p5:=ad.out.b0.x5
        have c1:=ad.out.b1.cell
        have z1:=ad.out.b1.frozen
        have c2:=ad.out.b2.cell
        have z2:=ad.out.b2.frozen
        rw [ho] at p4
        go_wp2_with (first
         | (go_at_call 88;(with_reducible refine (CR.out _ ad.out.bel _ _ av.out).mono ?_);rintro e w6 ⟨rfl,ao⟩;have ag:=hid (ad.out.on ao);have a1:=hid (av.out.later ao);have a0:=hid ((ao.cell (p:=⟨w4.heap.size,0,none⟩) aw.out).trans ax.out);clear ao k0;clear p0 p1 p3 p4 p5 c1 z1 c2 z2;have p0:=ag.out.b0.x0;have p1:=ag.out.b0.x1;have p3:=ag.out.b0.x3;have p4:=ag.out.b0.x4;have p5:=ag.out.b0.x5;have c1:=ag.out.b1.cell;have z1:=ag.out.b1.frozen;have c2:=ag.out.b2.cell;have z2:=ag.out.b2.frozen;have k0:=a0.out))
        exact bK (ag.out.setr false) (by rfl) rfl aq.out ar.out HZ.out
       | true =>
        rw [Bool.true_and]
        go_enter_defers func54,ntmps54
        go_upto_region 7 with (first
         | (go_at_call 84;(with_reducible refine (CT.out _).mono ?_);rintro e w1 ⟨rfl,ae⟩;have aa:=hid (ai.out.on ae);clear ae;clear p0 p1 p3 p4 p5 c1 z1 c2 z2;have p0:=aa.out.b0.x0;have p1:=aa.out.b0.x1;have p3:=aa.out.b0.x3;have p4:=aa.out.b0.x4;have p5:=aa.out.b0.x5;have c1:=aa.out.b1.cell;have z1:=aa.out.b1.frozen;have c2:=aa.out.b2.cell;have z2:=aa.out.b2.frozen)
         | (go_at_call 85;(with_reducible refine (CM.out _ aa.out.bel).mono ?_);rintro e w2 ⟨rfl,ah⟩;have ab:=hid (aa.out.on ah);clear ah;clear p0 p1 p3 p4 p5 c1 z1 c2 z2;have p0:=ab.out.b0.x0;have p1:=ab.out.b0.x1;have p3:=ab.out.b0.x3;have p4:=ab.out.b0.x4;have p5:=ab.out.b0.x5;have c1:=ab.out.b1.cell;have z1:=ab.out.b1.frozen;have c2:=ab.out.b2.cell;have z2:=ab.out.b2.frozen)
         | (go_at_call 86;(with_reducible refine (CD.out _ ab.out.bel).mono ?_);rintro e w3 ⟨rfl,aj⟩;have ac:=hid (ab.out.on aj);clear aj;clear p0 p1 p3 p4 p5 c1 z1 c2 z2;have p0:=ac.out.b0.x0;have p1:=ac.out.b0.x1;have p3:=ac.out.b0.x3;have p4:=ac.out.b0.x4;have p5:=ac.out.b0.x5;have c1:=ac.out.b1.cell;have z1:=ac.out.b1.frozen;have c2:=ac.out.b2.cell;have z2:=ac.out.b2.frozen)
         | (go_at_call 87;refine (CI.out _ ac.out.bel).mono ?_;rintro e w4 ⟨ba,bc,rfl,hrow,am⟩;have au:=hid (ac.out.on am);have an:=hid hrow;clear am hrow;clear p0 p1 p3 p4 p5 c1 z1 c2 z2))
        rw [aF]
        obtain ⟨w5,af⟩:∃ w5,w4.alloc (.cells #[.slice ba s.g.l.length bc] 54)=w5:=⟨_,rfl⟩
        rw [af]
        have ak:Below w4.heap.size w4 w5:=by rw [← af];exact below1 _ _
        have ad:=hid (au.out.on ak);have av:=hid (an.out.in.later ak);have aw:=hid (show w4.heap.size<w5.heap.size by rw [← af];simp)
        have k0:w5.cell? ⟨w4.heap.size,0,none⟩=some (.slice ba s.g.l.length bc):=by rw [← af];simp [World.cell?_alloc_new]
        have ax:=hid k0
        clear af ak
        have p0:=ad.out.b0.x0
        have p1:=ad.out.b0.x1
        have p3:=ad.out.b0.x3
        have p4:=ad.out.b0.x4
        have p5:=ad.out.b0.x5
        have c1:=ad.out.b1.cell
        have z1:=ad.out.b1.frozen
        have c2:=ad.out.b2.cell
        have z2:=ad.out.b2.frozen
        rw [ho] at p4
        go_wp2_with (first
         | (go_at_call 88;(with_reducible refine (CR.out _ ad.out.bel _ _ av.out).mono ?_);rintro e w6 ⟨rfl,ao⟩;have ag:=hid (ad.out.on ao);have a1:=hid (av.out.later ao);have a0:=hid ((ao.cell (p:=⟨w4.heap.size,0,none⟩) aw.out).trans ax.out);clear ao k0;clear p0 p1 p3 p4 p5 c1 z1 c2 z2;have p0:=ag.out.b0.x0;have p1:=ag.out.b0.x1;have p3:=ag.out.b0.x3;have p4:=ag.out.b0.x4;have p5:=ag.out.b0.x5;have c1:=ag.out.b1.cell;have z1:=ag.out.b1.frozen;have c2:=ag.out.b2.cell;have z2:=ag.out.b2.frozen;have k0:=a0.out)
         | (go_at_call 89;(with_reducible refine (CX.out _ ag.out.bel _ _ a1.out).mono ?_);rintro e w7 ⟨rfl,a2⟩;have al:=hid (ag.out.on a2);clear a2 k0;clear p0 p1 p3 p4 p5 c1 z1 c2 z2;have p0:=al.out.b0.x0;have p1:=al.out.b0.x1;have p3:=al.out.b0.x3;have p4:=al.out.b0.x4;have p5:=al.out.b0.x5;have c1:=al.out.b1.cell;have z1:=al.out.b1.frozen;have c2:=al.out.b2.cell;have z2:=al.out.b2.frozen;have z1b:=(al.out.setb B).b1.frozen;have c1b:=(al.out.setb B).b1.cell))
        exact bK ((al.out.setb B).setr true) (by rw [a4.out];rfl) rfl aq.out (a5.out (by trivial)) HZ.out
      ·rw [decide_eq_false hr,Bool.false_and]
       have a7:(0:Int)<(s.r.l.length:Int):=by omega
       go_enter_defers func54,ntmps54
       go_upto_region 7 with (first
        | (go_at_call 84;(with_reducible refine (CT.out _).mono ?_);rintro e w1 ⟨rfl,ae⟩;have aa:=hid (ai.out.on ae);clear ae;clear p0 p1 p3 p4 p5 c1 z1 c2 z2;have p0:=aa.out.b0.x0;have p1:=aa.out.b0.x1;have p3:=aa.out.b0.x3;have p4:=aa.out.b0.x4;have p5:=aa.out.b0.x5;have c1:=aa.out.b1.cell;have z1:=aa.out.b1.frozen;have c2:=aa.out.b2.cell;have z2:=aa.out.b2.frozen)
        | (go_at_call 85;(with_reducible refine (CM.out _ aa.out.bel).mono ?_);rintro e w2 ⟨rfl,ah⟩;have ab:=hid (aa.out.on ah);clear ah;clear p0 p1 p3 p4 p5 c1 z1 c2 z2;have p0:=ab.out.b0.x0;have p1:=ab.out.b0.x1;have p3:=ab.out.b0.x3;have p4:=ab.out.b0.x4;have p5:=ab.out.b0.x5;have c1:=ab.out.b1.cell;have z1:=ab.out.b1.frozen;have c2:=ab.out.b2.cell;have z2:=ab.out.b2.frozen)
        | (go_at_call 86;(with_reducible refine (CD.out _ ab.out.bel).mono ?_);rintro e w3 ⟨rfl,aj⟩;have ac:=hid (ab.out.on aj);clear aj;clear p0 p1 p3 p4 p5 c1 z1 c2 z2;have p0:=ac.out.b0.x0;have p1:=ac.out.b0.x1;have p3:=ac.out.b0.x3;have p4:=ac.out.b0.x4;have p5:=ac.out.b0.x5;have c1:=ac.out.b1.cell;have z1:=ac.out.b1.frozen;have c2:=ac.out.b2.cell;have z2:=ac.out.b2.frozen)
        | (go_at_call 87;refine (CI.out _ ac.out.bel).mono ?_;rintro e w4 ⟨ba,bc,rfl,hrow,am⟩;have au:=hid (ac.out.on am);have an:=hid hrow;clear am hrow;clear p0 p1 p3 p4 p5 c1 z1 c2 z2))
       rw [aF]
       obtain ⟨w5,af⟩:∃ w5,w4.alloc (.cells #[.slice ba s.g.l.length bc] 54)=w5:=⟨_,rfl⟩
       rw [af]
       have ak:Below w4.heap.size w4 w5:=by rw [← af];exact below1 _ _
       have ad:=hid (au.out.on ak);have av:=hid (an.out.in.later ak);have aw:=hid (show w4.heap.size<w5.heap.size by rw [← af];simp)
       have k0:w5.cell? ⟨w4.heap.size,0,none⟩=some (.slice ba s.g.l.length bc):=by rw [← af];simp [World.cell?_alloc_new]
       have ax:=hid k0
       clear af ak
       have p0:=ad.out.b0.x0
       have p1:=ad.out.b0.x1
       have p3:=ad.out.b0.x3
       have p4:=ad.out.b0.x4
       have p5:=ad.out.b0.x5
       have c1:=ad.out.b1.cell
       have z1:=ad.out.b1.frozen
       have c2:=ad.out.b2.cell
       have z2:=ad.out.b2.frozen
       rw [ho] at p4
       go_wp2
       exact bK (ad.out.setr false) (by rfl) rfl aq.out ar.out HZ.out
     ·rw [ho,Bool.false_and]
      go_enter_defers func54,ntmps54
      go_upto_region 7 with (first
       | (go_at_call 84;(with_reducible refine (CT.out _).mono ?_);rintro e w1 ⟨rfl,ae⟩;have aa:=hid (ai.out.on ae);clear ae;clear p0 p1 p3 p4 p5 c1 z1 c2 z2;have p0:=aa.out.b0.x0;have p1:=aa.out.b0.x1;have p3:=aa.out.b0.x3;have p4:=aa.out.b0.x4;have p5:=aa.out.b0.x5;have c1:=aa.out.b1.cell;have z1:=aa.out.b1.frozen;have c2:=aa.out.b2.cell;have z2:=aa.out.b2.frozen)
       | (go_at_call 85;(with_reducible refine (CM.out _ aa.out.bel).mono ?_);rintro e w2 ⟨rfl,ah⟩;have ab:=hid (aa.out.on ah);clear ah;clear p0 p1 p3 p4 p5 c1 z1 c2 z2;have p0:=ab.out.b0.x0;have p1:=ab.out.b0.x1;have p3:=ab.out.b0.x3;have p4:=ab.out.b0.x4;have p5:=ab.out.b0.x5;have c1:=ab.out.b1.cell;have z1:=ab.out.b1.frozen;have c2:=ab.out.b2.cell;have z2:=ab.out.b2.frozen)
       | (go_at_call 86;(with_reducible refine (CD.out _ ab.out.bel).mono ?_);rintro e w3 ⟨rfl,aj⟩;have ac:=hid (ab.out.on aj);clear aj;clear p0 p1 p3 p4 p5 c1 z1 c2 z2;have p0:=ac.out.b0.x0;have p1:=ac.out.b0.x1;have p3:=ac.out.b0.x3;have p4:=ac.out.b0.x4;have p5:=ac.out.b0.x5;have c1:=ac.out.b1.cell;have z1:=ac.out.b1.frozen;have c2:=ac.out.b2.cell;have z2:=ac.out.b2.frozen)
       | (go_at_call 87;refine (CI.out _ ac.out.bel).mono ?_;rintro e w4 ⟨ba,bc,rfl,hrow,am⟩;have au:=hid (ac.out.on am);have an:=hid hrow;clear am hrow;clear p0 p1 p3 p4 p5 c1 z1 c2 z2))
      rw [aF]
      obtain ⟨w5,af⟩:∃ w5,w4.alloc (.cells #[.slice ba s.g.l.length bc] 54)=w5:=⟨_,rfl⟩
      rw [af]
      have ak:Below w4.heap.size w4 w5:=by rw [← af];exact below1 _ _
      have ad:=hid (au.out.on ak);have av:=hid (an.out.in.later ak);have aw:=hid (show w4.heap.size<w5.heap.size by rw [← af];simp)
      have k0:w5.cell? ⟨w4.heap.size,0,none⟩=some (.slice ba s.g.l.length bc):=by rw [← af];simp [World.cell?_alloc_new]
      have ax:=hid k0
      clear af ak
      have p0:=ad.out.b0.x0
      have p1:=ad.out.b0.x1
      have p3:=ad.out.b0.x3
      have p4:=ad.out.b0.x4
      have p5:=ad.out.b0.x5
      have c1:=ad.out.b1.cell
      have z1:=ad.out.b1.frozen
      have c2:=ad.out.b2.cell
      have z2:=ad.out.b2.frozen
      rw [ho] at p4
      go_wp2
      exact bK (ad.out.setr false) (by rfl) rfl aq.out ar.out HZ.out
theorem oO (a:Option Addr) (l:List Edt) (c:Nat) (w:World) (hp:EPcs w ⟨a,l,c⟩) (hl:l.length≤1000000) :
 Calls prog 93 #[.slice a l.length c] w fun e w'=>∃ a' c',e=.returned (.slice a' l.length c')∧w'.ownsRow w.heap.size 92 3 (.slice a' l.length c') l.length (Edt.flat l)∧Below w.heap.size w w':=by
 cases a with
 | none =>
  have e0:l=[]:=hp.len rfl
  have e1:c=0:=hp.nil rfl
  subst e0
  subst e1
  refine (oD w).mono ?_
  rintro e w' ⟨rfl,rfl⟩
  exact ⟨none,0,rfl,World.ownsRow_nil _ _ _ _,Below.refl _ _⟩
 | some ad =>
  refine (mB ad l c w hp.row hl).mono ?_
  rintro e w' ⟨v,rfl,ho,-,hb⟩
  obtain ⟨a',c',rfl,-⟩:=eG ho
  exact ⟨a',c',rfl,ho,hb⟩
theorem yK (a:Option Addr) (l:List Mrk) (c:Nat) (w:World) (hp:KPcs w ⟨a,l,c⟩) (hl:l.length≤1000000) :
 Calls prog 91 #[.slice a l.length c] w fun e w'=>∃ a' c',e=.returned (.slice a' l.length c')∧w'.ownsRow w.heap.size 90 2 (.slice a' l.length c') l.length (Mrk.flat l)∧Below w.heap.size w w':=by
 cases a with
 | none =>
  have e0:l=[]:=hp.len rfl
  have e1:c=0:=hp.nil rfl
  subst e0
  subst e1
  refine (vT w).mono ?_
  rintro e w' ⟨rfl,rfl⟩
  exact ⟨none,0,rfl,World.ownsRow_nil _ _ _ _,Below.refl _ _⟩
 | some ad =>
  refine (vU ad l c w hp.row hl).mono ?_
  rintro e w' ⟨v,rfl,ho,-,hb⟩
  obtain ⟨a',c',rfl,-⟩:=sH ho
  exact ⟨a',c',rfl,ho,hb⟩
abbrev OwnE (w:World) (base:Nat) (x:EPc):Prop:=w.ownsRow base 92 3 (.slice x.a x.l.length x.c) x.l.length (Edt.flat x.l)
abbrev OwnK (w:World) (base:Nat) (x:KPc):Prop:=w.ownsRow base 90 2 (.slice x.a x.l.length x.c) x.l.length (Mrk.flat x.l)
abbrev OwnS (w:World) (base:Nat) (x:SPc):Prop:=w.ownsRow base 54 1 (.slice x.a x.l.length x.c) x.l.length (sflat x.l)
def CopS (w:World) (base:Nat) (x:SPc):Prop:=x.l=[]∨∃ g,x.a=some ⟨g,0,none⟩∧base≤g∧OwnS w base x∧∀ y∈x.l,OwnE w (g+1) y
def RetCop (w:World) (L:List (List Edt)) (e:Ending) (w':World):Prop:=∃ a c l,e=.returned (.slice a l.length c)∧lsP l=L∧SPcs w' ⟨a,l,c⟩∧CopS w' w.heap.size ⟨a,l,c⟩∧Below w.heap.size w w'
theorem OwnE.in {x:EPc} (h:OwnE w base x):EPcs w x:=by
 obtain ⟨a,c,ev,hr⟩:=eG h
 obtain ⟨xa,xl,xc⟩:=x
 injection ev with e1 e2 e3
 simp only at e1 e3
 subst e1
 subst e3
 exact hr.in
set_option maxHeartbeats 1600000 in
theorem jL (a:Option Addr) (l:List EPc) (c:Nat) (w:World) (hp:SPcs w ⟨a,l,c⟩) (hl:l.length≤1000) (hb:∀ x∈l,x.l.length≤1000000) :
 Calls prog 92 #[.slice a l.length c] w (RetCop w (lsP l)):=by
 cases a with
 | none =>
  have e0:l=[]:=hp.len rfl
  have e1:c=0:=hp.nil rfl
  subst e0
  subst e1
  have CN:=hid (fun W=>yG W)
  clear hp hl hb
  show Calls prog 92 #[.slice none 0 0] w (RetCop w (lsP []))
  go_enter func92,ntmps92
  go_wp2_with fail
  refine (CN.out _).mono ?_;rintro e w1 ⟨rfl,ah⟩
  have HB:=hid (show Below w.heap.size w w1 by rw [ah];exact Below.refl _ _)
  clear ah
  go_wp2
  go_loopw [9] (fun i wr=>i=.int .i64 0∧Below w.heap.size w wr) (fun i _=>0)
  case atStart=>exact ⟨rfl,HB.out⟩
  case round =>
   obtain ⟨rfl,hbel⟩:=hrel
   have ar:=hid hbel
   clear hbel
   go_wp2
   go_ret
   exact ⟨none,0,[],rfl,rfl,SPcs.empty _,.inl rfl,ar.out⟩
 | some ad0 =>
  obtain ⟨n,hn⟩:∃ n,l.length=n:=⟨_,rfl⟩
  have cc:=wU ad0 l c w hp.row (by omega)
  have CC:=hid cc;have HP:=hid hp;have HN:=hid hn;have au:=hid hb
  rw [hn] at hl CC ⊢
  clear hn hp hb cc
  go_enter func92,ntmps92
  go_wp2_with fail
  refine CC.out.mono ?_;rintro e w1 ⟨v,rfl,hown,hne,ai⟩
  have hown:w1.ownsRow w.heap.size 54 1 v n (sflat l):=hown
  obtain ⟨g,cp,hg,hwg⟩:∃ g cp,v=.slice (some ⟨g,0,none⟩) n cp∧w.heap.size≤g:=by
   rcases hown.2 with ⟨h,-⟩|⟨g,cap,cur,h,hb,-⟩
   ·exact absurd h hne
   ·exact ⟨g,cap,h,hb⟩
  subst hg
  have an:=hid hown;have av:=hid ai;have HG:=hid hwg
  clear hown hne ai CC hwg
  go_wp2
  go_loopw [9] (fun i wr=>∃ (k:Nat) (qs:List EPc),k≤n∧i=.int .i64 k∧qs.length=k∧wr.ownsRow w.heap.size 54 1 (.slice (some ⟨g,0,none⟩) n cp) n (sflat (qs++l.drop k))∧lsP qs=(lsP l).take k∧(∀ x∈qs,OwnE wr (g+1) x)∧Below w.heap.size w wr) (fun i _=>n - (intOf i).toNat)
  case atStart=>exact ⟨0,[],Nat.zero_le _,rfl,rfl,an.out,rfl,fun x hx=>absurd hx (by simp),av.out⟩
  case round =>
   obtain ⟨k,qs,hk,rfl,hqk,hown,hqs,hall,hbel⟩:=hrel
   by_cases hlt:k<n
   ·have hkl:k<l.length:=by rw [HN.out];exact hlt
    have af:=(HP.out.later hbel).all.at k hkl
    have ad:=au.out (l[k]!) (by rw [epget hkl];exact List.getElem_mem hkl)
    have ae:lsP qs++[(l[k]!).l]=(lsP l).take (k+1):=by rw [ltake (by rw [aG];exact hkl),hqs,eI l k hkl]
    have hgl:g<wr.heap.size:=(hown.lt _ rfl).2
    have hkq:k<(qs++l.drop k).length:=by rw [List.length_append,List.length_drop,hqk];omega
    have q0:=(hown.cellAt k (by omega)).trans (eQ _ k hkq)
    have hdr:(qs++l.drop k)[k]! = l[k]! :=by
     rw [epget hkq,epget hkl,List.getElem_append_right (by rw [hqk];exact Nat.le_refl _),List.getElem_drop]
     simp only [hqk,Nat.sub_self,Nat.add_zero]
    rw [hdr] at q0
    have hset:∀ y,(qs++l.drop k).set k y=(qs++[y])++l.drop (k+1):=fun y=>by
     rw [List.set_append_right _ _ (by rw [hqk];exact Nat.le_refl _),hqk,Nat.sub_self,List.drop_eq_getElem_cons hkl,List.set_cons_zero,List.append_assoc]
     rfl
    obtain ⟨x,hx⟩:∃ x,l[k]! = x:=⟨_,rfl⟩
    rw [hx] at q0 af ad ae
    obtain ⟨xa,xl,xc⟩:=x
    simp only [EPc.v] at q0 ad ae
    replace q0:wr.cell? ⟨g,k,none⟩=some (.slice xa xl.length xc):=q0
    have hbx:=below1 wr (.cells #[.slice xa xl.length xc] 54)
    have co:=oO xa xl xc _ (af.later hbx) ad
    obtain ⟨m,hm⟩:∃ m,xl.length=m:=⟨_,rfl⟩
    have CO:=hid co;have HO:=hid hown;have HM:=hid hm;have aw:=hid ae;have ac:=hid hall;have ag:=hid hbx;have aj:=hid hgl;have HQ:=hid hqk;have ao:=hid hset
    rw [hm] at q0 CO ag
    have b0:(0:Int)≤(k:Int):=by omega
    have b1:(k:Int)<(n:Int):=by omega
    clear co hown hm hx af ad ae hall hbx hgl hqs hqk hset hdr hkq
    go_wp2_with fail
    refine CO.out.mono ?_
    rintro e w3 ⟨a3,c3,rfl,aa,ak⟩
    have ab:Below wr.heap.size wr w3:=ag.out.trans (ak.mono ag.out.size)
    have al:=hid (cK HO.out ab)
    have ax:=hid (hbel.trans (ab.mono hbel.size))
    have f0:=al.out.frozenAt k
    have q3:=(ab.cell (p:=⟨g,k,none⟩) aj.out).trans q0
    have ay:=hid (al.out.stored k (.slice a3 xl.length c3)).1
    have HS:=hid ((rA (qs++l.drop k) k ⟨a3,xl,c3⟩).trans (congrArg sflat (ao.out ⟨a3,xl,c3⟩)))
    have az:=hid (ax.out.setCell (p:=⟨g,k,none⟩) HG.out (.slice a3 m c3))
    have aa:OwnE w3 (wr.alloc (.cells #[.slice xa m xc] 54)).heap.size ⟨a3,xl,c3⟩:=by show World.ownsRow _ _ _ _ (.slice a3 xl.length c3) _ _;rw [HM.out];rw [← HM.out] at aa ⊢;exact aa
    have a0:=hid (aJ (mP (b2:=g+1) aa (by have:=aj.out;simp;omega)) (p:=⟨g,k,none⟩) (Nat.lt_succ_self g) (.slice a3 m c3))
    have a1:=hid (fun x hx=>aJ (cK (ac.out x hx) ab) (p:=⟨g,k,none⟩) (Nat.lt_succ_self g) (.slice a3 m c3))
    clear aa ak ab hbel q0
    go_wp2
    go_roundw
    case rel =>
     refine ⟨k+1,qs++[⟨a3,xl,c3⟩],by omega,by go_num,by rw [List.length_append,HQ.out];rfl,?_,by rw [pH];exact aw.out,?_,az.out⟩
     ·have h:=ay.out
      have hS:=HS.out
      simp only [EPc.v] at hS
      rw [hS,HM.out] at h
      exact h
     ·intro x hx
      rcases List.mem_append.1 hx with hx|hx
      ·exact a1.out x hx
      ·obtain rfl:=List.mem_singleton.1 hx
       exact a0.out
    case measure=>simp [intOf];omega
   ·obtain rfl:k=n:=by omega
    rw [List.drop_eq_nil_of_le (by rw [HN.out];exact Nat.le_refl _),List.append_nil] at hown
    have hown:wr.ownsRow w.heap.size 54 1 (.slice (some ⟨g,0,none⟩) k cp) qs.length (sflat qs):=by rw [hqk];exact hown
    obtain ⟨a4,c4,ev,hrow⟩:=iW hown (fun x hx=>OwnE.in (hall x hx))
    rw [hqk] at ev
    injection ev with e1 e2 e3
    subst e1
    subst e3
    have am:lsP qs=lsP l:=by rw [hqs,List.take_of_length_le (by rw [aG,HN.out];exact Nat.le_refl _)]
    have aq:=hid hrow;have HQ:=hid hqk;have a2:=hid (show wr.ownsRow w.heap.size 54 1 (.slice (some ⟨g,0,none⟩) qs.length cp) qs.length (sflat qs) by have h:=hown;rw [hqk] at h ⊢;exact h);have a5:=hid am;have ac:=hid hall
    clear hrow hown hqk hqs hall am
    go_wp2
    go_ret
    exact ⟨_,cp,qs,by rw [HQ.out];rfl,a5.out,aq.out.in,.inr ⟨g,rfl,HG.out,a2.out,ac.out⟩,hbel⟩
structure CopI (w:World) (s s':Sta) (b1 b2 b3:Nat) (w':World):Prop where
 d:s'.d=s.d
 l1:w.heap.size≤b1
 l2:b1≤b2
 l3:b2≤b3
 l4:b3≤w'.heap.size
 m:OwnK w' w.heap.size s'.m
 mh:∀ k,(Value.slice s'.m.a s'.m.l.length s'.m.c).ownBlock=some k→k<b1
 u:CopS w' b1 s'.u
 uh:s'.u.l=[]∨∀ k,(Value.slice s'.u.a s'.u.l.length s'.u.c).ownBlock=some k→k<b2
 ue:∀ y∈s'.u.l,∀ k,(Value.slice y.a y.l.length y.c).ownBlock=some k→k<b2
 us:SPcs w' s'.u
 r:CopS w' b2 s'.r
 rh:s'.r.l=[]∨∀ k,(Value.slice s'.r.a s'.r.l.length s'.r.c).ownBlock=some k→k<b3
 re:∀ y∈s'.r.l,∀ k,(Value.slice y.a y.l.length y.c).ownBlock=some k→k<b3
 rs:SPcs w' s'.r
 g:OwnE w' b3 s'.g
 bel:Below w.heap.size w w'
theorem CopS.on {w':World} {x:SPc} (h:CopS w base x) (hb:Below w.heap.size w w'):CopS w' base x:=by
 rcases h with h|⟨g,h1,h2,h3,h4⟩
 ·exact .inl h
 ·exact .inr ⟨g,h1,h2,cK h3 hb,fun y hy=>cK (h4 y hy) hb⟩
theorem CopS.setCell {x:SPc} (h:CopS w base x) {p:Addr} (hp:p.block<base) (u:Value):CopS (w.setCell p u) base x:=by
 rcases h with h|⟨g,h1,h2,h3,h4⟩
 ·exact .inl h
 ·exact .inr ⟨g,h1,h2,aJ h3 hp u,fun y hy=>aJ (h4 y hy) (by omega) u⟩
theorem SPcs.setLow {x:SPc} (h:SPcs w x) (hc:CopS w base x) {p:Addr} (hp:p.block<base) (u:Value):SPcs (w.setCell p u) x:=by
 have hsz:(w.setCell p u).heap.size=w.heap.size:=World.size_setCell _ _ _
 rcases hc with hc|⟨g,h1,h2,h3,h4⟩
 ·exact ⟨fun k hk=>absurd hk (by rw [hc];simp),fun y hy=>absurd hy (by rw [hc];simp),h.nil,h.le,h.cap⟩
 ·refine ⟨fun k hk=>?_,fun y hy=>OwnE.in (aJ (h4 y hy) (by omega) u),h.nil,h.le,h.cap⟩
  obtain ⟨ad,e,hb,q⟩:=h.row k hk
  refine ⟨ad,e,by rw [hsz];exact hb,(World.cell?_setCell_other _ _ _ _ (fun e2=>?_)).trans q⟩
  rw [h1] at e
  cases e
  have:=congrArg Addr.block e2
  rw [bD] at this
  have:p.block=g:=this
  omega
theorem uQ {size n:Nat} {e:TypeId} {v:Value} {xs:List Value} (h:w.ownsRow base e size v n xs):∀ k,v.ownBlock=some k→k<w.heap.size:=fun k hk=>(h.lt k hk).2
theorem CopS.hi {x:SPc} (h:CopS w base x) (hs:SPcs w x):(x.l=[]∨∀ k,(Value.slice x.a x.l.length x.c).ownBlock=some k→k<w.heap.size)∧∀ y∈x.l,∀ k,(Value.slice y.a y.l.length y.c).ownBlock=some k→k<w.heap.size:=by
 rcases h with h|⟨g,h1,h2,h3,h4⟩
 ·exact ⟨.inl h,fun y hy=>absurd hy (by rw [h];simp)⟩
 ·exact ⟨.inr (uQ h3),fun y hy=>uQ (h4 y hy)⟩
set_option maxHeartbeats 3200000 in
theorem uV (s:Sta) (w:World) (hin:StaIn w s) (hm:s.m.l.length≤1000) (hu:s.u.l.length≤1000) (hr:s.r.l.length≤1000) (hg:s.g.l.length≤1000) (hz:∀ x∈s.u.l++s.r.l,x.l.length≤1000000) :
 Calls prog 56 #[s.v] w fun e w'=>∃ s' b1 b2 b3,e=.returned s'.v∧CopI w s s' b1 b2 b3 w':=by
 have cM:=fun W (hW:Below w.heap.size w W)=>yK s.m.a s.m.l s.m.c W (hin.later hW).m (by omega)
 have cU:=fun W (hW:Below w.heap.size w W)=>jL s.u.a s.u.l s.u.c W (hin.later hW).u hu (fun x hx=>hz x (by simp [hx]))
 have cR:=fun W (hW:Below w.heap.size w W)=>jL s.r.a s.r.l s.r.c W (hin.later hW).r hr (fun x hx=>hz x (by simp [hx]))
 have cG:=fun W (hW:Below w.heap.size w W)=>oO s.g.a s.g.l s.g.c W (hin.later hW).g (by omega)
 have B0:Blk ((w.alloc (.cells #[.string s.t,.slice s.m.a s.m.l.length s.m.c,.slice s.u.a s.u.l.length s.u.c,.slice s.r.a s.r.l.length s.r.c,.bool s.o,.slice s.g.a s.g.l.length s.g.c] 26)).alloc (.cells #[.string ⟨#[]⟩,.slice none 0 0,.slice none 0 0,.slice none 0 0,.bool false,.slice none 0 0] 26)) w.heap.size #[.string s.t,.slice s.m.a s.m.l.length s.m.c,.slice s.u.a s.u.l.length s.u.c,.slice s.r.a s.r.l.length s.r.c,.bool s.o,.slice s.g.a s.g.l.length s.g.c] 26:=(Blk.new _ _ _).alloc _
 have B1:Blk ((w.alloc (.cells #[.string s.t,.slice s.m.a s.m.l.length s.m.c,.slice s.u.a s.u.l.length s.u.c,.slice s.r.a s.r.l.length s.r.c,.bool s.o,.slice s.g.a s.g.l.length s.g.c] 26)).alloc (.cells #[.string ⟨#[]⟩,.slice none 0 0,.slice none 0 0,.slice none 0 0,.bool false,.slice none 0 0] 26)) (w.heap.size+1) #[.string ⟨#[]⟩,.slice none 0 0,.slice none 0 0,.slice none 0 0,.bool false,.slice none 0 0] 26:=by
  have:=Blk.new (w.alloc (.cells #[.string s.t,.slice s.m.a s.m.l.length s.m.c,.slice s.u.a s.u.l.length s.u.c,.slice s.r.a s.r.l.length s.r.c,.bool s.o,.slice s.g.a s.g.l.length s.g.c] 26)) #[.string ⟨#[]⟩,.slice none 0 0,.slice none 0 0,.slice none 0 0,.bool false,.slice none 0 0] 26
  rwa [World.size_alloc] at this
 have ac:=below2 w (.cells #[.string s.t,.slice s.m.a s.m.l.length s.m.c,.slice s.u.a s.u.l.length s.u.c,.slice s.r.a s.r.l.length s.r.c,.bool s.o,.slice s.g.a s.g.l.length s.g.c] 26) (.cells #[.string ⟨#[]⟩,.slice none 0 0,.slice none 0 0,.slice none 0 0,.bool false,.slice none 0 0] 26)
 obtain ⟨wX,hwX⟩:∃ wX,(w.alloc (.cells #[.string s.t,.slice s.m.a s.m.l.length s.m.c,.slice s.u.a s.u.l.length s.u.c,.slice s.r.a s.r.l.length s.r.c,.bool s.o,.slice s.g.a s.g.l.length s.g.c] 26)).alloc (.cells #[.string ⟨#[]⟩,.slice none 0 0,.slice none 0 0,.slice none 0 0,.bool false,.slice none 0 0] 26)=wX:=⟨_,rfl⟩
 rw [hwX] at B0 B1 ac
 have x1:wX.cell? ⟨w.heap.size,1,none⟩=some (.slice s.m.a s.m.l.length s.m.c):=B0.cell 1 _ rfl
 have aa:=hid ac;have K0:=hid B0;have R0:=hid B1;have CM:=hid cM;have CU:=hid cU;have CR:=hid cR;have CG:=hid cG
 clear ac B0 B1 cM cU cR cG hin hz
 go_enter func56,ntmps56
 go_wp2_with fail
 refine (CM.out _ aa.out).mono ?_;rintro e w1 ⟨ma,mc,rfl,hom,hb⟩
 have hlt:w.heap.size<wX.heap.size:=K0.out.lt
 have hbs:Below w.heap.size w w1:=aa.out.trans (hb.mono aa.out.size)
 have kb:=K0.out.onto hb
 have rb:=R0.out.onto hb
 have y1:w1.cell? ⟨w.heap.size,1,none⟩=some (.slice s.m.a s.m.l.length s.m.c):=kb.cell 1 _ rfl
 have fz:=kb.free 1
 have kv:Blk (w1.setCell ⟨w.heap.size,1,none⟩ (.slice ma s.m.l.length mc)) w.heap.size #[.string s.t,.slice ma s.m.l.length mc,.slice s.u.a s.u.l.length s.u.c,.slice s.r.a s.r.l.length s.r.c,.bool s.o,.slice s.g.a s.g.l.length s.g.c] 26:=kb.set 1 _
 have rv:Blk (w1.setCell ⟨w.heap.size,1,none⟩ (.slice ma s.m.l.length mc)) (w.heap.size+1) #[.string ⟨#[]⟩,.slice none 0 0,.slice none 0 0,.slice none 0 0,.bool false,.slice none 0 0] 26:=rb.other _ (by show w.heap.size≠w.heap.size+1;omega) _
 have bv:Below w.heap.size w (w1.setCell ⟨w.heap.size,1,none⟩ (.slice ma s.m.l.length mc)):=hbs.setCell (p:=⟨w.heap.size,1,none⟩) (Nat.le_refl _) _
 have row:OwnK (w1.setCell ⟨w.heap.size,1,none⟩ (.slice ma s.m.l.length mc)) wX.heap.size ⟨ma,s.m.l,mc⟩:=aJ hom (p:=⟨w.heap.size,1,none⟩) hlt _
 have sz:(w1.setCell ⟨w.heap.size,1,none⟩ (.slice ma s.m.l.length mc)).heap.size=w1.heap.size:=World.size_setCell _ _ _
 obtain ⟨v1,hv⟩:∃ V,w1.setCell ⟨w.heap.size,1,none⟩ (.slice ma s.m.l.length mc)=V:=⟨_,rfl⟩
 rw [hv] at kv rv bv row sz
 have av:=hid hv
 have ad:=hid bv;have K1:=hid kv;have R1:=hid rv;have ae:=hid hlt;have ak:=hid (show wX.heap.size≤v1.heap.size by rw [sz];exact hb.size)
 have OM:=hid row
 have al:=hid (uQ row)
 have z2:v1.cell? ⟨w.heap.size,2,none⟩=some (.slice s.u.a s.u.l.length s.u.c):=kv.cell 2 _ rfl
 clear hlt hbs kb rb kv rv bv row sz hb hom x1
 go_wp2_with fail
 refine (CU.out _ ad.out).mono ?_;rintro e w2 ⟨ua,uc,ul,rfl,hul,hus,huc,hb⟩
 have hlt:w.heap.size<v1.heap.size:=K1.out.lt
 have hbs:Below w.heap.size w w2:=ad.out.trans (hb.mono ad.out.size)
 have kb:=K1.out.onto hb
 have rb:=R1.out.onto hb
 have y2:w2.cell? ⟨w.heap.size,2,none⟩=some (.slice s.u.a s.u.l.length s.u.c):=kb.cell 2 _ rfl
 have fz:=kb.free 2
 have kv:Blk (w2.setCell ⟨w.heap.size,2,none⟩ (.slice ua ul.length uc)) w.heap.size #[.string s.t,.slice ma s.m.l.length mc,.slice ua ul.length uc,.slice s.r.a s.r.l.length s.r.c,.bool s.o,.slice s.g.a s.g.l.length s.g.c] 26:=kb.set 2 _
 have rv:Blk (w2.setCell ⟨w.heap.size,2,none⟩ (.slice ua ul.length uc)) (w.heap.size+1) #[.string ⟨#[]⟩,.slice none 0 0,.slice none 0 0,.slice none 0 0,.bool false,.slice none 0 0] 26:=rb.other _ (by show w.heap.size≠w.heap.size+1;omega) _
 have bv:Below w.heap.size w (w2.setCell ⟨w.heap.size,2,none⟩ (.slice ua ul.length uc)):=hbs.setCell (p:=⟨w.heap.size,2,none⟩) (Nat.le_refl _) _
 have row:CopS (w2.setCell ⟨w.heap.size,2,none⟩ (.slice ua ul.length uc)) v1.heap.size ⟨ua,ul,uc⟩:=huc.setCell (p:=⟨w.heap.size,2,none⟩) hlt _
 have rows:SPcs (w2.setCell ⟨w.heap.size,2,none⟩ (.slice ua ul.length uc)) ⟨ua,ul,uc⟩:=hus.setLow huc (p:=⟨w.heap.size,2,none⟩) hlt _
 have sz:(w2.setCell ⟨w.heap.size,2,none⟩ (.slice ua ul.length uc)).heap.size=w2.heap.size:=World.size_setCell _ _ _
 have om:=aJ (cK OM.out hb) (p:=⟨w.heap.size,2,none⟩) ae.out (.slice ua ul.length uc)
 obtain ⟨v2,hv⟩:∃ V,w2.setCell ⟨w.heap.size,2,none⟩ (.slice ua ul.length uc)=V:=⟨_,rfl⟩
 rw [hv] at kv rv bv row sz rows om
 have aw:=hid hv
 have af:=hid bv;have K2:=hid kv;have R2:=hid rv;have ab:=hid hlt;have am:=hid (show v1.heap.size≤v2.heap.size by rw [sz];exact hb.size)
 have OU:=hid row;have OUS:=hid rows;have OM:=hid om;have an:=hid hul
 have ah:=hid (CopS.hi row rows)
 have z3:v2.cell? ⟨w.heap.size,3,none⟩=some (.slice s.r.a s.r.l.length s.r.c):=kv.cell 3 _ rfl
 clear hlt hbs kb rb kv rv bv row sz hb rows om hul hus huc z2
 go_wp2_with fail
 refine (CR.out _ af.out).mono ?_;rintro e w3 ⟨ra,rc,rl,rfl,hrl,hrs,hrc,hb⟩
 have hlt:w.heap.size<v2.heap.size:=K2.out.lt
 have hbs:Below w.heap.size w w3:=af.out.trans (hb.mono af.out.size)
 have kb:=K2.out.onto hb
 have rb:=R2.out.onto hb
 have y3:w3.cell? ⟨w.heap.size,3,none⟩=some (.slice s.r.a s.r.l.length s.r.c):=kb.cell 3 _ rfl
 have fz:=kb.free 3
 have kv:Blk (w3.setCell ⟨w.heap.size,3,none⟩ (.slice ra rl.length rc)) w.heap.size #[.string s.t,.slice ma s.m.l.length mc,.slice ua ul.length uc,.slice ra rl.length rc,.bool s.o,.slice s.g.a s.g.l.length s.g.c] 26:=kb.set 3 _
 have rv:Blk (w3.setCell ⟨w.heap.size,3,none⟩ (.slice ra rl.length rc)) (w.heap.size+1) #[.string ⟨#[]⟩,.slice none 0 0,.slice none 0 0,.slice none 0 0,.bool false,.slice none 0 0] 26:=rb.other _ (by show w.heap.size≠w.heap.size+1;omega) _
 have bv:Below w.heap.size w (w3.setCell ⟨w.heap.size,3,none⟩ (.slice ra rl.length rc)):=hbs.setCell (p:=⟨w.heap.size,3,none⟩) (Nat.le_refl _) _
 have row:CopS (w3.setCell ⟨w.heap.size,3,none⟩ (.slice ra rl.length rc)) v2.heap.size ⟨ra,rl,rc⟩:=hrc.setCell (p:=⟨w.heap.size,3,none⟩) hlt _
 have rows:SPcs (w3.setCell ⟨w.heap.size,3,none⟩ (.slice ra rl.length rc)) ⟨ra,rl,rc⟩:=hrs.setLow hrc (p:=⟨w.heap.size,3,none⟩) hlt _
 have sz:(w3.setCell ⟨w.heap.size,3,none⟩ (.slice ra rl.length rc)).heap.size=w3.heap.size:=World.size_setCell _ _ _
 have om:=aJ (cK OM.out hb) (p:=⟨w.heap.size,3,none⟩) ae.out (.slice ra rl.length rc)
 have ou:=(OU.out.on hb).setCell (p:=⟨w.heap.size,3,none⟩) ab.out (.slice ra rl.length rc)
 have ous:=(OUS.out.later hb).setLow (OU.out.on hb) (p:=⟨w.heap.size,3,none⟩) ab.out (.slice ra rl.length rc)
 obtain ⟨v3,hv⟩:∃ V,w3.setCell ⟨w.heap.size,3,none⟩ (.slice ra rl.length rc)=V:=⟨_,rfl⟩
 rw [hv] at kv rv bv row sz rows om ou ous
 have ax:=hid hv
 have ag:=hid bv;have K3:=hid kv;have R3:=hid rv;have ai:=hid hlt;have ao:=hid (show v2.heap.size≤v3.heap.size by rw [sz];exact hb.size)
 have OR:=hid row;have ORS:=hid rows;have OM:=hid om;have OU:=hid ou;have OUS:=hid ous;have aq:=hid hrl
 have aj:=hid (CopS.hi row rows)
 have z5:v3.cell? ⟨w.heap.size,5,none⟩=some (.slice s.g.a s.g.l.length s.g.c):=kv.cell 5 _ rfl
 clear hlt hbs kb rb kv rv bv row sz hb rows om ou ous hrl hrs hrc z3
 go_wp2_with fail
 refine (CG.out _ ag.out).mono ?_;rintro e w4 ⟨ga,gc,rfl,hog,hb⟩
 have hlt:w.heap.size<v3.heap.size:=K3.out.lt
 have hbs:Below w.heap.size w w4:=ag.out.trans (hb.mono ag.out.size)
 have kb:=K3.out.onto hb
 have rb:=R3.out.onto hb
 have y5:w4.cell? ⟨w.heap.size,5,none⟩=some (.slice s.g.a s.g.l.length s.g.c):=kb.cell 5 _ rfl
 have fz:=kb.free 5
 have kv:Blk (w4.setCell ⟨w.heap.size,5,none⟩ (.slice ga s.g.l.length gc)) w.heap.size #[.string s.t,.slice ma s.m.l.length mc,.slice ua ul.length uc,.slice ra rl.length rc,.bool s.o,.slice ga s.g.l.length gc] 26:=kb.set 5 _
 have rv:Blk (w4.setCell ⟨w.heap.size,5,none⟩ (.slice ga s.g.l.length gc)) (w.heap.size+1) #[.string ⟨#[]⟩,.slice none 0 0,.slice none 0 0,.slice none 0 0,.bool false,.slice none 0 0] 26:=rb.other _ (by show w.heap.size≠w.heap.size+1;omega) _
 have bv:Below w.heap.size w (w4.setCell ⟨w.heap.size,5,none⟩ (.slice ga s.g.l.length gc)):=hbs.setCell (p:=⟨w.heap.size,5,none⟩) (Nat.le_refl _) _
 have row:OwnE (w4.setCell ⟨w.heap.size,5,none⟩ (.slice ga s.g.l.length gc)) v3.heap.size ⟨ga,s.g.l,gc⟩:=aJ hog (p:=⟨w.heap.size,5,none⟩) hlt _
 have sz:(w4.setCell ⟨w.heap.size,5,none⟩ (.slice ga s.g.l.length gc)).heap.size=w4.heap.size:=World.size_setCell _ _ _
 have om:=aJ (cK OM.out hb) (p:=⟨w.heap.size,5,none⟩) ae.out (.slice ga s.g.l.length gc)
 have ou:=(OU.out.on hb).setCell (p:=⟨w.heap.size,5,none⟩) ab.out (.slice ga s.g.l.length gc)
 have ous:=(OUS.out.later hb).setLow (OU.out.on hb) (p:=⟨w.heap.size,5,none⟩) ab.out (.slice ga s.g.l.length gc)
 have or:=(OR.out.on hb).setCell (p:=⟨w.heap.size,5,none⟩) ai.out (.slice ga s.g.l.length gc)
 have ors:=(ORS.out.later hb).setLow (OR.out.on hb) (p:=⟨w.heap.size,5,none⟩) ai.out (.slice ga s.g.l.length gc)
 obtain ⟨v4,hv⟩:∃ V,w4.setCell ⟨w.heap.size,5,none⟩ (.slice ga s.g.l.length gc)=V:=⟨_,rfl⟩
 rw [hv] at kv rv bv row sz om ou ous or ors
 have ay:=hid hv
 have ar:=hid bv;have K4:=hid kv;have R4:=hid rv;have az:=hid hlt;have au:=hid (show v3.heap.size≤v4.heap.size by rw [sz];exact hb.size)
 have OG:=hid row;have OM:=hid om;have OU:=hid ou;have OUS:=hid ous;have OR:=hid or;have ORS:=hid ors
 have z0:v4.cell? ⟨w.heap.size,0,none⟩=some (.string s.t):=kv.cell 0 _ rfl;have z1:v4.cell? ⟨w.heap.size,1,none⟩=some (.slice ma s.m.l.length mc):=kv.cell 1 _ rfl;have z2:v4.cell? ⟨w.heap.size,2,none⟩=some (.slice ua ul.length uc):=kv.cell 2 _ rfl;have z3:v4.cell? ⟨w.heap.size,3,none⟩=some (.slice ra rl.length rc):=kv.cell 3 _ rfl;have z4:v4.cell? ⟨w.heap.size,4,none⟩=some (.bool s.o):=kv.cell 4 _ rfl;have z5:v4.cell? ⟨w.heap.size,5,none⟩=some (.slice ga s.g.l.length gc):=kv.cell 5 _ rfl
 have g0:=rv.free 0;have g1:=rv.free 1;have g2:=rv.free 2;have g3:=rv.free 3;have g4:=rv.free 4;have g5:=rv.free 5
 have u0:v4.cell? ⟨w.heap.size+1,0,none⟩=some (.string ⟨#[]⟩):=rv.cell 0 _ rfl;have u1:v4.cell? ⟨w.heap.size+1,1,none⟩=some (.slice none 0 0):=rv.cell 1 _ rfl;have u2:v4.cell? ⟨w.heap.size+1,2,none⟩=some (.slice none 0 0):=rv.cell 2 _ rfl;have u3:v4.cell? ⟨w.heap.size+1,3,none⟩=some (.slice none 0 0):=rv.cell 3 _ rfl;have u4:v4.cell? ⟨w.heap.size+1,4,none⟩=some (.bool false):=rv.cell 4 _ rfl;have u5:v4.cell? ⟨w.heap.size+1,5,none⟩=some (.slice none 0 0):=rv.cell 5 _ rfl
 clear hlt hbs kb rb kv rv bv row sz hb om ou ous or ors hog
 go_wp2_with fail
 clear g0 g1 g2 g3 g4 g5 u0 u1 u2 u3 u4 u5 z0 z1 z2 z3 z4 z5
 have lw:w.heap.size+1<wX.heap.size:=R0.out.lt
 have lz1:=ak.out;have lz2:=am.out;have lz3:=ao.out;have lz4:=au.out
 have a0:=R4.out
 have m0:=OM.out;have c0:=OU.out;have s0:=OUS.out;have d0:=OR.out;have t0:=ORS.out;have e0:=OG.out;have b0:=ar.out;have n0:v4.heap.size=v4.heap.size:=rfl
 have a1:Blk (v4.setCell ⟨w.heap.size+1,0,none⟩ (.string s.t)) (w.heap.size+1) #[.string s.t,.slice none 0 0,.slice none 0 0,.slice none 0 0,.bool false,.slice none 0 0] 26:=a0.set 0 _
 have m1:OwnK (v4.setCell ⟨w.heap.size+1,0,none⟩ (.string s.t)) wX.heap.size ⟨ma,s.m.l,mc⟩:=aJ m0 (p:=⟨w.heap.size+1,0,none⟩) lw (.string s.t)
 have s1:=s0.setLow c0 (p:=⟨w.heap.size+1,0,none⟩) (by show w.heap.size+1<v1.heap.size;omega) (.string s.t)
 have c1:=c0.setCell (p:=⟨w.heap.size+1,0,none⟩) (by show w.heap.size+1<v1.heap.size;omega) (.string s.t)
 have t1:=t0.setLow d0 (p:=⟨w.heap.size+1,0,none⟩) (by show w.heap.size+1<v2.heap.size;omega) (.string s.t)
 have d1:=d0.setCell (p:=⟨w.heap.size+1,0,none⟩) (by show w.heap.size+1<v2.heap.size;omega) (.string s.t)
 have e1:OwnE (v4.setCell ⟨w.heap.size+1,0,none⟩ (.string s.t)) v3.heap.size ⟨ga,s.g.l,gc⟩:=aJ e0 (p:=⟨w.heap.size+1,0,none⟩) (by show w.heap.size+1<v3.heap.size;omega) (.string s.t)
 have b1:=b0.setCell (p:=⟨w.heap.size+1,0,none⟩) (by show w.heap.size≤w.heap.size+1;omega) (.string s.t)
 have n1:(v4.setCell ⟨w.heap.size+1,0,none⟩ (.string s.t)).heap.size=v4.heap.size:=(World.size_setCell _ _ _).trans n0
 have a2:Blk ((v4.setCell ⟨w.heap.size+1,0,none⟩ (.string s.t)).setCell ⟨w.heap.size+1,1,none⟩ (.slice ma s.m.l.length mc)) (w.heap.size+1) #[.string s.t,.slice ma s.m.l.length mc,.slice none 0 0,.slice none 0 0,.bool false,.slice none 0 0] 26:=a1.set 1 _
 have m2:OwnK ((v4.setCell ⟨w.heap.size+1,0,none⟩ (.string s.t)).setCell ⟨w.heap.size+1,1,none⟩ (.slice ma s.m.l.length mc)) wX.heap.size ⟨ma,s.m.l,mc⟩:=aJ m1 (p:=⟨w.heap.size+1,1,none⟩) lw (.slice ma s.m.l.length mc)
 have s2:=s1.setLow c1 (p:=⟨w.heap.size+1,1,none⟩) (by show w.heap.size+1<v1.heap.size;omega) (.slice ma s.m.l.length mc)
 have c2:=c1.setCell (p:=⟨w.heap.size+1,1,none⟩) (by show w.heap.size+1<v1.heap.size;omega) (.slice ma s.m.l.length mc)
 have t2:=t1.setLow d1 (p:=⟨w.heap.size+1,1,none⟩) (by show w.heap.size+1<v2.heap.size;omega) (.slice ma s.m.l.length mc)
 have d2:=d1.setCell (p:=⟨w.heap.size+1,1,none⟩) (by show w.heap.size+1<v2.heap.size;omega) (.slice ma s.m.l.length mc)
 have e2:OwnE ((v4.setCell ⟨w.heap.size+1,0,none⟩ (.string s.t)).setCell ⟨w.heap.size+1,1,none⟩ (.slice ma s.m.l.length mc)) v3.heap.size ⟨ga,s.g.l,gc⟩:=aJ e1 (p:=⟨w.heap.size+1,1,none⟩) (by show w.heap.size+1<v3.heap.size;omega) (.slice ma s.m.l.length mc)
 have b2:=b1.setCell (p:=⟨w.heap.size+1,1,none⟩) (by show w.heap.size≤w.heap.size+1;omega) (.slice ma s.m.l.length mc)
 have n2:((v4.setCell ⟨w.heap.size+1,0,none⟩ (.string s.t)).setCell ⟨w.heap.size+1,1,none⟩ (.slice ma s.m.l.length mc)).heap.size=v4.heap.size:=(World.size_setCell _ _ _).trans n1
 have a3:Blk (((v4.setCell ⟨w.heap.size+1,0,none⟩ (.string s.t)).setCell ⟨w.heap.size+1,1,none⟩ (.slice ma s.m.l.length mc)).setCell ⟨w.heap.size+1,2,none⟩ (.slice ua ul.length uc)) (w.heap.size+1) #[.string s.t,.slice ma s.m.l.length mc,.slice ua ul.length uc,.slice none 0 0,.bool false,.slice none 0 0] 26:=a2.set 2 _
 have m3:OwnK (((v4.setCell ⟨w.heap.size+1,0,none⟩ (.string s.t)).setCell ⟨w.heap.size+1,1,none⟩ (.slice ma s.m.l.length mc)).setCell ⟨w.heap.size+1,2,none⟩ (.slice ua ul.length uc)) wX.heap.size ⟨ma,s.m.l,mc⟩:=aJ m2 (p:=⟨w.heap.size+1,2,none⟩) lw (.slice ua ul.length uc)
 have s3:=s2.setLow c2 (p:=⟨w.heap.size+1,2,none⟩) (by show w.heap.size+1<v1.heap.size;omega) (.slice ua ul.length uc)
 have c3:=c2.setCell (p:=⟨w.heap.size+1,2,none⟩) (by show w.heap.size+1<v1.heap.size;omega) (.slice ua ul.length uc)
 have t3:=t2.setLow d2 (p:=⟨w.heap.size+1,2,none⟩) (by show w.heap.size+1<v2.heap.size;omega) (.slice ua ul.length uc)
 have d3:=d2.setCell (p:=⟨w.heap.size+1,2,none⟩) (by show w.heap.size+1<v2.heap.size;omega) (.slice ua ul.length uc)
 have e3:OwnE (((v4.setCell ⟨w.heap.size+1,0,none⟩ (.string s.t)).setCell ⟨w.heap.size+1,1,none⟩ (.slice ma s.m.l.length mc)).setCell ⟨w.heap.size+1,2,none⟩ (.slice ua ul.length uc)) v3.heap.size ⟨ga,s.g.l,gc⟩:=aJ e2 (p:=⟨w.heap.size+1,2,none⟩) (by show w.heap.size+1<v3.heap.size;omega) (.slice ua ul.length uc)
 have b3:=b2.setCell (p:=⟨w.heap.size+1,2,none⟩) (by show w.heap.size≤w.heap.size+1;omega) (.slice ua ul.length uc)
 have n3:(((v4.setCell ⟨w.heap.size+1,0,none⟩ (.string s.t)).setCell ⟨w.heap.size+1,1,none⟩ (.slice ma s.m.l.length mc)).setCell ⟨w.heap.size+1,2,none⟩ (.slice ua ul.length uc)).heap.size=v4.heap.size:=(World.size_setCell _ _ _).trans n2
 have a4:Blk ((((v4.setCell ⟨w.heap.size+1,0,none⟩ (.string s.t)).setCell ⟨w.heap.size+1,1,none⟩ (.slice ma s.m.l.length mc)).setCell ⟨w.heap.size+1,2,none⟩ (.slice ua ul.length uc)).setCell ⟨w.heap.size+1,3,none⟩ (.slice ra rl.length rc)) (w.heap.size+1) #[.string s.t,.slice ma s.m.l.length mc,.slice ua ul.length uc,.slice ra rl.length rc,.bool false,.slice none 0 0] 26:=a3.set 3 _
 have m4:OwnK ((((v4.setCell ⟨w.heap.size+1,0,none⟩ (.string s.t)).setCell ⟨w.heap.size+1,1,none⟩ (.slice ma s.m.l.length mc)).setCell ⟨w.heap.size+1,2,none⟩ (.slice ua ul.length uc)).setCell ⟨w.heap.size+1,3,none⟩ (.slice ra rl.length rc)) wX.heap.size ⟨ma,s.m.l,mc⟩:=aJ m3 (p:=⟨w.heap.size+1,3,none⟩) lw (.slice ra rl.length rc)
 have s4:=s3.setLow c3 (p:=⟨w.heap.size+1,3,none⟩) (by show w.heap.size+1<v1.heap.size;omega) (.slice ra rl.length rc)
 have c4:=c3.setCell (p:=⟨w.heap.size+1,3,none⟩) (by show w.heap.size+1<v1.heap.size;omega) (.slice ra rl.length rc)
 have t4:=t3.setLow d3 (p:=⟨w.heap.size+1,3,none⟩) (by show w.heap.size+1<v2.heap.size;omega) (.slice ra rl.length rc)
 have d4:=d3.setCell (p:=⟨w.heap.size+1,3,none⟩) (by show w.heap.size+1<v2.heap.size;omega) (.slice ra rl.length rc)
 have e4:OwnE ((((v4.setCell ⟨w.heap.size+1,0,none⟩ (.string s.t)).setCell ⟨w.heap.size+1,1,none⟩ (.slice ma s.m.l.length mc)).setCell ⟨w.heap.size+1,2,none⟩ (.slice ua ul.length uc)).setCell ⟨w.heap.size+1,3,none⟩ (.slice ra rl.length rc)) v3.heap.size ⟨ga,s.g.l,gc⟩:=aJ e3 (p:=⟨w.heap.size+1,3,none⟩) (by show w.heap.size+1<v3.heap.size;omega) (.slice ra rl.length rc)
 have b4:=b3.setCell (p:=⟨w.heap.size+1,3,none⟩) (by show w.heap.size≤w.heap.size+1;omega) (.slice ra rl.length rc)
 have n4:((((v4.setCell ⟨w.heap.size+1,0,none⟩ (.string s.t)).setCell ⟨w.heap.size+1,1,none⟩ (.slice ma s.m.l.length mc)).setCell ⟨w.heap.size+1,2,none⟩ (.slice ua ul.length uc)).setCell ⟨w.heap.size+1,3,none⟩ (.slice ra rl.length rc)).heap.size=v4.heap.size:=(World.size_setCell _ _ _).trans n3
 have a5:Blk (((((v4.setCell ⟨w.heap.size+1,0,none⟩ (.string s.t)).setCell ⟨w.heap.size+1,1,none⟩ (.slice ma s.m.l.length mc)).setCell ⟨w.heap.size+1,2,none⟩ (.slice ua ul.length uc)).setCell ⟨w.heap.size+1,3,none⟩ (.slice ra rl.length rc)).setCell ⟨w.heap.size+1,4,none⟩ (.bool s.o)) (w.heap.size+1) #[.string s.t,.slice ma s.m.l.length mc,.slice ua ul.length uc,.slice ra rl.length rc,.bool s.o,.slice none 0 0] 26:=a4.set 4 _
 have m5:OwnK (((((v4.setCell ⟨w.heap.size+1,0,none⟩ (.string s.t)).setCell ⟨w.heap.size+1,1,none⟩ (.slice ma s.m.l.length mc)).setCell ⟨w.heap.size+1,2,none⟩ (.slice ua ul.length uc)).setCell ⟨w.heap.size+1,3,none⟩ (.slice ra rl.length rc)).setCell ⟨w.heap.size+1,4,none⟩ (.bool s.o)) wX.heap.size ⟨ma,s.m.l,mc⟩:=aJ m4 (p:=⟨w.heap.size+1,4,none⟩) lw (.bool s.o)
 have s5:=s4.setLow c4 (p:=⟨w.heap.size+1,4,none⟩) (by show w.heap.size+1<v1.heap.size;omega) (.bool s.o)
 have c5:=c4.setCell (p:=⟨w.heap.size+1,4,none⟩) (by show w.heap.size+1<v1.heap.size;omega) (.bool s.o)
 have t5:=t4.setLow d4 (p:=⟨w.heap.size+1,4,none⟩) (by show w.heap.size+1<v2.heap.size;omega) (.bool s.o)
 have d5:=d4.setCell (p:=⟨w.heap.size+1,4,none⟩) (by show w.heap.size+1<v2.heap.size;omega) (.bool s.o)
 have e5:OwnE (((((v4.setCell ⟨w.heap.size+1,0,none⟩ (.string s.t)).setCell ⟨w.heap.size+1,1,none⟩ (.slice ma s.m.l.length mc)).setCell ⟨w.heap.size+1,2,none⟩ (.slice ua ul.length uc)).setCell ⟨w.heap.size+1,3,none⟩ (.slice ra rl.length rc)).setCell ⟨w.heap.size+1,4,none⟩ (.bool s.o)) v3.heap.size ⟨ga,s.g.l,gc⟩:=aJ e4 (p:=⟨w.heap.size+1,4,none⟩) (by show w.heap.size+1<v3.heap.size;omega) (.bool s.o)
 have b5:=b4.setCell (p:=⟨w.heap.size+1,4,none⟩) (by show w.heap.size≤w.heap.size+1;omega) (.bool s.o)
 have n5:(((((v4.setCell ⟨w.heap.size+1,0,none⟩ (.string s.t)).setCell ⟨w.heap.size+1,1,none⟩ (.slice ma s.m.l.length mc)).setCell ⟨w.heap.size+1,2,none⟩ (.slice ua ul.length uc)).setCell ⟨w.heap.size+1,3,none⟩ (.slice ra rl.length rc)).setCell ⟨w.heap.size+1,4,none⟩ (.bool s.o)).heap.size=v4.heap.size:=(World.size_setCell _ _ _).trans n4
 have a6:Blk ((((((v4.setCell ⟨w.heap.size+1,0,none⟩ (.string s.t)).setCell ⟨w.heap.size+1,1,none⟩ (.slice ma s.m.l.length mc)).setCell ⟨w.heap.size+1,2,none⟩ (.slice ua ul.length uc)).setCell ⟨w.heap.size+1,3,none⟩ (.slice ra rl.length rc)).setCell ⟨w.heap.size+1,4,none⟩ (.bool s.o)).setCell ⟨w.heap.size+1,5,none⟩ (.slice ga s.g.l.length gc)) (w.heap.size+1) #[.string s.t,.slice ma s.m.l.length mc,.slice ua ul.length uc,.slice ra rl.length rc,.bool s.o,.slice ga s.g.l.length gc] 26:=a5.set 5 _
 have m6:OwnK ((((((v4.setCell ⟨w.heap.size+1,0,none⟩ (.string s.t)).setCell ⟨w.heap.size+1,1,none⟩ (.slice ma s.m.l.length mc)).setCell ⟨w.heap.size+1,2,none⟩ (.slice ua ul.length uc)).setCell ⟨w.heap.size+1,3,none⟩ (.slice ra rl.length rc)).setCell ⟨w.heap.size+1,4,none⟩ (.bool s.o)).setCell ⟨w.heap.size+1,5,none⟩ (.slice ga s.g.l.length gc)) wX.heap.size ⟨ma,s.m.l,mc⟩:=aJ m5 (p:=⟨w.heap.size+1,5,none⟩) lw (.slice ga s.g.l.length gc)
 have s6:=s5.setLow c5 (p:=⟨w.heap.size+1,5,none⟩) (by show w.heap.size+1<v1.heap.size;omega) (.slice ga s.g.l.length gc)
 have c6:=c5.setCell (p:=⟨w.heap.size+1,5,none⟩) (by show w.heap.size+1<v1.heap.size;omega) (.slice ga s.g.l.length gc)
 have t6:=t5.setLow d5 (p:=⟨w.heap.size+1,5,none⟩) (by show w.heap.size+1<v2.heap.size;omega) (.slice ga s.g.l.length gc)
 have d6:=d5.setCell (p:=⟨w.heap.size+1,5,none⟩) (by show w.heap.size+1<v2.heap.size;omega) (.slice ga s.g.l.length gc)
 have e6:OwnE ((((((v4.setCell ⟨w.heap.size+1,0,none⟩ (.string s.t)).setCell ⟨w.heap.size+1,1,none⟩ (.slice ma s.m.l.length mc)).setCell ⟨w.heap.size+1,2,none⟩ (.slice ua ul.length uc)).setCell ⟨w.heap.size+1,3,none⟩ (.slice ra rl.length rc)).setCell ⟨w.heap.size+1,4,none⟩ (.bool s.o)).setCell ⟨w.heap.size+1,5,none⟩ (.slice ga s.g.l.length gc)) v3.heap.size ⟨ga,s.g.l,gc⟩:=aJ e5 (p:=⟨w.heap.size+1,5,none⟩) (by show w.heap.size+1<v3.heap.size;omega) (.slice ga s.g.l.length gc)
 have b6:=b5.setCell (p:=⟨w.heap.size+1,5,none⟩) (by show w.heap.size≤w.heap.size+1;omega) (.slice ga s.g.l.length gc)
 have n6:((((((v4.setCell ⟨w.heap.size+1,0,none⟩ (.string s.t)).setCell ⟨w.heap.size+1,1,none⟩ (.slice ma s.m.l.length mc)).setCell ⟨w.heap.size+1,2,none⟩ (.slice ua ul.length uc)).setCell ⟨w.heap.size+1,3,none⟩ (.slice ra rl.length rc)).setCell ⟨w.heap.size+1,4,none⟩ (.bool s.o)).setCell ⟨w.heap.size+1,5,none⟩ (.slice ga s.g.l.length gc)).heap.size=v4.heap.size:=(World.size_setCell _ _ _).trans n5
 refine bodyPost_ret (results_cell_row (P:=prog) (fn:=Tryz.f56) (p:=2) (ty:=26) rfl _ _ (w.heap.size+1) 26 _ (0,0) _ rfl a6 underlying26 rfl (by kernel_rfl)) rfl ?_
 refine ⟨⟨s.t,⟨ma,s.m.l,mc⟩,⟨ua,ul,uc⟩,⟨ra,rl,rc⟩,s.o,⟨ga,s.g.l,gc⟩⟩,v1.heap.size,v2.heap.size,v3.heap.size,rfl,?_⟩
 exact ⟨by unfold Sta.d;simp only [an.out,aq.out],by have:=aa.out.size;omega,by omega,by omega,by rw [n6];omega,mP m6 aa.out.size,al.out,c6,ah.out.1,ah.out.2,s6,d6,aj.out.1,aj.out.2,t6,e6,b6⟩
end Go.Proofs.YtbagenpobcgjnaaGreat
