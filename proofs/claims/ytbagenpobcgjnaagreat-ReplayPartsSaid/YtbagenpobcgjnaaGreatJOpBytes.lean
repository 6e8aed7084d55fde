/-
  Joined: OpBytes, OpFill.
-/
import Derived.Test.YtbagenpobcgjnaaGreatJOpDev
import Derived.Test.YtbagenpobcgjnaaGreatJChunkCut
import Derived.Test.YtbagenpobcgjnaaGreatJOpRef
namespace Go.Proofs.YtbagenpobcgjnaaGreat
open Go.Proofs.Tryz
open Go.RowKit
set_option linter.unusedSimpArgs false
theorem OA (v:Value) (w:World):(Instr.typeAssert (.iface 143 v) 125 143 true).run prog w=.ok (.tuple #[v,.bool true]) w:=by kernel_rfl
theorem vF (v:Value) (w:World):(Instr.typeAssert (.iface 145 v) 125 143 true).run prog w=.ok (.tuple #[.pointer none,.bool false]) w:=by kernel_rfl
theorem PT (v:Value) (w:World):(Instr.typeAssert (.iface 145 v) 125 145 true).run prog w=.ok (.tuple #[v,.bool true]) w:=by kernel_rfl
theorem wH (v:Value) (w:World):(Instr.typeAssert (.iface 147 v) 125 143 true).run prog w=.ok (.tuple #[.pointer none,.bool false]) w:=by kernel_rfl
theorem xA (v:Value) (w:World):(Instr.typeAssert (.iface 147 v) 125 145 true).run prog w=.ok (.tuple #[.pointer none,.bool false]) w:=by kernel_rfl
theorem PQ (v:Value) (w:World):(Instr.typeAssert (.iface 147 v) 125 147 true).run prog w=.ok (.tuple #[v,.bool true]) w:=by kernel_rfl
theorem dM {w w1 w2:World} {b g:Nat} {cs fs:Array Value} (hx:Blk w1 b cs 50) (hB:Below w.heap.size w w1) (lo:w.heap.size≤b) (hg:Blk w2 g fs 125) (hgl:w1.heap.size≤g) (hb:Below w1.heap.size w1 w2):Rt w b g cs fs w2:=
 ⟨hx.onto hb,hg,hB.trans (hb.mono hB.size),Nat.lt_of_lt_of_le hx.lt hgl,lo⟩
set_option maxRecDepth 100000
open Lib (hid)
def FillN (b o:Nat) (x:Int) (ok:Bool) (w:World) (e:Ending) (w':World):Prop:=
 ∃ w1,e=.returned (.tuple #[.int .i64 4,.bool ok])∧Below w.heap.size w w1∧w'=w1.setCell ⟨b,o,none⟩ (.int .i64 x)
theorem cF (v:Int) (s:ByteArray) (hs:s.size≤maxLen) (b o:Nat) (w:World) (hlt:b<w.heap.size) (hc:w.cell? ⟨b,o,none⟩=some (.int .i64 v)) (hf:w.frozen? ⟨b,o,none⟩=false) :
 Calls prog 78 #[.iface 143 (.pointer (some ⟨b,o,none⟩)),.string s] w (FillN b o (getI s.data.toList 0 4).1 (getI s.data.toList 0 4).2 w):=by
 have hg:=LC s hs 0
 obtain ⟨⟨x,ok⟩,hx⟩:∃ x,getI s.data.toList 0 4=x:=⟨_,rfl⟩
 rw [hx] at hg ⊢
 have HG:=hid hg
 clear hg hx
 have h1:=OA
 have HL:=hid hlt;have HC:=hid hc;have HF:=hid hf
 clear hlt hc hf
 go_enter func78,ntmps78
 go_wp2_with fail
 refine (HG.out _).mono ?_;rintro e w1 ⟨rfl,aa⟩
 have c1:w1.cell? ⟨b,o,none⟩=some (.int .i64 v):=(aa.cell (p:=⟨b,o,none⟩) HL.out).trans HC.out
 have f1:w1.frozen? ⟨b,o,none⟩=false:=(aa.frozen (p:=⟨b,o,none⟩) HL.out).trans HF.out
 have HB:=hid aa
 clear aa
 go_wp2
 go_ret2
 exact ⟨w1,rfl,HB.out,rfl⟩
theorem KL (v:Value) (s:ByteArray) (b o:Nat) (w:World) (hc:w.cell? ⟨b,o,none⟩=some v) (hf:w.frozen? ⟨b,o,none⟩=false) :
 Calls prog 78 #[.iface 145 (.pointer (some ⟨b,o,none⟩)),.string s] w fun e w'=>e=.returned (.tuple #[.int .i64 s.size,.bool true])∧w'=w.setCell ⟨b,o,none⟩ (.string s):=by
 have h1:=vF
 have h2:=PT
 go_enter func78,ntmps78
 go_wp2
 go_ret2
 exact ⟨rfl,rfl⟩
theorem uW (v:Value) (s:ByteArray) (b o:Nat) (w:World) (hc:w.cell? ⟨b,o,none⟩=some v) (hf:w.frozen? ⟨b,o,none⟩=false) :
 Calls prog 78 #[.iface 147 (.pointer (some ⟨b,o,none⟩)),.string s] w fun e w'=>e=.returned (.tuple #[.int .i64 s.size,.bool true])∧w'=w.setCell ⟨b,o,none⟩ (.string s):=by
 have h1:=wH
 have h2:=xA
 have h3:=PQ
 go_enter func78,ntmps78
 go_wp2
 go_ret2
 exact ⟨rfl,rfl⟩
theorem zL {k:Int} (hk:k<1∨4<k) (a n:Int) {s:ByteArray} (h:s.size≠0):rightB k a n s.data.toList=false:=by
 rcases opKinds k with g|g|g|g|g|g
 ·omega
 ·omega
 ·omega
 ·omega
 ·rw [right5 g.1 g.2,aX,decide_eq_false h,Bool.and_false]
 ·exact eS g _ _ _
theorem cA {w w0 wr w5:World} {b g:Nat} {cs fs:Array Value} (hw:w0=w.alloc (.cells #[.int .i64 0,.int .i64 0,.int .i64 0,.string ⟨#[]⟩] 50)) (h:Rt w0 b g cs fs wr) (hb:Below wr.heap.size wr w5) :
 Blk w5 w.heap.size #[.int .i64 0,.int .i64 0,.int .i64 0,.string ⟨#[]⟩] 50∧Blk w5 b cs 50∧Below w.heap.size w w5:=by
 subst hw
 have hB:=h.B.trans (hb.mono h.B.size)
 exact ⟨(Blk.new w _ _).onto hB,h.x.onto hb,((Below.refl _ _).alloc (Nat.le_refl _) _).trans (hB.mono (by simp))⟩
theorem cL {a b:OpRd} (h:a=b):Ending.returned (rdV a)=.returned (rdV b):=by rw [h]
def Ft2 (two:Bool) (S0 S1 S2:ByteArray) (w:World) (b g:Nat) (fs c0 c1 c2:Array Value) (t i:Value) (wr:World):Prop:=
 (t=.string S0∧i=.int .i64 0∧Rt w b g c0 fs wr)∨(t=.string S1∧i=.int .i64 1∧Rt w b g c1 fs wr)∨(two=true∧t=.string S2∧i=.int .i64 2∧Rt w b g c2 fs wr)
set_option maxHeartbeats 1600000 in
theorem AP (w:World) :
 Calls prog 52 #[.string ⟨#[]⟩] w fun e w'=>e=.returned (rdV (OpRd.none 18))∧Below w.heap.size w w':=by
 go_enter func52,ntmps52
 go_wp2
 exact bodyPost_ret (v:=rdV (OpRd.none 18)) (by simp [results,results52,go_sem,rdV,OpRd.none]) rfl ⟨rfl,(Below.refl _ _).alloc (Nat.le_refl _) _⟩
set_option maxHeartbeats 1600000 in
theorem pZ (s T:ByteArray) (k:Nat) (hs:s.size≤4294967296) (h0:0<s.size) (hk:s[0].toNat=k) (hT:s.extract 1 s.size=T) (hk1:k<1∨4<k) (w:World) :
 Calls prog 52 #[.string s] w fun e w'=>e=.returned (rdV (rdEnd k 0 0 T))∧Below w.heap.size w w':=by
 obtain ⟨R,hR⟩:∃ R,rdEnd k 0 0 T=R:=⟨_,rfl⟩
 rw [hR]
 have ae:=hid hR
 clear hR
 have he:=aD s
 rw [decide_eq_false (by omega)] at he
 have an:k<256:=by rw [← hk];exact s[0].toNat_lt
 have hz:w.heap.size+1=(w.alloc (.cells #[.int .i64 0,.int .i64 0,.int .i64 0,.string ⟨#[]⟩] 50)).heap.size:=by simp
 have hX:=Blk.new (w.alloc (.cells #[.int .i64 0,.int .i64 0,.int .i64 0,.string ⟨#[]⟩] 50)) #[.int .i64 k,.int .i64 0,.int .i64 0,.string ⟨#[]⟩] 50
 rw [← hz] at hX
 have HH:=hid (tN k (by omega) _ _ _ _ _ hX)
 have HX:=hid hX
 have HB:=hid (((Below.refl w.heap.size w).alloc (Nat.le_refl _) (.cells #[.int .i64 0,.int .i64 0,.int .i64 0,.string ⟨#[]⟩] 50)).alloc (by simp) (.cells #[.int .i64 k,.int .i64 0,.int .i64 0,.string ⟨#[]⟩] 50))
 have ah:=hid ((Blk.new w #[.int .i64 0,.int .i64 0,.int .i64 0,.string ⟨#[]⟩] 50).alloc (.cells #[.int .i64 k,.int .i64 0,.int .i64 0,.string ⟨#[]⟩] 50))
 clear hX hz
 have ai:=aD T
 by_cases hz:T.size=0
 ·have al:=cS hz
  subst al
  have hr:=dA k 0 0 ⟨#[]⟩ (by unfold maxLen;decide)
  obtain ⟨r,af⟩:∃ r,rightB k 0 0 (⟨#[]⟩:ByteArray).data.toList=r:=⟨_,rfl⟩
  rw [af] at hr
  have aj:=hid af;have HR:=hid hr
  clear hr af hz ai
  go_enter func52,ntmps52
  go_wp2_with fail
  refine HH.out.mono ?_
  rintro e w2 ⟨rfl,aa⟩
  have ac:=hid (show Below w.heap.size w w2 by rw [← aa];exact HB.out.drew)
  have ak:=hid (show Blk w2 (w.heap.size+1) #[.int .i64 k,.int .i64 0,.int .i64 0,.string ⟨#[]⟩] 50 by rw [← aa];exact HX.out)
  have ad:=hid (show Blk w2 w.heap.size #[.int .i64 0,.int .i64 0,.int .i64 0,.string ⟨#[]⟩] 50 by rw [← aa];exact ah.out)
  clear aa
  go_wp2
  go_loopw [5,21] (fun t i wr=>t=.string ⟨#[]⟩∧i=.int .i64 0∧wr=w2) (fun _ _ _=>0)
  case atStart=>exact ⟨rfl,rfl,rfl⟩
  case round =>
   obtain ⟨rfl,rfl,rfl⟩:=hrel
   obtain ⟨x0,x1,x2,x3,-,-,-,-⟩:=ak.out.four
   cases r
   ·go_wp2_with fail
    refine (HR.out _).mono ?_;rintro e w5 ⟨rfl,ab⟩
    obtain ⟨c0,c1,c2,c3,f0,f1,f2,f3⟩:=(ad.out.onto ab).four
    have ag:=hid (ac.out.trans (ab.mono ac.out.size))
    clear ab
    go_wp2
    exact bodyPost_ret (v:=rdV (OpRd.none 5)) (by simp [results,results52,go_sem,rdV,OpRd.none,c0,c1,c2,c3]) rfl ⟨cL (by rw [← ae.out,cY aj.out]),aH ag.out (Nat.le_refl _) _ _ _ _⟩
   ·go_wp2_with fail
    refine (HR.out _).mono ?_;rintro e w5 ⟨rfl,ab⟩
    obtain ⟨c0,c1,c2,c3,f0,f1,f2,f3⟩:=(ad.out.onto ab).four
    obtain ⟨d0,d1,d2,d3,-,-,-,-⟩:=(ak.out.onto ab).four
    have ag:=hid (ac.out.trans (ab.mono ac.out.size))
    clear ab x0 x1 x2 x3
    go_wp2
    exact bodyPost_ret (v:=rdV ⟨k,0,0,⟨#[]⟩,0⟩) (by simp [results,results52,go_sem,rdV,c0,c1,c2,c3]) rfl ⟨cL (by rw [← ae.out,bE aj.out]),aH ag.out (Nat.le_refl _) _ _ _ _⟩
 ·rw [decide_eq_false hz] at ai
  have am:=hid (cY (zL (k:=k) (by omega) 0 0 hz))
  go_enter func52,ntmps52
  go_wp2_with fail
  refine HH.out.mono ?_
  rintro e w2 ⟨rfl,aa⟩
  have ac:=hid (show Below w.heap.size w w2 by rw [← aa];exact HB.out.drew)
  have ad:=hid (show Blk w2 w.heap.size #[.int .i64 0,.int .i64 0,.int .i64 0,.string ⟨#[]⟩] 50 by rw [← aa];exact ah.out)
  clear aa
  go_wp2
  go_loopw [5,21] (fun t i wr=>t=.string T∧i=.int .i64 0∧wr=w2) (fun _ _ _=>0)
  case atStart=>exact ⟨rfl,rfl,rfl⟩
  case round =>
   obtain ⟨rfl,rfl,rfl⟩:=hrel
   obtain ⟨c0,c1,c2,c3,f0,f1,f2,f3⟩:=ad.out.four
   go_wp2
   exact bodyPost_ret (v:=rdV (OpRd.none 5)) (by simp [results,results52,go_sem,rdV,OpRd.none,c0,c1,c2,c3]) rfl ⟨cL (by rw [← ae.out,am.out]),aH ac.out (Nat.le_refl _) _ _ _ _⟩
set_option maxHeartbeats 1600000 in
theorem pG (s T:ByteArray) (hs:s.size≤4294967296) (h0:0<s.size) (hk:s[0].toNat=1) (hT:s.extract 1 s.size=T) (h4:T.size<4) (w:World) :
 Calls prog 52 #[.string s] w fun e w'=>e=.returned (rdV (OpRd.none 18))∧Below w.heap.size w w':=by
 have he:=aD s
 rw [decide_eq_false (by omega)] at he
 obtain ⟨W0,aa⟩:∃ W0,w.alloc (.cells #[.int .i64 0,.int .i64 0,.int .i64 0,.string ⟨#[]⟩] 50)=W0:=⟨_,rfl⟩
 have hz:W0.heap.size=w.heap.size+1:=by rw [← aa];simp
 have ac:=hid aa
 have hX:=Blk.new W0 #[.int .i64 1,.int .i64 0,.int .i64 0,.string ⟨#[]⟩] 50
 rw [hz] at hX
 have HX:=hid hX
 have HH:=hid (oS _ _ _ _ _ hX)
 have hlo:W0.heap.size≤w.heap.size+1:=Nat.le_of_eq hz
 have HL:=hid hlo
 rw [← aa] at HH HX
 clear hX hz hlo aa
 have hq:=cF 0 T (by unfold maxLen;omega)
 rw [eY T h4] at hq
 have Q0:=hid hq
 clear hq
 go_enter func52,ntmps52
 go_wp2_with fail
 refine HH.out.mono ?_
 rintro e w2 ⟨g,rfl,hg,hgl,ab⟩
 rw [ac.out] at hgl ab HX
 have HT:=hid (dM (w:=W0) HX.out ((Below.refl W0.heap.size W0).alloc (Nat.le_refl _) _) HL.out hg hgl ab)
 clear hg hgl ab
 go_wp2
 go_loopw [5,21] (fun t i wr=>t=.string T∧i=.int .i64 0∧Rt W0 (w.heap.size+1) g #[.int .i64 1,.int .i64 0,.int .i64 0,.string ⟨#[]⟩] #[.iface 143 (.pointer (some ⟨w.heap.size+1,1,none⟩)),.iface 145 (.pointer (some ⟨w.heap.size+1,3,none⟩))] wr) (fun _ i _=>2 - (intOf i).toNat)
 case atStart=>exact ⟨rfl,rfl,HT.out⟩
 case round =>
  clear HT
  obtain ⟨rfl,rfl,ht⟩:=hrel
  obtain ⟨g0,g1⟩:=ht.f.duo
  obtain ⟨x0,x1,x2,x3,y0,y1,y2,y3⟩:=ht.x.four
  have HT:=hid ht
  clear ht
  go_wp2_with fail
  refine (Q0.out _ _ _ HT.out.x.lt x1 y1).mono ?_
  rintro e w3 ⟨w4,rfl,ad,rfl⟩
  have hR:=hid ((HT.out.on ad).set 1 (.int .i64 0))
  obtain ⟨B0,-,hbw⟩:=cA ac.out.symm hR.out (Below.refl _ _)
  have HB:=hid hbw
  obtain ⟨c0,c1,c2,c3,f0,f1,f2,f3⟩:=B0.four
  clear hbw ad
  go_wp2
  exact bodyPost_ret (v:=rdV (OpRd.none 18)) (by simp [results,results52,go_sem,rdV,OpRd.none,c0,c1,c2,c3]) rfl ⟨rfl,aH HB.out (Nat.le_refl _) _ _ _ _⟩
set_option maxHeartbeats 1600000 in
theorem GP (s T:ByteArray) (hs:s.size≤4294967296) (h0:0<s.size) (hk:s[0].toNat=1) (hT:s.extract 1 s.size=T) (h4:4≤T.size) (w:World) :
 Calls prog 52 #[.string s] w fun e w'=>e=.returned (rdV (rdEnd 1 (headN T) 0 (restN T)))∧Below w.heap.size w w':=by
 have hts:T.size≤4294967296:=by rw [← hT];simp;omega
 obtain ⟨R,hR⟩:∃ R,rdEnd 1 (headN T) 0 (restN T)=R:=⟨_,rfl⟩
 rw [hR]
 have he:=aD s
 rw [decide_eq_false (by omega)] at he
 obtain ⟨W0,ab⟩:∃ W0,w.alloc (.cells #[.int .i64 0,.int .i64 0,.int .i64 0,.string ⟨#[]⟩] 50)=W0:=⟨_,rfl⟩
 have hz:W0.heap.size=w.heap.size+1:=by rw [← ab];simp
 have ac:=hid ab
 have hX:=Blk.new W0 #[.int .i64 1,.int .i64 0,.int .i64 0,.string ⟨#[]⟩] 50
 rw [hz] at hX
 have HX:=hid hX
 have HH:=hid (oS _ _ _ _ _ hX)
 have hlo:W0.heap.size≤w.heap.size+1:=Nat.le_of_eq hz
 have HL:=hid hlo
 rw [← ab] at HH HX
 clear hX hz hlo ab
 have hq:=cF 0 T (by unfold maxLen;omega)
 rw [eP T (by omega)] at hq
 unfold headN at hR
 obtain ⟨x,af⟩:∃ x,leN T.data.toList 0 4=x:=⟨_,rfl⟩
 rw [af] at hq hR
 have hu:(restN T).size≤4294967296:=by unfold restN;simp;omega
 obtain ⟨U,hU⟩:∃ U,restN T=U:=⟨_,rfl⟩
 rw [hU] at hR hu
 have aj:T.extract 4 T.size=U:=hU
 have Q0:=hid hq
 clear hq af hU
 have hE:U.extract U.size U.size=⟨#[]⟩:=cS (by simp)
 have hr:=dA 1 x 0 U (by unfold maxLen;omega)
 obtain ⟨r,ad⟩:∃ r,rightB 1 x 0 U.data.toList=r:=⟨_,rfl⟩
 rw [ad] at hr
 have ag:=hid ad;have HR:=hid hr;have ah:=hid hR
 clear ad hr hR
 go_enter func52,ntmps52
 go_wp2_with fail
 refine HH.out.mono ?_
 rintro e w2 ⟨g,rfl,hg,hgl,ae⟩
 rw [ac.out] at hgl ae HX
 have HT:=hid (dM (w:=W0) HX.out ((Below.refl W0.heap.size W0).alloc (Nat.le_refl _) _) HL.out hg hgl ae)
 clear hg hgl ae
 go_wp2
 go_loopw [5,21] (fun t i wr=>Ft2 true T U ⟨#[]⟩ W0 (w.heap.size+1) g #[.iface 143 (.pointer (some ⟨w.heap.size+1,1,none⟩)),.iface 145 (.pointer (some ⟨w.heap.size+1,3,none⟩))] #[.int .i64 1,.int .i64 0,.int .i64 0,.string ⟨#[]⟩] #[.int .i64 1,.int .i64 x,.int .i64 0,.string ⟨#[]⟩] #[.int .i64 1,.int .i64 x,.int .i64 0,.string U] t i wr) (fun _ i _=>2 - (intOf i).toNat)
 case atStart=>exact .inl ⟨rfl,rfl,HT.out⟩
 case round =>
  clear HT
  rcases hrel with ⟨rfl,rfl,ht⟩|⟨rfl,rfl,ht⟩|⟨hq,rfl,rfl,ht⟩
  ·obtain ⟨g0,g1⟩:=ht.f.duo
   obtain ⟨x0,x1,x2,x3,y0,y1,y2,y3⟩:=ht.x.four
   have HT:=hid ht
   clear ht
   go_wp2_with fail
   refine (Q0.out _ _ _ HT.out.x.lt x1 y1).mono ?_
   rintro e w3 ⟨w4,rfl,ai,rfl⟩
   have hR:=hid ((HT.out.on ai).set 1 (.int .i64 x))
   clear ai
   go_wp2
   go_roundw
   case rel=>exact .inr (.inl ⟨rfl,by go_num,by simpa using hR.out⟩)
   case measure=>simp [intOf]
  ·obtain ⟨g0,g1⟩:=ht.f.duo
   obtain ⟨x0,x1,x2,x3,y0,y1,y2,y3⟩:=ht.x.four
   have HT:=hid ht
   clear ht
   go_wp2_with fail
   refine (KL _ U _ _ _ x3 y3).mono ?_;rintro e w3 ⟨rfl,rfl⟩
   have hR:=hid (HT.out.set 3 (.string U))
   go_wp2
   go_roundw
   case rel=>exact .inr (.inr ⟨rfl,rfl,by go_num,by simpa using hR.out⟩)
   case measure=>simp [intOf]
  ·obtain ⟨x0,x1,x2,x3,-,-,-,-⟩:=ht.x.four
   have HT:=hid ht
   clear ht
   cases r
   ·go_wp2_with fail
    refine (HR.out _).mono ?_;rintro e w5 ⟨rfl,aa⟩
    obtain ⟨B0,-,hbw⟩:=cA ac.out.symm HT.out aa
    have HB:=hid hbw
    obtain ⟨c0,c1,c2,c3,f0,f1,f2,f3⟩:=B0.four
    clear hbw aa
    go_wp2
    exact bodyPost_ret (v:=rdV (OpRd.none 5)) (by simp [results,results52,go_sem,rdV,OpRd.none,c0,c1,c2,c3]) rfl ⟨cL (by rw [← ah.out,cY ag.out]),aH HB.out (Nat.le_refl _) _ _ _ _⟩
   ·go_wp2_with fail
    refine (HR.out _).mono ?_;rintro e w5 ⟨rfl,aa⟩
    obtain ⟨B0,B1,hbw⟩:=cA ac.out.symm HT.out aa
    have HB:=hid hbw
    obtain ⟨c0,c1,c2,c3,f0,f1,f2,f3⟩:=B0.four
    obtain ⟨d0,d1,d2,d3,-,-,-,-⟩:=B1.four
    clear hbw aa x0 x1 x2 x3
    go_wp2
    exact bodyPost_ret (v:=rdV ⟨1,x,0,U,0⟩) (by simp [results,results52,go_sem,rdV,OpRd.none,c0,c1,c2,c3]) rfl ⟨cL (by rw [← ah.out,bE ag.out]),aH HB.out (Nat.le_refl _) _ _ _ _⟩
set_option maxHeartbeats 1600000 in
theorem pA (s T:ByteArray) (hs:s.size≤4294967296) (h0:0<s.size) (hk:s[0].toNat=2) (hT:s.extract 1 s.size=T) (h4:T.size<4) (w:World) :
 Calls prog 52 #[.string s] w fun e w'=>e=.returned (rdV (OpRd.none 18))∧Below w.heap.size w w':=by
 have he:=aD s
 rw [decide_eq_false (by omega)] at he
 obtain ⟨W0,aa⟩:∃ W0,w.alloc (.cells #[.int .i64 0,.int .i64 0,.int .i64 0,.string ⟨#[]⟩] 50)=W0:=⟨_,rfl⟩
 have hz:W0.heap.size=w.heap.size+1:=by rw [← aa];simp
 have ac:=hid aa
 have hX:=Blk.new W0 #[.int .i64 2,.int .i64 0,.int .i64 0,.string ⟨#[]⟩] 50
 rw [hz] at hX
 have HX:=hid hX
 have HH:=hid (lL _ _ _ _ _ hX)
 have hlo:W0.heap.size≤w.heap.size+1:=Nat.le_of_eq hz
 have HL:=hid hlo
 rw [← aa] at HH HX
 clear hX hz hlo aa
 have hq:=cF 0 T (by unfold maxLen;omega)
 rw [eY T h4] at hq
 have Q0:=hid hq
 clear hq
 go_enter func52,ntmps52
 go_wp2_with fail
 refine HH.out.mono ?_
 rintro e w2 ⟨g,rfl,hg,hgl,ab⟩
 rw [ac.out] at hgl ab HX
 have HT:=hid (dM (w:=W0) HX.out ((Below.refl W0.heap.size W0).alloc (Nat.le_refl _) _) HL.out hg hgl ab)
 clear hg hgl ab
 go_wp2
 go_loopw [5,21] (fun t i wr=>t=.string T∧i=.int .i64 0∧Rt W0 (w.heap.size+1) g #[.int .i64 2,.int .i64 0,.int .i64 0,.string ⟨#[]⟩] #[.iface 143 (.pointer (some ⟨w.heap.size+1,1,none⟩)),.iface 143 (.pointer (some ⟨w.heap.size+1,2,none⟩))] wr) (fun _ i _=>2 - (intOf i).toNat)
 case atStart=>exact ⟨rfl,rfl,HT.out⟩
 case round =>
  clear HT
  obtain ⟨rfl,rfl,ht⟩:=hrel
  obtain ⟨g0,g1⟩:=ht.f.duo
  obtain ⟨x0,x1,x2,x3,y0,y1,y2,y3⟩:=ht.x.four
  have HT:=hid ht
  clear ht
  go_wp2_with fail
  refine (Q0.out _ _ _ HT.out.x.lt x1 y1).mono ?_
  rintro e w3 ⟨w4,rfl,ad,rfl⟩
  have hR:=hid ((HT.out.on ad).set 1 (.int .i64 0))
  obtain ⟨B0,-,hbw⟩:=cA ac.out.symm hR.out (Below.refl _ _)
  have HB:=hid hbw
  obtain ⟨c0,c1,c2,c3,f0,f1,f2,f3⟩:=B0.four
  clear hbw ad
  go_wp2
  exact bodyPost_ret (v:=rdV (OpRd.none 18)) (by simp [results,results52,go_sem,rdV,OpRd.none,c0,c1,c2,c3]) rfl ⟨rfl,aH HB.out (Nat.le_refl _) _ _ _ _⟩
set_option maxHeartbeats 1600000 in
theorem nS (s T:ByteArray) (hs:s.size≤4294967296) (h0:0<s.size) (hk:s[0].toNat=2) (hT:s.extract 1 s.size=T) (h4:4≤T.size) (h8:T.size<8) (w:World) :
 Calls prog 52 #[.string s] w fun e w'=>e=.returned (rdV (OpRd.none 18))∧Below w.heap.size w w':=by
 have hts:T.size≤4294967296:=by rw [← hT];simp;omega
 have he:=aD s
 rw [decide_eq_false (by omega)] at he
 obtain ⟨W0,ab⟩:∃ W0,w.alloc (.cells #[.int .i64 0,.int .i64 0,.int .i64 0,.string ⟨#[]⟩] 50)=W0:=⟨_,rfl⟩
 have hz:W0.heap.size=w.heap.size+1:=by rw [← ab];simp
 have ae:=hid ab
 have hX:=Blk.new W0 #[.int .i64 2,.int .i64 0,.int .i64 0,.string ⟨#[]⟩] 50
 rw [hz] at hX
 have HX:=hid hX
 have HH:=hid (lL _ _ _ _ _ hX)
 have hlo:W0.heap.size≤w.heap.size+1:=Nat.le_of_eq hz
 have HL:=hid hlo
 rw [← ab] at HH HX
 clear hX hz hlo ab
 have hq:=cF 0 T (by unfold maxLen;omega)
 rw [eP T h4] at hq
 have hu:(restN T).size<4:=by unfold restN;simp;omega
 have ac:=cF 0 (restN T) (by unfold maxLen;omega)
 rw [eY _ hu] at ac
 obtain ⟨U,hU⟩:∃ U,restN T=U:=⟨_,rfl⟩
 rw [hU] at ac hu
 have ag:T.extract 4 T.size=U:=hU
 obtain ⟨x,af⟩:∃ x,leN T.data.toList 0 4=x:=⟨_,rfl⟩
 rw [af] at hq
 have Q0:=hid hq;have Q1:=hid ac
 clear hq ac hU af
 go_enter func52,ntmps52
 go_wp2_with fail
 refine HH.out.mono ?_
 rintro e w2 ⟨g,rfl,hg,hgl,ad⟩
 rw [ae.out] at hgl ad HX
 have HT:=hid (dM (w:=W0) HX.out ((Below.refl W0.heap.size W0).alloc (Nat.le_refl _) _) HL.out hg hgl ad)
 clear hg hgl ad
 go_wp2
 go_loopw [5,21] (fun t i wr=>Ft2 false T U U W0 (w.heap.size+1) g #[.iface 143 (.pointer (some ⟨w.heap.size+1,1,none⟩)),.iface 143 (.pointer (some ⟨w.heap.size+1,2,none⟩))] #[.int .i64 2,.int .i64 0,.int .i64 0,.string ⟨#[]⟩] #[.int .i64 2,.int .i64 x,.int .i64 0,.string ⟨#[]⟩] #[] t i wr) (fun _ i _=>2 - (intOf i).toNat)
 case atStart=>exact .inl ⟨rfl,rfl,HT.out⟩
 case round =>
  clear HT
  rcases hrel with ⟨rfl,rfl,ht⟩|⟨rfl,rfl,ht⟩|⟨hq,rfl,rfl,ht⟩
  ·obtain ⟨g0,g1⟩:=ht.f.duo
   obtain ⟨x0,x1,x2,x3,y0,y1,y2,y3⟩:=ht.x.four
   have HT:=hid ht
   clear ht
   go_wp2_with fail
   refine (Q0.out _ _ _ HT.out.x.lt x1 y1).mono ?_
   rintro e w3 ⟨w4,rfl,aa,rfl⟩
   have hR:=hid ((HT.out.on aa).set 1 (.int .i64 x))
   clear aa
   go_wp2
   go_roundw
   case rel=>exact .inr (.inl ⟨rfl,by go_num,by simpa using hR.out⟩)
   case measure=>simp [intOf]
  ·obtain ⟨g0,g1⟩:=ht.f.duo
   obtain ⟨x0,x1,x2,x3,y0,y1,y2,y3⟩:=ht.x.four
   have HT:=hid ht
   clear ht
   go_wp2_with fail
   refine (Q1.out _ _ _ HT.out.x.lt x2 y2).mono ?_
   rintro e w3 ⟨w4,rfl,aa,rfl⟩
   have hR:=hid ((HT.out.on aa).set 2 (.int .i64 0))
   obtain ⟨B0,-,hbw⟩:=cA ae.out.symm hR.out (Below.refl _ _)
   have HB:=hid hbw
   obtain ⟨c0,c1,c2,c3,f0,f1,f2,f3⟩:=B0.four
   clear hbw aa
   go_wp2
   exact bodyPost_ret (v:=rdV (OpRd.none 18)) (by simp [results,results52,go_sem,rdV,OpRd.none,c0,c1,c2,c3]) rfl ⟨rfl,aH HB.out (Nat.le_refl _) _ _ _ _⟩
  ·cases hq
set_option maxHeartbeats 1600000 in
theorem MD (s T:ByteArray) (hs:s.size≤4294967296) (h0:0<s.size) (hk:s[0].toNat=2) (hT:s.extract 1 s.size=T) (h8:8≤T.size) (w:World) :
 Calls prog 52 #[.string s] w fun e w'=>e=.returned (rdV (rdEnd 2 (headN T) (headN (restN T)) (restN (restN T))))∧Below w.heap.size w w':=by
 have hts:T.size≤4294967296:=by rw [← hT];simp;omega
 obtain ⟨R,hR⟩:∃ R,rdEnd 2 (headN T) (headN (restN T)) (restN (restN T))=R:=⟨_,rfl⟩
 rw [hR]
 have he:=aD s
 rw [decide_eq_false (by omega)] at he
 obtain ⟨W0,ac⟩:∃ W0,w.alloc (.cells #[.int .i64 0,.int .i64 0,.int .i64 0,.string ⟨#[]⟩] 50)=W0:=⟨_,rfl⟩
 have hz:W0.heap.size=w.heap.size+1:=by rw [← ac];simp
 have ad:=hid ac
 have hX:=Blk.new W0 #[.int .i64 2,.int .i64 0,.int .i64 0,.string ⟨#[]⟩] 50
 rw [hz] at hX
 have HX:=hid hX
 have HH:=hid (lL _ _ _ _ _ hX)
 have hlo:W0.heap.size≤w.heap.size+1:=Nat.le_of_eq hz
 have HL:=hid hlo
 rw [← ac] at HH HX
 clear hX hz hlo ac
 have hq:=cF 0 T (by unfold maxLen;omega)
 rw [eP T (by omega)] at hq
 unfold headN at hR
 obtain ⟨x,ai⟩:∃ x,leN T.data.toList 0 4=x:=⟨_,rfl⟩
 rw [ai] at hq hR
 have hu:(restN T).size≤4294967296:=by unfold restN;simp;omega
 have am:4≤(restN T).size:=by unfold restN;simp;omega
 obtain ⟨U,hU⟩:∃ U,restN T=U:=⟨_,rfl⟩
 rw [hU] at hR hu am
 have aq:T.extract 4 T.size=U:=hU
 have Q0:=hid hq
 clear hq ai hU
 have ae:=cF 0 U (by unfold maxLen;omega)
 rw [eP U (by omega)] at ae
 obtain ⟨y,aj⟩:∃ y,leN U.data.toList 0 4=y:=⟨_,rfl⟩
 rw [aj] at ae hR
 obtain ⟨V,hV⟩:∃ V,restN U=V:=⟨_,rfl⟩
 rw [hV] at hR
 have ar:U.extract 4 U.size=V:=hV
 have Q1:=hid ae
 clear ae aj hV
 have ak:=aD V
 have hr:=dA 2 x y ⟨#[]⟩ (by unfold maxLen;decide)
 obtain ⟨r,af⟩:∃ r,rightB 2 x y (⟨#[]⟩:ByteArray).data.toList=r:=⟨_,rfl⟩
 rw [af] at hr
 have al:=hid af;have HR:=hid hr;have ag:=hid hR
 clear af hr hR
 go_enter func52,ntmps52
 go_wp2_with fail
 refine HH.out.mono ?_
 rintro e w2 ⟨g,rfl,hg,hgl,ah⟩
 rw [ad.out] at hgl ah HX
 have HT:=hid (dM (w:=W0) HX.out ((Below.refl W0.heap.size W0).alloc (Nat.le_refl _) _) HL.out hg hgl ah)
 clear hg hgl ah
 go_wp2
 go_loopw [5,21] (fun t i wr=>Ft2 true T U V W0 (w.heap.size+1) g #[.iface 143 (.pointer (some ⟨w.heap.size+1,1,none⟩)),.iface 143 (.pointer (some ⟨w.heap.size+1,2,none⟩))] #[.int .i64 2,.int .i64 0,.int .i64 0,.string ⟨#[]⟩] #[.int .i64 2,.int .i64 x,.int .i64 0,.string ⟨#[]⟩] #[.int .i64 2,.int .i64 x,.int .i64 y,.string ⟨#[]⟩] t i wr) (fun _ i _=>2 - (intOf i).toNat)
 case atStart=>exact .inl ⟨rfl,rfl,HT.out⟩
 case round =>
  clear HT
  rcases hrel with ⟨rfl,rfl,ht⟩|⟨rfl,rfl,ht⟩|⟨hq,rfl,rfl,ht⟩
  ·obtain ⟨g0,g1⟩:=ht.f.duo
   obtain ⟨x0,x1,x2,x3,y0,y1,y2,y3⟩:=ht.x.four
   have HT:=hid ht
   clear ht
   go_wp2_with fail
   refine (Q0.out _ _ _ HT.out.x.lt x1 y1).mono ?_
   rintro e w3 ⟨w4,rfl,aa,rfl⟩
   have hR:=hid ((HT.out.on aa).set 1 (.int .i64 x))
   clear aa
   go_wp2
   go_roundw
   case rel=>exact .inr (.inl ⟨rfl,by go_num,by simpa using hR.out⟩)
   case measure=>simp [intOf]
  ·obtain ⟨g0,g1⟩:=ht.f.duo
   obtain ⟨x0,x1,x2,x3,y0,y1,y2,y3⟩:=ht.x.four
   have HT:=hid ht
   clear ht
   go_wp2_with fail
   refine (Q1.out _ _ _ HT.out.x.lt x2 y2).mono ?_
   rintro e w3 ⟨w4,rfl,aa,rfl⟩
   have hR:=hid ((HT.out.on aa).set 2 (.int .i64 y))
   clear aa
   go_wp2
   go_roundw
   case rel=>exact .inr (.inr ⟨rfl,rfl,by go_num,by simpa using hR.out⟩)
   case measure=>simp [intOf]
  ·by_cases hz:V.size=0
   ·have an:=cS hz
    subst an
    clear hz ak
    obtain ⟨x0,x1,x2,x3,-,-,-,-⟩:=ht.x.four
    have HT:=hid ht
    clear ht
    cases r
    ·go_wp2_with fail
     refine (HR.out _).mono ?_;rintro e w5 ⟨rfl,ab⟩
     obtain ⟨B0,-,hbw⟩:=cA ad.out.symm HT.out ab
     have HB:=hid hbw
     obtain ⟨c0,c1,c2,c3,f0,f1,f2,f3⟩:=B0.four
     clear hbw ab
     go_wp2
     exact bodyPost_ret (v:=rdV (OpRd.none 5)) (by simp [results,results52,go_sem,rdV,OpRd.none,c0,c1,c2,c3]) rfl ⟨cL (by rw [← ag.out,cY al.out]),aH HB.out (Nat.le_refl _) _ _ _ _⟩
    ·go_wp2_with fail
     refine (HR.out _).mono ?_;rintro e w5 ⟨rfl,ab⟩
     obtain ⟨B0,B1,hbw⟩:=cA ad.out.symm HT.out ab
     have HB:=hid hbw
     obtain ⟨c0,c1,c2,c3,f0,f1,f2,f3⟩:=B0.four
     obtain ⟨d0,d1,d2,d3,-,-,-,-⟩:=B1.four
     clear hbw ab x0 x1 x2 x3
     go_wp2
     exact bodyPost_ret (v:=rdV ⟨2,x,y,⟨#[]⟩,0⟩) (by simp [results,results52,go_sem,rdV,OpRd.none,c0,c1,c2,c3]) rfl ⟨cL (by rw [← ag.out,bE al.out]),aH HB.out (Nat.le_refl _) _ _ _ _⟩
   ·have ao:=hid (cY (k:=2) (a:=x) (n:=y) (s:=V) (by rw [right2,aX,decide_eq_false hz,Bool.and_false]))
    rw [decide_eq_false hz] at ak
    have HT:=hid ht
    obtain ⟨B0,-,hbw⟩:=cA ad.out.symm ht (Below.refl _ _)
    have HB:=hid hbw
    obtain ⟨c0,c1,c2,c3,f0,f1,f2,f3⟩:=B0.four
    clear hbw ht
    go_wp2
    exact bodyPost_ret (v:=rdV (OpRd.none 5)) (by simp [results,results52,go_sem,rdV,OpRd.none,c0,c1,c2,c3]) rfl ⟨cL (by rw [← ag.out,ao.out]),aH HB.out (Nat.le_refl _) _ _ _ _⟩
set_option maxHeartbeats 1600000 in
theorem mO (s T:ByteArray) (hs:s.size≤4294967296) (h0:0<s.size) (hk:s[0].toNat=3) (hT:s.extract 1 s.size=T) (h4:T.size<4) (w:World) :
 Calls prog 52 #[.string s] w fun e w'=>e=.returned (rdV (OpRd.none 18))∧Below w.heap.size w w':=by
 have he:=aD s
 rw [decide_eq_false (by omega)] at he
 obtain ⟨W0,aa⟩:∃ W0,w.alloc (.cells #[.int .i64 0,.int .i64 0,.int .i64 0,.string ⟨#[]⟩] 50)=W0:=⟨_,rfl⟩
 have hz:W0.heap.size=w.heap.size+1:=by rw [← aa];simp
 have ac:=hid aa
 have hX:=Blk.new W0 #[.int .i64 3,.int .i64 0,.int .i64 0,.string ⟨#[]⟩] 50
 rw [hz] at hX
 have HX:=hid hX
 have HH:=hid (jS _ _ _ _ _ hX)
 have hlo:W0.heap.size≤w.heap.size+1:=Nat.le_of_eq hz
 have HL:=hid hlo
 rw [← aa] at HH HX
 clear hX hz hlo aa
 have hq:=cF 0 T (by unfold maxLen;omega)
 rw [eY T h4] at hq
 have Q0:=hid hq
 clear hq
 go_enter func52,ntmps52
 go_wp2_with fail
 refine HH.out.mono ?_
 rintro e w2 ⟨g,rfl,hg,hgl,ab⟩
 rw [ac.out] at hgl ab HX
 have HT:=hid (dM (w:=W0) HX.out ((Below.refl W0.heap.size W0).alloc (Nat.le_refl _) _) HL.out hg hgl ab)
 clear hg hgl ab
 go_wp2
 go_loopw [5,21] (fun t i wr=>t=.string T∧i=.int .i64 0∧Rt W0 (w.heap.size+1) g #[.int .i64 3,.int .i64 0,.int .i64 0,.string ⟨#[]⟩] #[.iface 143 (.pointer (some ⟨w.heap.size+1,1,none⟩)),.iface 147 (.pointer (some ⟨w.heap.size+1,3,none⟩))] wr) (fun _ i _=>2 - (intOf i).toNat)
 case atStart=>exact ⟨rfl,rfl,HT.out⟩
 case round =>
  clear HT
  obtain ⟨rfl,rfl,ht⟩:=hrel
  obtain ⟨g0,g1⟩:=ht.f.duo
  obtain ⟨x0,x1,x2,x3,y0,y1,y2,y3⟩:=ht.x.four
  have HT:=hid ht
  clear ht
  go_wp2_with fail
  refine (Q0.out _ _ _ HT.out.x.lt x1 y1).mono ?_
  rintro e w3 ⟨w4,rfl,ad,rfl⟩
  have hR:=hid ((HT.out.on ad).set 1 (.int .i64 0))
  obtain ⟨B0,-,hbw⟩:=cA ac.out.symm hR.out (Below.refl _ _)
  have HB:=hid hbw
  obtain ⟨c0,c1,c2,c3,f0,f1,f2,f3⟩:=B0.four
  clear hbw ad
  go_wp2
  exact bodyPost_ret (v:=rdV (OpRd.none 18)) (by simp [results,results52,go_sem,rdV,OpRd.none,c0,c1,c2,c3]) rfl ⟨rfl,aH HB.out (Nat.le_refl _) _ _ _ _⟩
set_option maxHeartbeats 1600000 in
theorem AB (s T:ByteArray) (hs:s.size≤4294967296) (h0:0<s.size) (hk:s[0].toNat=3) (hT:s.extract 1 s.size=T) (h4:4≤T.size) (w:World) :
 Calls prog 52 #[.string s] w fun e w'=>e=.returned (rdV (rdEnd 3 (headN T) 0 (restN T)))∧Below w.heap.size w w':=by
 have hts:T.size≤4294967296:=by rw [← hT];simp;omega
 obtain ⟨R,hR⟩:∃ R,rdEnd 3 (headN T) 0 (restN T)=R:=⟨_,rfl⟩
 rw [hR]
 have he:=aD s
 rw [decide_eq_false (by omega)] at he
 obtain ⟨W0,ab⟩:∃ W0,w.alloc (.cells #[.int .i64 0,.int .i64 0,.int .i64 0,.string ⟨#[]⟩] 50)=W0:=⟨_,rfl⟩
 have hz:W0.heap.size=w.heap.size+1:=by rw [← ab];simp
 have ac:=hid ab
 have hX:=Blk.new W0 #[.int .i64 3,.int .i64 0,.int .i64 0,.string ⟨#[]⟩] 50
 rw [hz] at hX
 have HX:=hid hX
 have HH:=hid (jS _ _ _ _ _ hX)
 have hlo:W0.heap.size≤w.heap.size+1:=Nat.le_of_eq hz
 have HL:=hid hlo
 rw [← ab] at HH HX
 clear hX hz hlo ab
 have hq:=cF 0 T (by unfold maxLen;omega)
 rw [eP T (by omega)] at hq
 unfold headN at hR
 obtain ⟨x,af⟩:∃ x,leN T.data.toList 0 4=x:=⟨_,rfl⟩
 rw [af] at hq hR
 have hu:(restN T).size≤4294967296:=by unfold restN;simp;omega
 obtain ⟨U,hU⟩:∃ U,restN T=U:=⟨_,rfl⟩
 rw [hU] at hR hu
 have aj:T.extract 4 T.size=U:=hU
 have Q0:=hid hq
 clear hq af hU
 have hE:U.extract U.size U.size=⟨#[]⟩:=cS (by simp)
 have hr:=dA 3 x 0 U (by unfold maxLen;omega)
 obtain ⟨r,ad⟩:∃ r,rightB 3 x 0 U.data.toList=r:=⟨_,rfl⟩
 rw [ad] at hr
 have ag:=hid ad;have HR:=hid hr;have ah:=hid hR
 clear ad hr hR
 go_enter func52,ntmps52
 go_wp2_with fail
 refine HH.out.mono ?_
 rintro e w2 ⟨g,rfl,hg,hgl,ae⟩
 rw [ac.out] at hgl ae HX
 have HT:=hid (dM (w:=W0) HX.out ((Below.refl W0.heap.size W0).alloc (Nat.le_refl _) _) HL.out hg hgl ae)
 clear hg hgl ae
 go_wp2
 go_loopw [5,21] (fun t i wr=>Ft2 true T U ⟨#[]⟩ W0 (w.heap.size+1) g #[.iface 143 (.pointer (some ⟨w.heap.size+1,1,none⟩)),.iface 147 (.pointer (some ⟨w.heap.size+1,3,none⟩))] #[.int .i64 3,.int .i64 0,.int .i64 0,.string ⟨#[]⟩] #[.int .i64 3,.int .i64 x,.int .i64 0,.string ⟨#[]⟩] #[.int .i64 3,.int .i64 x,.int .i64 0,.string U] t i wr) (fun _ i _=>2 - (intOf i).toNat)
 case atStart=>exact .inl ⟨rfl,rfl,HT.out⟩
 case round =>
  clear HT
  rcases hrel with ⟨rfl,rfl,ht⟩|⟨rfl,rfl,ht⟩|⟨hq,rfl,rfl,ht⟩
  ·obtain ⟨g0,g1⟩:=ht.f.duo
   obtain ⟨x0,x1,x2,x3,y0,y1,y2,y3⟩:=ht.x.four
   have HT:=hid ht
   clear ht
   go_wp2_with fail
   refine (Q0.out _ _ _ HT.out.x.lt x1 y1).mono ?_
   rintro e w3 ⟨w4,rfl,ai,rfl⟩
   have hR:=hid ((HT.out.on ai).set 1 (.int .i64 x))
   clear ai
   go_wp2
   go_roundw
   case rel=>exact .inr (.inl ⟨rfl,by go_num,by simpa using hR.out⟩)
   case measure=>simp [intOf]
  ·obtain ⟨g0,g1⟩:=ht.f.duo
   obtain ⟨x0,x1,x2,x3,y0,y1,y2,y3⟩:=ht.x.four
   have HT:=hid ht
   clear ht
   go_wp2_with fail
   refine (uW _ U _ _ _ x3 y3).mono ?_;rintro e w3 ⟨rfl,rfl⟩
   have hR:=hid (HT.out.set 3 (.string U))
   go_wp2
   go_roundw
   case rel=>exact .inr (.inr ⟨rfl,rfl,by go_num,by simpa using hR.out⟩)
   case measure=>simp [intOf]
  ·obtain ⟨x0,x1,x2,x3,-,-,-,-⟩:=ht.x.four
   have HT:=hid ht
   clear ht
   cases r
   ·go_wp2_with fail
    refine (HR.out _).mono ?_;rintro e w5 ⟨rfl,aa⟩
    obtain ⟨B0,-,hbw⟩:=cA ac.out.symm HT.out aa
    have HB:=hid hbw
    obtain ⟨c0,c1,c2,c3,f0,f1,f2,f3⟩:=B0.four
    clear hbw aa
    go_wp2
    exact bodyPost_ret (v:=rdV (OpRd.none 5)) (by simp [results,results52,go_sem,rdV,OpRd.none,c0,c1,c2,c3]) rfl ⟨cL (by rw [← ah.out,cY ag.out]),aH HB.out (Nat.le_refl _) _ _ _ _⟩
   ·go_wp2_with fail
    refine (HR.out _).mono ?_;rintro e w5 ⟨rfl,aa⟩
    obtain ⟨B0,B1,hbw⟩:=cA ac.out.symm HT.out aa
    have HB:=hid hbw
    obtain ⟨c0,c1,c2,c3,f0,f1,f2,f3⟩:=B0.four
    obtain ⟨d0,d1,d2,d3,-,-,-,-⟩:=B1.four
    clear hbw aa x0 x1 x2 x3
    go_wp2
    exact bodyPost_ret (v:=rdV ⟨3,x,0,U,0⟩) (by simp [results,results52,go_sem,rdV,OpRd.none,c0,c1,c2,c3]) rfl ⟨cL (by rw [← ah.out,bE ag.out]),aH HB.out (Nat.le_refl _) _ _ _ _⟩
set_option maxHeartbeats 1600000 in
theorem DE (s T:ByteArray) (hs:s.size≤4294967296) (h0:0<s.size) (hk:s[0].toNat=4) (hT:s.extract 1 s.size=T) (w:World) :
 Calls prog 52 #[.string s] w fun e w'=>e=.returned (rdV (rdEnd 4 0 0 T))∧Below w.heap.size w w':=by
 have hts:T.size≤4294967296:=by rw [← hT];simp;omega
 obtain ⟨R,hR⟩:∃ R,rdEnd 4 0 0 T=R:=⟨_,rfl⟩
 rw [hR]
 have he:=aD s
 rw [decide_eq_false (by omega)] at he
 obtain ⟨W0,ab⟩:∃ W0,w.alloc (.cells #[.int .i64 0,.int .i64 0,.int .i64 0,.string ⟨#[]⟩] 50)=W0:=⟨_,rfl⟩
 have hz:W0.heap.size=w.heap.size+1:=by rw [← ab];simp
 have ac:=hid ab
 have hX:=Blk.new W0 #[.int .i64 4,.int .i64 0,.int .i64 0,.string ⟨#[]⟩] 50
 rw [hz] at hX
 have HX:=hid hX
 have HH:=hid (uE _ _ _ _ _ hX)
 have hlo:W0.heap.size≤w.heap.size+1:=Nat.le_of_eq hz
 have HL:=hid hlo
 rw [← ab] at HH HX
 clear hX hz hlo ab
 have hE:T.extract T.size T.size=⟨#[]⟩:=cS (by simp)
 have hr:=dA 4 0 0 T (by unfold maxLen;omega)
 obtain ⟨r,ad⟩:∃ r,rightB 4 0 0 T.data.toList=r:=⟨_,rfl⟩
 rw [ad] at hr
 have af:=hid ad;have HR:=hid hr;have ag:=hid hR
 clear ad hr hR
 go_enter func52,ntmps52
 go_wp2_with fail
 refine HH.out.mono ?_
 rintro e w2 ⟨g,rfl,hg,hgl,ae⟩
 rw [ac.out] at hgl ae HX
 have HT:=hid (dM (w:=W0) HX.out ((Below.refl W0.heap.size W0).alloc (Nat.le_refl _) _) HL.out hg hgl ae)
 clear hg hgl ae
 go_wp2
 go_loopw [5,21] (fun t i wr=>Ft2 false T ⟨#[]⟩ ⟨#[]⟩ W0 (w.heap.size+1) g #[.iface 147 (.pointer (some ⟨w.heap.size+1,3,none⟩))] #[.int .i64 4,.int .i64 0,.int .i64 0,.string ⟨#[]⟩] #[.int .i64 4,.int .i64 0,.int .i64 0,.string T] #[] t i wr) (fun _ i _=>2 - (intOf i).toNat)
 case atStart=>exact .inl ⟨rfl,rfl,HT.out⟩
 case round =>
  clear HT
  rcases hrel with ⟨rfl,rfl,ht⟩|⟨rfl,rfl,ht⟩|⟨hq,rfl,rfl,ht⟩
  ·have g0:=ht.f.lone
   obtain ⟨x0,x1,x2,x3,y0,y1,y2,y3⟩:=ht.x.four
   have HT:=hid ht
   clear ht
   go_wp2_with fail
   refine (uW _ T _ _ _ x3 y3).mono ?_;rintro e w3 ⟨rfl,rfl⟩
   have hR:=hid (HT.out.set 3 (.string T))
   go_wp2
   go_roundw
   case rel=>exact .inr (.inl ⟨rfl,by go_num,by simpa using hR.out⟩)
   case measure=>simp [intOf]
  ·obtain ⟨x0,x1,x2,x3,-,-,-,-⟩:=ht.x.four
   have HT:=hid ht
   clear ht
   cases r
   ·go_wp2_with fail
    refine (HR.out _).mono ?_;rintro e w5 ⟨rfl,aa⟩
    obtain ⟨B0,-,hbw⟩:=cA ac.out.symm HT.out aa
    have HB:=hid hbw
    obtain ⟨c0,c1,c2,c3,f0,f1,f2,f3⟩:=B0.four
    clear hbw aa
    go_wp2
    exact bodyPost_ret (v:=rdV (OpRd.none 5)) (by simp [results,results52,go_sem,rdV,OpRd.none,c0,c1,c2,c3]) rfl ⟨cL (by rw [← ag.out,cY af.out]),aH HB.out (Nat.le_refl _) _ _ _ _⟩
   ·go_wp2_with fail
    refine (HR.out _).mono ?_;rintro e w5 ⟨rfl,aa⟩
    obtain ⟨B0,B1,hbw⟩:=cA ac.out.symm HT.out aa
    have HB:=hid hbw
    obtain ⟨c0,c1,c2,c3,f0,f1,f2,f3⟩:=B0.four
    obtain ⟨d0,d1,d2,d3,-,-,-,-⟩:=B1.four
    clear hbw aa x0 x1 x2 x3
    go_wp2
    exact bodyPost_ret (v:=rdV ⟨4,0,0,T,0⟩) (by simp [results,results52,go_sem,rdV,OpRd.none,c0,c1,c2,c3]) rfl ⟨cL (by rw [← ag.out,bE af.out]),aH HB.out (Nat.le_refl _) _ _ _ _⟩
  ·cases hq
theorem vE (s:ByteArray) (hs:s.size≤4294967296) (w:World) :
 Calls prog 52 #[.string s] w fun e w'=>e=.returned (rdV (readR s))∧Below w.heap.size w w':=by
 unfold readR
 by_cases h0:0<s.size
 ·rw [dif_pos h0]
  obtain ⟨k,hk⟩:∃ k,s[0].toNat=k:=⟨_,rfl⟩
  obtain ⟨T,hT⟩:∃ T,s.extract 1 s.size=T:=⟨_,rfl⟩
  rw [hk,hT]
  unfold rdKind
  by_cases ho:k<1∨8<k
  ·rw [if_pos (by omega),← cY (k:=k) (a:=0) (n:=0) (s:=T) (eS (by omega) _ _ _)]
   exact pZ s T k hs h0 hk hT (by omega) w
  rw [if_neg (by omega)]
  by_cases h13:k=1∨k=3
  ·rw [if_pos (by omega)]
   by_cases h4:T.size<4
   ·rw [if_pos h4]
    rcases h13 with rfl|rfl
    ·exact pG s T hs h0 hk hT h4 w
    ·exact mO s T hs h0 hk hT h4 w
   ·rw [if_neg h4]
    rcases h13 with rfl|rfl
    ·exact GP s T hs h0 hk hT (by omega) w
    ·exact AB s T hs h0 hk hT (by omega) w
  rw [if_neg (by omega)]
  by_cases h2:k=2
  ·subst h2
   rw [if_pos (by omega)]
   by_cases h8:T.size<8
   ·rw [if_pos h8]
    by_cases h4:T.size<4
    ·exact pA s T hs h0 hk hT h4 w
    ·exact nS s T hs h0 hk hT (by omega) h8 w
   ·rw [if_neg h8];exact MD s T hs h0 hk hT (by omega) w
  ·rw [if_neg (by omega)]
   by_cases h4:k=4
   ·subst h4;exact DE s T hs h0 hk hT w
   ·exact pZ s T k hs h0 hk hT (by omega) w
 ·rw [dif_neg h0,cS (show s.size=0 by omega)]
  exact AP w
end Go.Proofs.YtbagenpobcgjnaaGreat
