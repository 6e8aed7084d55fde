/-
  Joined: OpDev, OpHas, OpRight.
-/
import Derived.Test.YtbagenpobcgjnaaGreatJOpRef
import Derived.Test.YtbagenpobcgjnaaGreatJCommon
import Derived.Handy
variable {b:Nat} {w:Go.World}
namespace Go.Proofs.YtbagenpobcgjnaaGreat
open Go.Proofs.Tryz
set_option maxRecDepth 100000
open Lib (hid)
open Go.RowKit
set_option maxHeartbeats 400000 in
theorem bB (s:ByteArray) (hs:s.size≤maxLen) (w:World) :
 Calls prog 106 #[.string s] w fun e w'=>e=.returned (.bool (markB s.data.toList))∧w=w':=by
 unfold maxLen at hs
 by_cases z1:s.size<1
 ·rw [vM (by rw [aX];exact z1)]
  go_enter func106,ntmps106
  go_wp2
  go_ret
  exact ⟨rfl,rfl⟩
 by_cases z2:8<s.size
 ·have z3:1≤s.size:=by omega
  rw [AX (by rw [aX];exact z2)]
  clear z1
  go_enter func106,ntmps106
  go_wp2
  go_ret
  exact ⟨rfl,rfl⟩
 have z3:1≤s.size:=by omega
 have z4:s.size≤8:=by omega
 clear z1 z2
 obtain ⟨r,hr⟩:∃ r,markB s.data.toList=r:=⟨_,rfl⟩
 rw [hr]
 have HR:=hid hr;clear hr
 go_enter func106,ntmps106
 go_wp2
 go_loop [14] (fun i=>∃ k:Nat,k≤s.size∧i=.int .i64 k∧(s.data.toList.take k).all letB=true) (fun i=>s.size - (intOf i).toNat)
 case atStart=>exact ⟨0,Nat.zero_le _,rfl,rfl⟩
 case round =>
  obtain ⟨k,hk,rfl,hall⟩:=hrel
  have HA:=hid hall;clear hall
  by_cases hlt:k<s.size
  ·have aa:=s[k].toNat_lt
   by_cases g1:97≤s[k].toNat
   ·by_cases g2:s[k].toNat≤122
    ·have h2:=hid (uD hlt HA.out g1 g2)
     go_wp2
     go_round
     case rel=>exact ⟨k+1,by omega,by go_num,h2.out⟩
     case measure=>simp [intOf];omega
    ·have h2:=hid (lP hlt (.inr (by omega)))
     have g2':122<s[k].toNat:=by omega
     go_wp2
     go_ret
     exact ⟨aA (by rw [← HR.out,h2.out]),rfl⟩
   ·have h2:=hid (lP hlt (.inl (by omega)))
    have g1':s[k].toNat<97:=by omega
    go_wp2
    go_ret
    exact ⟨aA (by rw [← HR.out,h2.out]),rfl⟩
  ·obtain rfl:k=s.size:=by omega
   have h2:=hid (xC HA.out)
   go_wp2
   go_ret
   exact ⟨aA (by rw [← HR.out,h2.out,decide_eq_true z3,decide_eq_true z4];rfl),rfl⟩
theorem gR (v:Int) (b o:Nat) (w:World) (hc:w.cell? ⟨b,o,none⟩=some (.int .i64 v)) :
 Calls prog 234 #[.pointer (some ⟨b,o,none⟩)] w fun e w'=>e=.returned (.bool (plB v))∧w=w':=by
 by_cases h0:0≤v
 ·by_cases h1:v≤4096
  ·rw [xJ h0 h1]
   go_enter func234,ntmps234
   go_wp2
   go_ret
   exact ⟨rfl,rfl⟩
  ·have h1':4096<v:=by omega
   rw [oI (.inr h1')]
   go_enter func234,ntmps234
   go_wp2
   go_ret
   exact ⟨rfl,rfl⟩
 ·have h0':v<0:=by omega
  rw [oI (.inl h0')]
  go_enter func234,ntmps234
  go_wp2
  go_ret
  exact ⟨rfl,rfl⟩
theorem BW (s:ByteArray) (hs:s.size≤maxLen) (b o:Nat) (w:World) (hc:w.cell? ⟨b,o,none⟩=some (.string s)) :
 Calls prog 236 #[.pointer (some ⟨b,o,none⟩)] w fun e w'=>e=.returned (.bool (decide (s.size≤512) && vldB s.data.toList))∧Below w.heap.size w w':=by
 have hv:=dB s hs
 obtain ⟨v,aa⟩:∃ v,vldB s.data.toList=v:=⟨_,rfl⟩
 rw [aa] at hv ⊢
 have HV:=hid hv
 clear hv aa
 unfold maxLen at hs
 by_cases h5:s.size≤512
 ·rw [decide_eq_true h5]
  go_enter func236,ntmps236
  go_wp2_with (go_at_call 105;refine (HV.out _).mono ?_;rintro e w' ⟨rfl,hb⟩)
  go_ret
  exact ⟨rfl,hb⟩
 ·have h5':512<s.size:=by omega
  rw [decide_eq_false h5]
  go_enter func236,ntmps236
  go_wp2
  go_ret
  exact ⟨rfl,Below.refl _ _⟩
theorem rO (s:ByteArray) (hs:s.size≤maxLen) (b o:Nat) (w:World) (hc:w.cell? ⟨b,o,none⟩=some (.string s)) :
 Calls prog 238 #[.pointer (some ⟨b,o,none⟩)] w fun e w'=>e=.returned (.bool (markB s.data.toList))∧w=w':=by
 have hv:=bB s hs
 obtain ⟨v,aa⟩:∃ v,markB s.data.toList=v:=⟨_,rfl⟩
 rw [aa] at hv ⊢
 have HV:=hid hv
 clear hv aa
 go_enter func238,ntmps238
 go_wp2_with (go_at_call 106;refine (HV.out _).mono ?_;rintro e w' ⟨rfl,rfl⟩)
 go_ret
 exact ⟨rfl,rfl⟩
theorem gL (v:Value) (b o:Nat) (w:World) (hc:w.cell? ⟨b,o,none⟩=some v) (hf:w.frozen? ⟨b,o,none⟩=false) :
 Calls prog 233 #[.pointer (some ⟨b,o,none⟩)] w fun e w'=>e=.returned (.tuple #[])∧w'=w.setCell ⟨b,o,none⟩ (.int .i64 0):=by
 go_enter func233,ntmps233
 go_wp2
 go_returns
 exact ⟨rfl,rfl⟩
theorem FG (v:Value) (b o:Nat) (w:World) (hc:w.cell? ⟨b,o,none⟩=some v) (hf:w.frozen? ⟨b,o,none⟩=false) :
 Calls prog 235 #[.pointer (some ⟨b,o,none⟩)] w fun e w'=>e=.returned (.tuple #[])∧w'=w.setCell ⟨b,o,none⟩ (.string ⟨#[]⟩):=by
 go_enter func235,ntmps235
 go_wp2
 go_returns
 exact ⟨rfl,rfl⟩
theorem pY (v:Value) (b o:Nat) (w:World) (hc:w.cell? ⟨b,o,none⟩=some v) (hf:w.frozen? ⟨b,o,none⟩=false) :
 Calls prog 237 #[.pointer (some ⟨b,o,none⟩)] w fun e w'=>e=.returned (.tuple #[])∧w'=w.setCell ⟨b,o,none⟩ (.string ⟨#[]⟩):=by
 go_enter func237,ntmps237
 go_wp2
 go_returns
 exact ⟨rfl,rfl⟩
def HasR (w:World) (fs:Array Value) (e:Ending) (w':World):Prop:=
 ∃ g,e=.returned (.slice (some ⟨g,0,none⟩) fs.size fs.size)∧Blk w' g fs 125∧w.heap.size≤g∧Below w.heap.size w w'
set_option maxHeartbeats 400000 in
theorem oS (a n s:Value) (b:Nat) (w:World) (hB:Blk w b #[.int .i64 1,a,n,s] 50) :
 Calls prog 77 #[.pointer (some ⟨b,0,none⟩)] w (HasR w #[.iface 143 (.pointer (some ⟨b,1,none⟩)),.iface 145 (.pointer (some ⟨b,3,none⟩))]):=by
 obtain ⟨c0,-,-,-,-,-,-,-⟩:=hB.four
 clear hB
 go_enter func77,ntmps77
 go_wp2
 go_region
 go_wp2
 go_ret
 exact ⟨w.heap.size,rfl,Blk.new w _ _,Nat.le_refl _,((Below.refl _ _).alloc (Nat.le_refl _) _).drew⟩
set_option maxHeartbeats 400000 in
theorem lL (a n s:Value) (b:Nat) (w:World) (hB:Blk w b #[.int .i64 2,a,n,s] 50) :
 Calls prog 77 #[.pointer (some ⟨b,0,none⟩)] w (HasR w #[.iface 143 (.pointer (some ⟨b,1,none⟩)),.iface 143 (.pointer (some ⟨b,2,none⟩))]):=by
 obtain ⟨c0,-,-,-,-,-,-,-⟩:=hB.four
 clear hB
 go_enter func77,ntmps77
 go_wp2
 go_region
 go_wp2
 go_ret
 exact ⟨w.heap.size,rfl,Blk.new w _ _,Nat.le_refl _,((Below.refl _ _).alloc (Nat.le_refl _) _).drew⟩
set_option maxHeartbeats 400000 in
theorem jS (a n s:Value) (b:Nat) (w:World) (hB:Blk w b #[.int .i64 3,a,n,s] 50) :
 Calls prog 77 #[.pointer (some ⟨b,0,none⟩)] w (HasR w #[.iface 143 (.pointer (some ⟨b,1,none⟩)),.iface 147 (.pointer (some ⟨b,3,none⟩))]):=by
 obtain ⟨c0,-,-,-,-,-,-,-⟩:=hB.four
 clear hB
 go_enter func77,ntmps77
 go_wp2
 go_region
 go_wp2
 go_ret
 exact ⟨w.heap.size,rfl,Blk.new w _ _,Nat.le_refl _,((Below.refl _ _).alloc (Nat.le_refl _) _).drew⟩
set_option maxHeartbeats 400000 in
theorem uE (a n s:Value) (b:Nat) (w:World) (hB:Blk w b #[.int .i64 4,a,n,s] 50) :
 Calls prog 77 #[.pointer (some ⟨b,0,none⟩)] w (HasR w #[.iface 147 (.pointer (some ⟨b,3,none⟩))]):=by
 obtain ⟨c0,-,-,-,-,-,-,-⟩:=hB.four
 clear hB
 go_enter func77,ntmps77
 go_wp2
 go_region
 go_wp2
 go_ret
 exact ⟨w.heap.size,rfl,Blk.new w _ _,Nat.le_refl _,((Below.refl _ _).alloc (Nat.le_refl _) _).drew⟩
set_option maxHeartbeats 400000 in
theorem tN (k:Int) (hk:k<1∨4<k) (a n s:Value) (b:Nat) (w:World) (hB:Blk w b #[.int .i64 k,a,n,s] 50) :
 Calls prog 77 #[.pointer (some ⟨b,0,none⟩)] w fun e w'=>e=.returned (.slice none 0 0)∧w.drew=w':=by
 obtain ⟨c0,-,-,-,-,-,-,-⟩:=hB.four
 have k1:k≠1:=by omega
 have k2:k≠2:=by omega
 have k3:k≠3:=by omega
 have k4:k≠4:=by omega
 clear hB hk
 go_enter func77,ntmps77
 go_wp2
 go_region
 go_wp2
 go_ret
 exact ⟨rfl,rfl⟩
set_option linter.unusedSimpArgs false
structure Rt (w:World) (b g:Nat) (cs fs:Array Value) (wr:World):Prop where
 x:Blk wr b cs 50
 f:Blk wr g fs 125
 B:Below w.heap.size w wr
 ne:b<g
 lo:w.heap.size≤b
def Rt2 (p0 p1:Bool) (w:World) (b g:Nat) (fs c0 c1 c2:Array Value) (i:Value) (wr:World):Prop:=
 (i=.int .i64 0∧Rt w b g c0 fs wr)∨(i=.int .i64 1∧p0=true∧Rt w b g c1 fs wr)∨(i=.int .i64 2∧p0=true∧p1=true∧Rt w b g c2 fs wr)
theorem Rt.set {g:Nat} {cs fs:Array Value} {wr:World} (h:Rt w b g cs fs wr) (i:Nat) (u:Value):Rt w b g (cs.set! i u) fs (wr.setCell ⟨b,i,none⟩ u):=
 ⟨h.x.set i u,h.f.other _ (by have:=h.ne;show b≠g;omega) u,h.B.setCell h.lo u,h.ne,h.lo⟩
theorem Rt.on {g:Nat} {cs fs:Array Value} {wr w1:World} (h:Rt w b g cs fs wr) (hb:Below wr.heap.size wr w1):Rt w b g cs fs w1:=
 ⟨h.x.onto hb,h.f.onto hb,h.B.trans (hb.mono h.B.size),h.ne,h.lo⟩
theorem Blk.duo {x0 x1:Value} {t:TypeId} (h:Blk w b #[x0,x1] t):w.cell? ⟨b,0,none⟩=some x0∧w.cell? ⟨b,1,none⟩=some x1:=⟨h.cell 0 _ rfl,h.cell 1 _ rfl⟩
theorem Blk.lone {x0:Value} {t:TypeId} (h:Blk w b #[x0] t):w.cell? ⟨b,0,none⟩=some x0:=h.cell 0 _ rfl
theorem iV {w1:World} {g:Nat} {cs fs:Array Value} (hbx:Blk (w.alloc (.cells cs 50)) w.heap.size cs 50) (hg:Blk w1 g fs 125)
 (hgl:(w.alloc (.cells cs 50)).heap.size≤g) (hb1:Below (w.alloc (.cells cs 50)).heap.size (w.alloc (.cells cs 50)) w1):Rt w w.heap.size g cs fs w1:=
 ⟨hbx.onto hb1,hg,((Below.refl _ _).alloc (Nat.le_refl _) _).trans (hb1.mono (by simp)),by simp at hgl;omega,Nat.le_refl _⟩
set_option maxHeartbeats 1600000 in
theorem BP (a n:Int) (s:ByteArray) (hs:s.size≤maxLen) (w:World) :
 Calls prog 79 #[.agg #[.int .i64 1,.int .i64 a,.int .i64 n,.string s]] w fun e w'=>e=.returned (.bool (rightB 1 a n s.data.toList))∧Below w.heap.size w w':=by
 rw [right1,aX]
 have ab:=hid (Blk.new w #[.int .i64 1,.int .i64 a,.int .i64 n,.string s] 50)
 have HH:=hid (oS (.int .i64 a) (.int .i64 n) (.string s) w.heap.size _ ab.out)
 have he:=aD s
 have q0:=gR a
 obtain ⟨p0,e0⟩:∃ p,plB a=p:=⟨_,rfl⟩
 rw [e0] at q0 ⊢
 have Q0:=hid q0
 clear q0 e0
 have q1:=BW s hs
 obtain ⟨p1,e1⟩:∃ p,(decide (s.size≤512) && vldB s.data.toList)=p:=⟨_,rfl⟩
 rw [e1] at q1 ⊢
 have Q1:=hid q1
 clear q1 e1
 go_enter func79,ntmps79
 go_wp2_with fail
 refine HH.out.mono ?_
 rintro e w1 ⟨g,rfl,hg,hgl,ac⟩
 go_wp2
 have HT:=hid (iV ab.out hg hgl ac)
 clear ac hgl hg
 go_loopw [15] (fun i wr=>Rt2 p0 p1 w w.heap.size g #[.iface 143 (.pointer (some ⟨w.heap.size,1,none⟩)),.iface 145 (.pointer (some ⟨w.heap.size,3,none⟩))] #[.int .i64 1,.int .i64 a,.int .i64 n,.string s] #[.int .i64 1,.int .i64 0,.int .i64 n,.string s] #[.int .i64 1,.int .i64 0,.int .i64 n,.string ⟨#[]⟩] i wr) (fun i _=>2 - (intOf i).toNat)
 case atStart=>exact .inl ⟨rfl,HT.out⟩
 case round =>
  clear HT
  rcases hrel with ⟨rfl,ht⟩|⟨rfl,rfl,ht⟩|⟨rfl,rfl,rfl,ht⟩
  ·obtain ⟨g0,g1⟩:=ht.f.duo
   obtain ⟨x0,x1,x2,x3,y0,y1,y2,y3⟩:=ht.x.four
   have HT:=hid ht
   clear ht he
   go_wp2_with fail
   refine (Q0.out _ _ _ x1).mono ?_;rintro e w2 ⟨rfl,rfl⟩
   have aa:=hid HT.out
   clear HT
   cases p0
   ·go_wp2
    go_ret
    exact ⟨aA (by simp),aa.out.B⟩
   ·go_wp2_with fail
    refine (gL _ _ _ _ x1 y1).mono ?_;rintro e w3 ⟨rfl,rfl⟩
    go_wp2
    go_roundw
    case rel=>exact .inr (.inl ⟨by go_num,rfl,by simpa using aa.out.set 1 (.int .i64 0)⟩)
    case measure=>simp [intOf]
  ·obtain ⟨g0,g1⟩:=ht.f.duo
   obtain ⟨x0,x1,x2,x3,y0,y1,y2,y3⟩:=ht.x.four
   have HT:=hid ht
   clear ht he
   go_wp2_with fail
   refine (Q1.out _ _ _ x3).mono ?_;rintro e w2 ⟨rfl,ad⟩
   have aa:=hid (HT.out.on ad)
   clear HT ad g0 g1 x0 x1 x2 x3 y0 y1 y2 y3
   obtain ⟨g0,g1⟩:=aa.out.f.duo
   obtain ⟨x0,x1,x2,x3,y0,y1,y2,y3⟩:=aa.out.x.four
   cases p1
   ·go_wp2
    go_ret
    exact ⟨aA (by simp),aa.out.B⟩
   ·go_wp2_with fail
    refine (FG _ _ _ _ x3 y3).mono ?_;rintro e w3 ⟨rfl,rfl⟩
    go_wp2
    go_roundw
    case rel=>exact .inr (.inr ⟨by go_num,rfl,rfl,by simpa using aa.out.set 3 (.string ⟨#[]⟩)⟩)
    case measure=>simp [intOf]
  ·obtain ⟨x0,x1,x2,x3,y0,y1,y2,y3⟩:=ht.x.four
   have aa:=hid ht
   clear ht
   clear he
   by_cases n0:n=0
   ·subst n0
    go_wp2
    go_ret
    exact ⟨aA (by simp),aa.out.B⟩
   ·go_wp2
    go_ret
    exact ⟨aA (by simp [n0]),aa.out.B⟩
set_option maxHeartbeats 1600000 in
theorem DH (a n:Int) (s:ByteArray) (w:World) :
 Calls prog 79 #[.agg #[.int .i64 2,.int .i64 a,.int .i64 n,.string s]] w fun e w'=>e=.returned (.bool (rightB 2 a n s.data.toList))∧Below w.heap.size w w':=by
 rw [right2,aX]
 have ab:=hid (Blk.new w #[.int .i64 2,.int .i64 a,.int .i64 n,.string s] 50)
 have HH:=hid (lL (.int .i64 a) (.int .i64 n) (.string s) w.heap.size _ ab.out)
 have he:=aD s
 have q0:=gR a
 obtain ⟨p0,e0⟩:∃ p,plB a=p:=⟨_,rfl⟩
 rw [e0] at q0 ⊢
 have Q0:=hid q0
 clear q0 e0
 have q1:=gR n
 obtain ⟨p1,e1⟩:∃ p,plB n=p:=⟨_,rfl⟩
 rw [e1] at q1 ⊢
 have Q1:=hid q1
 clear q1 e1
 go_enter func79,ntmps79
 go_wp2_with fail
 refine HH.out.mono ?_
 rintro e w1 ⟨g,rfl,hg,hgl,ac⟩
 go_wp2
 have HT:=hid (iV ab.out hg hgl ac)
 clear ac hgl hg
 go_loopw [15] (fun i wr=>Rt2 p0 p1 w w.heap.size g #[.iface 143 (.pointer (some ⟨w.heap.size,1,none⟩)),.iface 143 (.pointer (some ⟨w.heap.size,2,none⟩))] #[.int .i64 2,.int .i64 a,.int .i64 n,.string s] #[.int .i64 2,.int .i64 0,.int .i64 n,.string s] #[.int .i64 2,.int .i64 0,.int .i64 0,.string s] i wr) (fun i _=>2 - (intOf i).toNat)
 case atStart=>exact .inl ⟨rfl,HT.out⟩
 case round =>
  clear HT
  rcases hrel with ⟨rfl,ht⟩|⟨rfl,rfl,ht⟩|⟨rfl,rfl,rfl,ht⟩
  ·obtain ⟨g0,g1⟩:=ht.f.duo
   obtain ⟨x0,x1,x2,x3,y0,y1,y2,y3⟩:=ht.x.four
   have HT:=hid ht
   clear ht he
   go_wp2_with fail
   refine (Q0.out _ _ _ x1).mono ?_;rintro e w2 ⟨rfl,rfl⟩
   have aa:=hid HT.out
   clear HT
   cases p0
   ·go_wp2
    go_ret
    exact ⟨aA (by simp),aa.out.B⟩
   ·go_wp2_with fail
    refine (gL _ _ _ _ x1 y1).mono ?_;rintro e w3 ⟨rfl,rfl⟩
    go_wp2
    go_roundw
    case rel=>exact .inr (.inl ⟨by go_num,rfl,by simpa using aa.out.set 1 (.int .i64 0)⟩)
    case measure=>simp [intOf]
  ·obtain ⟨g0,g1⟩:=ht.f.duo
   obtain ⟨x0,x1,x2,x3,y0,y1,y2,y3⟩:=ht.x.four
   have HT:=hid ht
   clear ht he
   go_wp2_with fail
   refine (Q1.out _ _ _ x2).mono ?_;rintro e w2 ⟨rfl,rfl⟩
   have aa:=hid HT.out
   clear HT
   cases p1
   ·go_wp2
    go_ret
    exact ⟨aA (by simp),aa.out.B⟩
   ·go_wp2_with fail
    refine (gL _ _ _ _ x2 y2).mono ?_;rintro e w3 ⟨rfl,rfl⟩
    go_wp2
    go_roundw
    case rel=>exact .inr (.inr ⟨by go_num,rfl,rfl,by simpa using aa.out.set 2 (.int .i64 0)⟩)
    case measure=>simp [intOf]
  ·obtain ⟨x0,x1,x2,x3,y0,y1,y2,y3⟩:=ht.x.four
   have aa:=hid ht
   clear ht
   by_cases hz:s.size=0
   ·rw [decide_eq_true hz] at he
    go_wp2
    go_ret
    exact ⟨aA (by simp [hz]),aa.out.B⟩
   ·rw [decide_eq_false hz] at he
    go_wp2
    go_ret
    exact ⟨aA (by simp [hz]),aa.out.B⟩
set_option maxHeartbeats 1600000 in
theorem vH (a n:Int) (s:ByteArray) (hs:s.size≤maxLen) (w:World) :
 Calls prog 79 #[.agg #[.int .i64 3,.int .i64 a,.int .i64 n,.string s]] w fun e w'=>e=.returned (.bool (rightB 3 a n s.data.toList))∧Below w.heap.size w w':=by
 rw [right3]
 have ab:=hid (Blk.new w #[.int .i64 3,.int .i64 a,.int .i64 n,.string s] 50)
 have HH:=hid (jS (.int .i64 a) (.int .i64 n) (.string s) w.heap.size _ ab.out)
 have he:=aD s
 have q0:=gR a
 obtain ⟨p0,e0⟩:∃ p,plB a=p:=⟨_,rfl⟩
 rw [e0] at q0 ⊢
 have Q0:=hid q0
 clear q0 e0
 have q1:=rO s hs
 obtain ⟨p1,e1⟩:∃ p,markB s.data.toList=p:=⟨_,rfl⟩
 rw [e1] at q1 ⊢
 have Q1:=hid q1
 clear q1 e1
 go_enter func79,ntmps79
 go_wp2_with fail
 refine HH.out.mono ?_
 rintro e w1 ⟨g,rfl,hg,hgl,ac⟩
 go_wp2
 have HT:=hid (iV ab.out hg hgl ac)
 clear ac hgl hg
 go_loopw [15] (fun i wr=>Rt2 p0 p1 w w.heap.size g #[.iface 143 (.pointer (some ⟨w.heap.size,1,none⟩)),.iface 147 (.pointer (some ⟨w.heap.size,3,none⟩))] #[.int .i64 3,.int .i64 a,.int .i64 n,.string s] #[.int .i64 3,.int .i64 0,.int .i64 n,.string s] #[.int .i64 3,.int .i64 0,.int .i64 n,.string ⟨#[]⟩] i wr) (fun i _=>2 - (intOf i).toNat)
 case atStart=>exact .inl ⟨rfl,HT.out⟩
 case round =>
  clear HT
  rcases hrel with ⟨rfl,ht⟩|⟨rfl,rfl,ht⟩|⟨rfl,rfl,rfl,ht⟩
  ·obtain ⟨g0,g1⟩:=ht.f.duo
   obtain ⟨x0,x1,x2,x3,y0,y1,y2,y3⟩:=ht.x.four
   have HT:=hid ht
   clear ht he
   go_wp2_with fail
   refine (Q0.out _ _ _ x1).mono ?_;rintro e w2 ⟨rfl,rfl⟩
   have aa:=hid HT.out
   clear HT
   cases p0
   ·go_wp2
    go_ret
    exact ⟨aA (by simp),aa.out.B⟩
   ·go_wp2_with fail
    refine (gL _ _ _ _ x1 y1).mono ?_;rintro e w3 ⟨rfl,rfl⟩
    go_wp2
    go_roundw
    case rel=>exact .inr (.inl ⟨by go_num,rfl,by simpa using aa.out.set 1 (.int .i64 0)⟩)
    case measure=>simp [intOf]
  ·obtain ⟨g0,g1⟩:=ht.f.duo
   obtain ⟨x0,x1,x2,x3,y0,y1,y2,y3⟩:=ht.x.four
   have HT:=hid ht
   clear ht he
   go_wp2_with fail
   refine (Q1.out _ _ _ x3).mono ?_;rintro e w2 ⟨rfl,rfl⟩
   have aa:=hid HT.out
   clear HT
   cases p1
   ·go_wp2
    go_ret
    exact ⟨aA (by simp),aa.out.B⟩
   ·go_wp2_with fail
    refine (pY _ _ _ _ x3 y3).mono ?_;rintro e w3 ⟨rfl,rfl⟩
    go_wp2
    go_roundw
    case rel=>exact .inr (.inr ⟨by go_num,rfl,rfl,by simpa using aa.out.set 3 (.string ⟨#[]⟩)⟩)
    case measure=>simp [intOf]
  ·obtain ⟨x0,x1,x2,x3,y0,y1,y2,y3⟩:=ht.x.four
   have aa:=hid ht
   clear ht
   clear he
   by_cases n0:n=0
   ·subst n0
    go_wp2
    go_ret
    exact ⟨aA (by simp),aa.out.B⟩
   ·go_wp2
    go_ret
    exact ⟨aA (by simp [n0]),aa.out.B⟩
set_option maxHeartbeats 1600000 in
theorem AH (a n:Int) (s:ByteArray) (hs:s.size≤maxLen) (w:World) :
 Calls prog 79 #[.agg #[.int .i64 4,.int .i64 a,.int .i64 n,.string s]] w fun e w'=>e=.returned (.bool (rightB 4 a n s.data.toList))∧Below w.heap.size w w':=by
 rw [right4]
 have ab:=hid (Blk.new w #[.int .i64 4,.int .i64 a,.int .i64 n,.string s] 50)
 have HH:=hid (uE (.int .i64 a) (.int .i64 n) (.string s) w.heap.size _ ab.out)
 have q0:=rO s hs
 obtain ⟨p0,e0⟩:∃ p,markB s.data.toList=p:=⟨_,rfl⟩
 rw [e0] at q0 ⊢
 have Q0:=hid q0
 clear q0 e0
 go_enter func79,ntmps79
 go_wp2_with fail
 refine HH.out.mono ?_
 rintro e w1 ⟨g,rfl,hg,hgl,ac⟩
 go_wp2
 have HT:=hid (iV ab.out hg hgl ac)
 clear ac hgl hg
 go_loopw [15] (fun i wr=>Rt2 p0 false w w.heap.size g #[.iface 147 (.pointer (some ⟨w.heap.size,3,none⟩))] #[.int .i64 4,.int .i64 a,.int .i64 n,.string s] #[.int .i64 4,.int .i64 a,.int .i64 n,.string ⟨#[]⟩] #[] i wr) (fun i _=>2 - (intOf i).toNat)
 case atStart=>exact .inl ⟨rfl,HT.out⟩
 case round =>
  clear HT
  rcases hrel with ⟨rfl,ht⟩|⟨rfl,rfl,ht⟩|⟨rfl,rfl,hz,ht⟩
  ·have g0:=ht.f.lone
   obtain ⟨x0,x1,x2,x3,y0,y1,y2,y3⟩:=ht.x.four
   have HT:=hid ht
   clear ht
   go_wp2_with fail
   refine (Q0.out _ _ _ x3).mono ?_;rintro e w2 ⟨rfl,rfl⟩
   have aa:=hid HT.out
   clear HT
   cases p0
   ·go_wp2
    go_ret
    exact ⟨aA (by simp),aa.out.B⟩
   ·go_wp2_with fail
    refine (pY _ _ _ _ x3 y3).mono ?_;rintro e w3 ⟨rfl,rfl⟩
    go_wp2
    go_roundw
    case rel=>exact .inr (.inl ⟨by go_num,rfl,by simpa using aa.out.set 3 (.string ⟨#[]⟩)⟩)
    case measure=>simp [intOf]
  ·obtain ⟨x0,x1,x2,x3,y0,y1,y2,y3⟩:=ht.x.four
   have aa:=hid ht
   clear ht
   by_cases a0:a=0
   ·subst a0
    by_cases n0:n=0
    ·subst n0
     go_wp2
     go_ret
     exact ⟨aA (by simp),aa.out.B⟩
    ·go_wp2
     go_ret
     exact ⟨aA (by simp [n0]),aa.out.B⟩
   ·go_wp2
    go_ret
    exact ⟨aA (by simp [a0]),aa.out.B⟩
  ·cases hz
set_option maxHeartbeats 1600000 in
theorem zG (k a n:Int) (hk:5≤k) (hk2:k≤8) (s:ByteArray) (w:World) :
 Calls prog 79 #[.agg #[.int .i64 k,.int .i64 a,.int .i64 n,.string s]] w fun e w'=>e=.returned (.bool (rightB k a n s.data.toList))∧Below w.heap.size w w':=by
 rw [right5 hk hk2,aX]
 have aa:=hid (Blk.new w #[.int .i64 k,.int .i64 a,.int .i64 n,.string s] 50)
 have HH:=hid (tN k (.inr (by omega)) (.int .i64 a) (.int .i64 n) (.string s) w.heap.size _ aa.out)
 have he:=aD s
 have HB:=hid (show Below w.heap.size w (w.alloc (.cells #[.int .i64 k,.int .i64 a,.int .i64 n,.string s] 50)).drew from ((Below.refl _ _).alloc (Nat.le_refl _) _).drew)
 have k1:1≤k:=by omega
 clear hk
 go_enter func79,ntmps79
 go_wp2_with fail
 refine HH.out.mono ?_
 rintro e w1 ⟨rfl,rfl⟩
 go_wp2
 go_loopw [15] (fun i wr=>i=.int .i64 0∧wr=(w.alloc (.cells #[.int .i64 k,.int .i64 a,.int .i64 n,.string s] 50)).drew) (fun _ _=>0)
 case atStart=>exact ⟨rfl,rfl⟩
 case round =>
  obtain ⟨rfl,rfl⟩:=hrel
  by_cases a0:a=0
  ·subst a0
   by_cases n0:n=0
   ·subst n0
    by_cases hz:s.size=0
    ·rw [decide_eq_true hz] at he
     go_wp2
     go_ret
     exact ⟨aA (by simp [hz]),HB.out⟩
    ·rw [decide_eq_false hz] at he
     go_wp2
     go_ret
     exact ⟨aA (by simp [hz]),HB.out⟩
   ·clear he
    go_wp2
    go_ret
    exact ⟨aA (by simp [n0]),HB.out⟩
  ·clear he
   go_wp2
   go_ret
   exact ⟨aA (by simp [a0]),HB.out⟩
theorem KD (k a n:Int) (hk:k<1∨8<k) (s:ByteArray) (w:World) :
 Calls prog 79 #[.agg #[.int .i64 k,.int .i64 a,.int .i64 n,.string s]] w fun e w'=>e=.returned (.bool (rightB k a n s.data.toList))∧Below w.heap.size w w':=by
 rw [eS hk]
 by_cases k1:k<1
 ·go_enter func79,ntmps79
  go_wp2
  go_ret
  exact ⟨rfl,(Below.refl _ _).alloc (Nat.le_refl _) _⟩
 ·have k8:8<k:=by omega
  go_enter func79,ntmps79
  go_wp2
  go_ret
  exact ⟨rfl,(Below.refl _ _).alloc (Nat.le_refl _) _⟩
theorem dA (k a n:Int) (s:ByteArray) (hs:s.size≤maxLen) (w:World) :
 Calls prog 79 #[.agg #[.int .i64 k,.int .i64 a,.int .i64 n,.string s]] w fun e w'=>e=.returned (.bool (rightB k a n s.data.toList))∧Below w.heap.size w w':=by
 rcases opKinds k with rfl|rfl|rfl|rfl|g|g
 ·exact BP a n s hs w
 ·exact DH a n s w
 ·exact vH a n s hs w
 ·exact AH a n s hs w
 ·exact zG k a n g.1 g.2 s w
 ·exact KD k a n g s w
end Go.Proofs.YtbagenpobcgjnaaGreat
