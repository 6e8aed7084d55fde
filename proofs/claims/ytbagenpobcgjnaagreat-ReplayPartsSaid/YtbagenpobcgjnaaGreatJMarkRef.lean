/-
  Joined: MarkRef, KnotRef, ChunkGoto, MrkCat.
-/
import Derived.Test.YtbagenpobcgjnaaGreatJMarkMath
import Derived.Test.YtbagenpobcgjnaaGreatJOpRef
import Derived.BigQuiet
import Derived.Deep.DeepCutAuto
import Derived.Deep.QuietTactic
import Derived.WalkLawsBesides
import Derived.Test.YtbagenpobcgjnaaGreatJOpenOps
import Derived.Test.YtbagenpobcgjnaaGreatJStrs
import Derived.Test.YtbagenpobcgjnaaGreatJChunkRef
import Derived.Laws.MakeOwn
import Derived.Lib.MinMax
import Derived.Test.YtbagenpobcgjnaaGreatJChunkCut
import Derived.WalkMore
import Derived.ScopeJumps
import Derived.Test.YtbagenpobcgjnaaGreatMrkShelf
import Derived.Laws.OwnMore
import Derived.Laws.AppendOwnNone
namespace Go.Proofs.YtbagenpobcgjnaaGreat
open Go.Proofs.Tryz
set_option maxRecDepth 100000
open Lib (hid)
open Go.RowKit
set_option linter.unusedVariables false
set_option maxHeartbeats 400000 in
theorem QC (a:Option Addr) (l:List Mrk) (c:Nat) (s:ByteArray) (B:Nat→Prop) (w:World) (hr:Mrks w B a l) (hl:l.length≤1000000) :
 Calls prog 74 #[.slice a l.length c,.string s] w fun e w'=>e=.returned (.tuple #[.int .i64 (fndM l s).1,.bool (fndM l s).2])∧w=w':=by
 obtain ⟨n,hn⟩:∃ n,l.length=n:=⟨_,rfl⟩
 rw [hn] at hl ⊢
 have HN:=hid hn;have HR:=hid hr
 clear hn hr
 obtain ⟨r,hfr⟩:∃ r,fndM l s=r:=⟨_,rfl⟩
 rw [hfr]
 have HF:=hid hfr;clear hfr
 go_enter func74,ntmps74
 go_wp2
 go_loop [6] (fun i=>∃ k:Nat,k≤n∧i=.int .i64 k∧∀ j,j<k→nmB s l[j]! = false) (fun i=>n - (intOf i).toNat)
 case atStart=>exact ⟨0,Nat.zero_le _,rfl,fun j hj=>absurd hj (Nat.not_lt_zero _)⟩
 case round =>
  obtain ⟨k,hk,rfl,hnone⟩:=hrel
  by_cases hlt:k<n
  ·have hkl:k<l.length:=by rw [HN.out];exact hlt
   obtain ⟨ad,rfl,hab,q0,q1⟩:=HR.out k hkl
   have hs:=MT (s:=s) hkl hnone
   have ht:¬ (l[k]!).name=s→nmB s l[k]! = false:=fun h=>by unfold nmB;exact decide_eq_false h
   have hx:=mget hkl
   rw [← hx] at q0 q1
   obtain ⟨x,hx⟩:∃ x,l[k]! = x:=⟨_,rfl⟩
   rw [hx] at q0 q1 hs ht
   obtain ⟨nm,id⟩:=x
   simp only at q0 q1 hs ht
   have b0:(0:Int)≤(k:Int):=by omega
   have b1:(k:Int)<(n:Int):=by omega
   by_cases he:nm=s
   ·subst he
    have aa:=hs rfl
    rw [HF.out] at aa
    subst aa
    clear ht hs hnone hx
    go_wp2
    go_ret2
    exact ⟨rfl,rfl⟩
   ·have hne:=eT he
    have HT:=hid (iX hnone (by rw [hx];exact ht he))
    clear ht hs hnone he hx
    go_wp2
    go_round
    case rel=>exact ⟨k+1,by omega,by go_num,HT.out⟩
    case measure=>simp [intOf];omega
  ·obtain rfl:k=n:=by omega
   have h0:r=(0,false):=by
    rw [← HF.out]
    exact OY (by rw [HN.out];exact hnone)
   subst h0
   clear hnone
   go_wp2
   go_ret2
   exact ⟨rfl,rfl⟩
set_option maxHeartbeats 800000 in
theorem vR (a b:Option Addr) (la lb:List Mrk) (c d:Nat) (Ba Bb:Nat→Prop) (w:World) (ha:Mrks w Ba a la) (hb:Mrks w Bb b lb) (hA:∀ b,Ba b→b<w.heap.size) (hB:∀ b,Bb b→b<w.heap.size) (hl:la.length≤1000000) (hl2:lb.length≤1000000) :
 Calls prog 23 #[.slice a la.length c,.slice b lb.length d] w fun e w'=>e=.returned (.bool (decide (la=lb)))∧Below w.heap.size w w':=by
 by_cases hne:la.length=lb.length
 case neg =>
  have h0:decide (la=lb)=false:=decide_eq_false fun e=>hne (by rw [e])
  rw [h0]
  obtain ⟨n,hn⟩:∃ n,la.length=n:=⟨_,rfl⟩
  obtain ⟨m,hm⟩:∃ n,lb.length=n:=⟨_,rfl⟩
  rw [hn] at hl hne ⊢
  rw [hm] at hl2 hne ⊢
  clear hn hm ha hb
  have ac:¬ (n:Int)=(m:Int):=by omega
  go_enter func23,ntmps23
  go_wp2
  go_ret
  exact ⟨rfl,Below.refl _ _⟩
 obtain ⟨n,hn⟩:∃ n,la.length=n:=⟨_,rfl⟩
 rw [← hne,hn]
 rw [hn] at hl
 have HN:=hid hn;have HR:=hid ha;have HS:=hid hb;have HE:=hid hne
 clear hn ha hb hl2 hne
 obtain ⟨r,hfr⟩:∃ r,decide (la=lb)=r:=⟨_,rfl⟩
 rw [hfr]
 have HF:=hid hfr;clear hfr
 go_enter func23,ntmps23
 go_wp2
 go_loopw [5] (fun i wr=>∃ k:Nat,k≤n∧i=.int .i64 k∧(∀ j,j<k→la[j]! = lb[j]!)∧Below w.heap.size w wr) (fun i _=>n - (intOf i).toNat)
 case atStart=>exact ⟨0,Nat.zero_le _,rfl,fun j hj=>absurd hj (Nat.not_lt_zero _),Below.refl _ _⟩
 case round =>
  obtain ⟨k,hk,rfl,hall,hbel⟩:=hrel
  by_cases hlt:k<n
  ·have hkl:k<la.length:=by rw [HN.out];exact hlt
   have aa:k<lb.length:=by rw [← HE.out];exact hkl
   obtain ⟨ad,rfl,hab,q0,q1⟩:=(HR.out.below hA hbel) k hkl
   obtain ⟨bd,rfl,hbb,r0,r1⟩:=(HS.out.below hB hbel) k aa
   rw [← mget hkl] at q0 q1
   rw [← mget aa] at r0 r1
   have hyes:=EM (a:=la) (b:=lb) hall
   have hno:¬ la[k]! = lb[k]! → decide (la=lb)=false:=fun h=>decide_eq_false fun e=>h (by rw [e])
   obtain ⟨x,hx⟩:∃ x,la[k]! = x:=⟨_,rfl⟩
   obtain ⟨y,hy⟩:∃ x,lb[k]! = x:=⟨_,rfl⟩
   rw [hx] at q0 q1 hyes hno
   rw [hy] at r0 r1 hyes hno
   clear hall hx hy
   have b0:(0:Int)≤(k:Int):=by omega
   have b1:(k:Int)<(n:Int):=by omega
   by_cases he:x=y
   ·subst he
    have HY:=hid (hyes rfl)
    obtain ⟨nm,id⟩:=x
    simp only at q0 q1 r0 r1
    clear hyes hno
    go_wp2_with fail
    go_quiet (fail)
    have ab:=aN hbel nq
    clear hbel q0 q1 r0 r1
    generalize wr.drewN nq=wx at ab ⊢
    go_wp2
    go_roundw
    case rel=>exact ⟨k+1,by omega,by go_num,HY.out,ab⟩
    case measure=>simp [intOf];omega
   ·have h0:=hno he
    rw [HF.out] at h0
    subst h0
    have hp:=PY he
    obtain ⟨nm,id⟩:=x
    obtain ⟨nm2,id2⟩:=y
    simp only at q0 q1 r0 r1 hp
    clear hyes hno he
    rcases hp with g|⟨rfl,g⟩
    ·have g1:=eT g
     clear g
     go_wp2_with fail
     go_quiet (fail)
     go_wp2
     go_ret
     exact ⟨rfl,aN hbel _⟩
    ·have g1:(id == id2)=false:=beq_eq_false_iff_ne.2 g
     go_wp2_with fail
     go_quiet (fail)
     go_wp2
     go_ret
     exact ⟨rfl,aN hbel _⟩
  ·obtain rfl:k=n:=by omega
   have h0:r=true:=by
    rw [← HF.out]
    exact decide_eq_true (LZ HE.out (by rw [HN.out];exact hall))
   subst h0
   clear hall
   go_wp2
   go_ret
   exact ⟨rfl,hbel⟩
theorem eH (v:Value) (h:v.oneCell'=true):∀ u∈[v],u.oneCell'=true:=by intro u hu;simp at hu;subst hu;exact h
theorem DQ (n:Nat):gcount n≤n:=by
 rcases Nat.lt_or_ge 1 n with h|h
 ·have:=gW n (by omega);omega
 ·rcases Nat.lt_or_ge 0 n with g|g
  ·obtain rfl:n=1:=by omega
   rw [eZ (by decide),show (1:Nat) - gsz 1=0 from rfl,eJ]
   exact Nat.le_refl _
  ·obtain rfl:n=0:=by omega
   rw [eJ];exact Nat.le_refl _
def leftOf:Value→Nat | .string x=>x.size|_=>0
def AtNext (s:ByteArray) (w:World) (a:Act) (wr:World):Prop:=
 ∃ (cur:ByteArray) (L:List ByteArray) (v u1 u4 u5 u6 u7 u8 u9 u10 u11 u12 u13 u14 u15 u16 u17 u18 u19 u20 u21 u22 u23 u24 u25 u26 u27 u28:Value),
  a={ tmps:=#[.string cur,u1,.slice none 0 0,v,u4,u5,u6,u7,u8,u9,u10,u11,u12,u13,u14,u15,u16,u17,u18,u19,u20,u21,u22,u23,u24,u25,u26,u27,u28],defers:=[] }∧CutI s w cur L v wr
set_option maxHeartbeats 1600000 in
theorem NK (s:ByteArray) (hs:s.size≤1000000) (w:World) :
 Calls prog 171 #[.string s] w (RetCut s w):=by
 obtain ⟨i0,hi,ad,ae,af⟩:=info_parts mG
 have hv:=dB s (by unfold maxLen;omega)
 by_cases hb:vldB s.data.toList=true
 ·rw [hb] at hv
  have HV:=hid hv;have ac:=hid ((bC _).1 hb)
  clear hv hb
  go_enter func171,ntmps171
  go_wp2
  refine wp_scope_jumps 0 (AtNext s w) (fun a' _=>leftOf (a'.tmps.getD 0 undef)) rfl ?_ ?_
  ·go_wp2_with fail
   refine (HV.out _).mono ?_;rintro e w1 ⟨rfl,ag⟩
   have hc:=CutI.start ac.out ag
   clear ag
   go_wp2_with fail
   go_step3
   have hlen:=hc.len
   by_cases h16:16<s.size
   ·have hb:=iK s (by unfold maxLen;omega) 16
    have e:backI s.data.toList 16=cutN s:=by
     rw [show (16:Int)=((16:Nat):Int) from rfl,jO _ _ (by simp;omega)]
     rfl
    rw [e] at hb
    have cs:=iO s (by omega)
    have hn:=iE s
    have ah:=lQ s hc.val h16
    have aa:=hid (fun v' w2=>@CutI.step s s w w1 w2 ([]:List ByteArray) (.slice none 0 0) v' hc h16)
    obtain ⟨n,hnn⟩:∃ n,cutN s=n:=⟨_,rfl⟩
    rw [hnn] at hb hn ah aa
    obtain ⟨N,hN⟩:∃ N,([]:List ByteArray).length=N:=⟨_,rfl⟩
    have hown:=hc.own
    rw [hN] at aa hlen hown
    have HC:=hid hc;have HB:=hid hb;have CS:=hid cs
    have hsz:w.heap.size≤w1.heap.size:=hc.bel.size
    have i16:(16:Int)<(s.size:Int):=by omega
    have h3:n≤s.size:=by omega
    clear hb hnn e hc hN cs
    go_wp2_with fail
    refine (CS.out _).mono ?_;rintro e w' ⟨rfl,rfl⟩
    go_wp2_with fail
    refine (HB.out _).mono ?_;rintro e w' ⟨rfl,rfl⟩
    go_wp2_with (at_builtin;refine wpList_append_own _ rfl _ _ 159 rfl w.heap.size 9 i0 _ 1 16 underlying159 hi ad ae af rfl (by decide) _ _ _ rfl (hown.alloc _) ⟨w1.heap.size,0,none⟩ 1 1 [.string (s.extract 0 n)] rfl rfl (bP _ _ _) (by intro u hu;simp at hu;subst hu;rfl) (by unfold maxLen;omega) (by omega) (Nat.le_trans hsz (by simp)) ?_;intro v' w2 hown' hgrow _)
    have ab:Below w.heap.size w w2:=(HC.out.bel.alloc hsz _).grown hgrow (Nat.le_trans hsz (by simp)) (aM hown)
    have HN:=hid (aa.out v' w2 hown' ab)
    have HZ:=hid (show (s.extract n s.size).size<s.size by simp;omega)
    clear hown' hgrow hown ab
    go_wp2
    go_step3
    exact ⟨rfl,⟨_,_,_,_,_,_,_,_,_,_,_,_,_,_,_,_,_,_,_,_,_,_,_,_,_,_,_,_,_,rfl,HN.out⟩⟩
   ·by_cases h0:s.size=0
    ·obtain rfl:=kK h0
     have HR:=hid (hc.none ac.out h0)
     have CS:=hid (dR _ (show (⟨#[]⟩:ByteArray).size≤16 by decide))
     clear hc hlen h16 h0
     go_wp2_with fail
     refine (CS.out _).mono ?_;rintro e w' ⟨rfl,rfl⟩
     go_wp2
     simp only [Exit.jump]
     go_ret
     exact HR.out
    ·have t1:=jY (s:=s) (by omega)
     have t2:=eB (s:=s) (by omega)
     have CS:=hid (dR s (by omega))
     have aa:=hid (fun v' w2=>@CutI.last s s w w1 w2 ([]:List ByteArray) (.slice none 0 0) v' ac.out hc (by omega) (by omega))
     obtain ⟨N,hN⟩:∃ N,([]:List ByteArray).length=N:=⟨_,rfl⟩
     have hown:=hc.own
     rw [hN] at aa hlen hown
     have HC:=hid hc
     have hsz:w.heap.size≤w1.heap.size:=hc.bel.size
     clear hc hN h0
     go_wp2_with fail
     refine (CS.out _).mono ?_;rintro e w' ⟨rfl,rfl⟩
     go_wp2_with (at_builtin;refine wpList_append_own _ rfl _ _ 159 rfl w.heap.size 9 i0 _ 1 16 underlying159 hi ad ae af rfl (by decide) _ _ _ rfl (hown.alloc _) ⟨w1.heap.size,0,none⟩ 1 1 [.string s] rfl rfl (bP _ _ _) (by intro u hu;simp at hu;subst hu;rfl) (by unfold maxLen;omega) (by omega) (Nat.le_trans hsz (by simp)) ?_;intro v' w2 hown' hgrow _)
     have ab:Below w.heap.size w w2:=(HC.out.bel.alloc hsz _).grown hgrow (Nat.le_trans hsz (by simp)) (aM hown)
     have HR:=hid (aa.out v' w2 hown' ab)
     clear hown' hgrow hown ab
     go_wp2
     simp only [Exit.jump]
     go_ret
     exact HR.out
  ·rintro a' wr ⟨cur,L,v,u1,u4,u5,u6,u7,u8,u9,u10,u11,u12,u13,u14,u15,u16,u17,u18,u19,u20,u21,u22,u23,u24,u25,u26,u27,u28,rfl,hc⟩
   have hlen:=hc.len
   by_cases h16:16<cur.size
   ·have hb:=iK cur (by unfold maxLen;omega) 16
    have e:backI cur.data.toList 16=cutN cur:=by
     rw [show (16:Int)=((16:Nat):Int) from rfl,jO _ _ (by simp;omega)]
     rfl
    rw [e] at hb
    have cs:=iO cur (by omega)
    have hn:=iE cur
    have ah:=lQ cur hc.val h16
    have aa:=hid (fun v' w2=>@CutI.step s cur w wr w2 L v v' hc h16)
    obtain ⟨n,hnn⟩:∃ n,cutN cur=n:=⟨_,rfl⟩
    rw [hnn] at hb hn ah aa
    obtain ⟨N,hN⟩:∃ N,L.length=N:=⟨_,rfl⟩
    have hown:=hc.own
    rw [hN] at aa hlen hown
    have HC:=hid hc;have HB:=hid hb;have CS:=hid cs
    have hsz:w.heap.size≤wr.heap.size:=hc.bel.size
    have i16:(16:Int)<(cur.size:Int):=by omega
    have h3:n≤cur.size:=by omega
    clear hb hnn e hc hN cs
    go_wp2_with fail
    refine (CS.out _).mono ?_;rintro e w' ⟨rfl,rfl⟩
    go_wp2_with fail
    refine (HB.out _).mono ?_;rintro e w' ⟨rfl,rfl⟩
    go_wp2_with (at_builtin;refine wpList_append_own _ rfl _ _ 159 rfl w.heap.size 9 i0 _ 1 16 underlying159 hi ad ae af rfl (by decide) _ _ _ rfl (hown.alloc _) ⟨wr.heap.size,0,none⟩ 1 1 [.string (cur.extract 0 n)] rfl rfl (bP _ _ _) (by intro u hu;simp at hu;subst hu;rfl) (by unfold maxLen;omega) (by omega) (Nat.le_trans hsz (by simp)) ?_;intro v' w2 hown' hgrow _)
    have ab:Below w.heap.size w w2:=(HC.out.bel.alloc hsz _).grown hgrow (Nat.le_trans hsz (by simp)) (aM hown)
    have HN:=hid (aa.out v' w2 hown' ab)
    have HZ:=hid (show (cur.extract n cur.size).size<cur.size by simp;omega)
    clear hown' hgrow hown ab
    go_wp2
    go_step3
    exact ⟨rfl,⟨_,_,_,_,_,_,_,_,_,_,_,_,_,_,_,_,_,_,_,_,_,_,_,_,_,_,_,_,_,rfl,HN.out⟩,HZ.out⟩
   ·by_cases h0:cur.size=0
    ·obtain rfl:=kK h0
     have HR:=hid (hc.none ac.out h0)
     have CS:=hid (dR _ (show (⟨#[]⟩:ByteArray).size≤16 by decide))
     clear hc hlen h16 h0
     go_wp2_with fail
     refine (CS.out _).mono ?_;rintro e w' ⟨rfl,rfl⟩
     go_wp2
     simp only [Exit.jump]
     go_ret
     exact HR.out
    ·have t1:=jY (s:=cur) (by omega)
     have t2:=eB (s:=cur) (by omega)
     have CS:=hid (dR cur (by omega))
     have aa:=hid (fun v' w2=>@CutI.last s cur w wr w2 L v v' ac.out hc (by omega) (by omega))
     obtain ⟨N,hN⟩:∃ N,L.length=N:=⟨_,rfl⟩
     have hown:=hc.own
     rw [hN] at aa hlen hown
     have HC:=hid hc
     have hsz:w.heap.size≤wr.heap.size:=hc.bel.size
     clear hc hN h0
     go_wp2_with fail
     refine (CS.out _).mono ?_;rintro e w' ⟨rfl,rfl⟩
     go_wp2_with (at_builtin;refine wpList_append_own _ rfl _ _ 159 rfl w.heap.size 9 i0 _ 1 16 underlying159 hi ad ae af rfl (by decide) _ _ _ rfl (hown.alloc _) ⟨wr.heap.size,0,none⟩ 1 1 [.string cur] rfl rfl (bP _ _ _) (by intro u hu;simp at hu;subst hu;rfl) (by unfold maxLen;omega) (by omega) (Nat.le_trans hsz (by simp)) ?_;intro v' w2 hown' hgrow _)
     have ab:Below w.heap.size w w2:=(HC.out.bel.alloc hsz _).grown hgrow (Nat.le_trans hsz (by simp)) (aM hown)
     have HR:=hid (aa.out v' w2 hown' ab)
     clear hown' hgrow hown ab
     go_wp2
     simp only [Exit.jump]
     go_ret
     exact HR.out
 ·have ai:¬ vld s.data.toList:=fun h=>hb ((bC _).2 h)
  rw [Bool.eq_false_iff.2 hb] at hv
  have HV:=hid hv;have aj:=hid ai
  clear hv hb ai
  go_enter func171,ntmps171
  go_wp2
  go_step3
  go_wp2_with fail
  refine (HV.out _).mono ?_;rintro e w1 ⟨rfl,ag⟩
  go_wp2
  (try rw [Exit.noGoto_ret])
  go_ret
  exact BD aj.out ag
end Go.Proofs.YtbagenpobcgjnaaGreat
namespace Go.Proofs.YtbagenpobcgjnaaGreat
open Go.Proofs.Tryz
open Lib (hid)
open Go.Shelf Go.RowKit
set_option linter.unusedVariables false
set_option maxHeartbeats 1000000 in
theorem vU (ad:Addr) (l:List Mrk) (c:Nat) (w:World) (hr:Mrks w (·<w.heap.size) (some ad) l) (hl:l.length≤1000000) :
 Calls prog 91 #[.slice (some ad) l.length c] w fun e w'=>∃ v,e=.returned v∧w'.ownsRow w.heap.size 90 2 v l.length (Mrk.flat l)∧v≠.slice none 0 0∧Below w.heap.size w w':=by
 obtain ⟨i0,hi,ae,af,ag⟩:=info_parts iJ
 have q22:∀ (w:World) (a:Option Addr) (n c n' c':Nat),(binOp .eql 22 (.slice a n c) (.slice none n' c')).run prog w=.ok (.bool a.isNone) w:=fun w a n c n' c'=>Lib.run_eql_slice_nil w _ _ a n c n' c' underlying22
 have ab:=hid (yM hr);have aa:=hid (Mrk.flat_len l);have ac:=hid (FF l)
 obtain ⟨n,hn⟩:∃ n,l.length=n:=⟨_,rfl⟩
 rw [hn] at hl aa ⊢
 obtain ⟨F,hF⟩:∃ F,Mrk.flat l=F:=⟨_,rfl⟩
 rw [hF] at ab aa ac ⊢
 clear hr hn hF
 go_enter func91,ntmps91
 go_wp2_with (at_builtin;refine wpList_append_own _ rfl _ _ 22 rfl w.heap.size 90 i0 _ 2 24 underlying22 hi ae af ag rfl (by decide) _ _ _ rfl (World.ownsRow_made w #[] 0 (Nat.le_refl _) (Nat.zero_le _) (by simp)) ad n c F rfl aa.out (fun j u hj=>Lib.cell?_alloc_some _ (ab.out j u hj)) ac.out (by unfold maxLen;omega) (by omega) (by simp) ?_)
 intro v' w1 hown hgrow hnil
 go_wp2
 go_ret
 refine ⟨v',rfl,by simpa using hown,?_,?_⟩
 ·exact hnil
 ·exact ((Below.refl _ w).alloc (Nat.le_refl _) _).grown hgrow (by simp) (by intro k hk;simp [Value.ownBlock] at hk;omega)
theorem vT (w:World):Calls prog 91 #[.slice none 0 0] w fun e w'=>e=.returned (.slice none 0 0)∧w'=w:=by
 have h:=AnyE.slices_Clone_nil Tryz.mkCloneM 0 0 w
 change Calls prog 91 _ _ _ at h
 exact h
end Go.Proofs.YtbagenpobcgjnaaGreat
