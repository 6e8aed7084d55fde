/-
  Joined: KnotRef, ChunkGoto, MrkCat.
-/
import Derived.Test.YtbagenpobcgjnaaGreatJOpRef
import Derived.Test.YtbagenpobcgjnaaGreatJStrs
import Derived.Test.YtbagenpobcgjnaaGreatJChunkRef
import Derived.Laws.MakeOwn
import Derived.Lib.MinMax
import Derived.Test.YtbagenpobcgjnaaGreatJEditCat
import Derived.WalkMore
import Derived.ScopeJumps
import Derived.Test.YtbagenpobcgjnaaGreatJMarkMath
import Derived.Test.YtbagenpobcgjnaaGreatMrkShelf
import Derived.Laws.OwnMore
import Derived.Laws.AppendOwnNone
namespace Go.Proofs.YtbagenpobcgjnaaGreat
open Go.RowKit
set_option linter.unusedVariables false
theorem eI (v:Value) (h:v.oneCell'=true):∀ u∈[v],u.oneCell'=true:=by intro u hu;simp at hu;subst hu;exact h
theorem EM (n:Nat):gcount n≤n:=by
 rcases Nat.lt_or_ge 1 n with h|h
 ·have:=iJ n (by omega);omega
 ·rcases Nat.lt_or_ge 0 n with g|g
  ·obtain rfl:n=1:=by omega
   rw [fS (by decide),show (1:Nat) - gsz 1=0 from rfl,eU]
   exact Nat.le_refl _
  ·obtain rfl:n=0:=by omega
   rw [eU];exact Nat.le_refl _
open Go.Proofs.Tryz
set_option maxRecDepth 100000
open Lib (hid)
def leftOf:Value→Nat | .string x=>x.size|_=>0
def AtNext (s:ByteArray) (w:World) (a:Act) (wr:World):Prop:=
 ∃ (cur:ByteArray) (L:List ByteArray) (v u1 u4 u5 u6 u7 u8 u9 u10 u11 u12 u13 u14 u15 u16 u17 u18 u19 u20 u21 u22 u23 u24 u25 u26 u27 u28:Value),
  a={ tmps:=#[.string cur,u1,.slice none 0 0,v,u4,u5,u6,u7,u8,u9,u10,u11,u12,u13,u14,u15,u16,u17,u18,u19,u20,u21,u22,u23,u24,u25,u26,u27,u28],defers:=[] }∧CutI s w cur L v wr
set_option maxHeartbeats 1600000 in
theorem NM (s:ByteArray) (hs:s.size≤1000000) (w:World) :
 Calls prog 171 #[.string s] w (RetCut s w):=by
 obtain ⟨i0,hi,ad,ae,af⟩:=info_parts nD
 have hv:=dU s (by unfold maxLen;omega)
 by_cases hb:vldB s.data.toList=true
 ·rw [hb] at hv
  have HV:=hid hv;have ac:=hid ((bC _).1 hb)
  clear hv hb
  go_enter func171,ntmps171
  go_wp2
  refine wp_scope_jumps 0 (AtNext s w) (fun a' _=>leftOf (a'.tmps.getD 0 undef)) rfl ?_ ?_
  ·go_wp2_with fail
   refine (HV.out _).mono ?_;rintro e w1 ⟨rfl,ag⟩
   have hc:=CutI.start ac.out ag
   clear ag
   go_wp2_with fail
   go_step3
   have hlen:=hc.len
   by_cases h16:16<s.size
   ·have hb:=jX s (by unfold maxLen;omega) 16
    have e:backI s.data.toList 16=cutN s:=by
     rw [show (16:Int)=((16:Nat):Int) from rfl,kU _ _ (by simp;omega)]
     rfl
    rw [e] at hb
    have cs:=jI s (by omega)
    have hn:=iO s
    have ah:=mI s hc.val h16
    have aa:=hid (fun v' w2=>@CutI.step s s w w1 w2 ([]:List ByteArray) (.slice none 0 0) v' hc h16)
    obtain ⟨n,hnn⟩:∃ n,cutN s=n:=⟨_,rfl⟩
    rw [hnn] at hb hn ah aa
    obtain ⟨N,hN⟩:∃ N,([]:List ByteArray).length=N:=⟨_,rfl⟩
    have hown:=hc.own
    rw [hN] at aa hlen hown
    have HC:=hid hc;have HB:=hid hb;have CS:=hid cs
    have hsz:w.heap.size≤w1.heap.size:=hc.bel.size
    have i16:(16:Int)<(s.size:Int):=by omega
    have h3:n≤s.size:=by omega
    clear hb hnn e hc hN cs
    go_wp2_with fail
    refine (CS.out _).mono ?_;rintro e w' ⟨rfl,rfl⟩
    go_wp2_with fail
    refine (HB.out _).mono ?_;rintro e w' ⟨rfl,rfl⟩
    go_wp2_with (at_builtin;refine wpList_append_own _ rfl _ _ 159 rfl w.heap.size 9 i0 _ 1 16 underlying159 hi ad ae af rfl (by decide) _ _ _ rfl (hown.alloc _) ⟨w1.heap.size,0,none⟩ 1 1 [.string (s.extract 0 n)] rfl rfl (bV _ _ _) (by intro u hu;simp at hu;subst hu;rfl) (by unfold maxLen;omega) (by omega) (Nat.le_trans hsz (by simp)) ?_;intro v' w2 hown' hgrow _)
    have ab:Below w.heap.size w w2:=(HC.out.bel.alloc hsz _).grown hgrow (Nat.le_trans hsz (by simp)) (aA hown)
    have HN:=hid (aa.out v' w2 hown' ab)
    have HZ:=hid (show (s.extract n s.size).size<s.size by simp;omega)
    clear hown' hgrow hown ab
    go_wp2
    go_step3
    exact ⟨rfl,⟨_,_,_,_,_,_,_,_,_,_,_,_,_,_,_,_,_,_,_,_,_,_,_,_,_,_,_,_,_,rfl,HN.out⟩⟩
   ·by_cases h0:s.size=0
    ·obtain rfl:=lP h0
     have HR:=hid (hc.none ac.out h0)
     have CS:=hid (dZ _ (show (⟨#[]⟩:ByteArray).size≤16 by decide))
     clear hc hlen h16 h0
     go_wp2_with fail
     refine (CS.out _).mono ?_;rintro e w' ⟨rfl,rfl⟩
     go_wp2
     simp only [Exit.jump]
     go_ret
     exact HR.out
    ·have t1:=lA (s:=s) (by omega)
     have t2:=eH (s:=s) (by omega)
     have CS:=hid (dZ s (by omega))
     have aa:=hid (fun v' w2=>@CutI.last s s w w1 w2 ([]:List ByteArray) (.slice none 0 0) v' ac.out hc (by omega) (by omega))
     obtain ⟨N,hN⟩:∃ N,([]:List ByteArray).length=N:=⟨_,rfl⟩
     have hown:=hc.own
     rw [hN] at aa hlen hown
     have HC:=hid hc
     have hsz:w.heap.size≤w1.heap.size:=hc.bel.size
     clear hc hN h0
     go_wp2_with fail
     refine (CS.out _).mono ?_;rintro e w' ⟨rfl,rfl⟩
     go_wp2_with (at_builtin;refine wpList_append_own _ rfl _ _ 159 rfl w.heap.size 9 i0 _ 1 16 underlying159 hi ad ae af rfl (by decide) _ _ _ rfl (hown.alloc _) ⟨w1.heap.size,0,none⟩ 1 1 [.string s] rfl rfl (bV _ _ _) (by intro u hu;simp at hu;subst hu;rfl) (by unfold maxLen;omega) (by omega) (Nat.le_trans hsz (by simp)) ?_;intro v' w2 hown' hgrow _)
     have ab:Below w.heap.size w w2:=(HC.out.bel.alloc hsz _).grown hgrow (Nat.le_trans hsz (by simp)) (aA hown)
     have HR:=hid (aa.out v' w2 hown' ab)
     clear hown' hgrow hown ab
     go_wp2
     simp only [Exit.jump]
     go_ret
     exact HR.out
  ·rintro a' wr ⟨cur,L,v,u1,u4,u5,u6,u7,u8,u9,u10,u11,u12,u13,u14,u15,u16,u17,u18,u19,u20,u21,u22,u23,u24,u25,u26,u27,u28,rfl,hc⟩
   have hlen:=hc.len
   by_cases h16:16<cur.size
   ·have hb:=jX cur (by unfold maxLen;omega) 16
    have e:backI cur.data.toList 16=cutN cur:=by
     rw [show (16:Int)=((16:Nat):Int) from rfl,kU _ _ (by simp;omega)]
     rfl
    rw [e] at hb
    have cs:=jI cur (by omega)
    have hn:=iO cur
    have ah:=mI cur hc.val h16
    have aa:=hid (fun v' w2=>@CutI.step s cur w wr w2 L v v' hc h16)
    obtain ⟨n,hnn⟩:∃ n,cutN cur=n:=⟨_,rfl⟩
    rw [hnn] at hb hn ah aa
    obtain ⟨N,hN⟩:∃ N,L.length=N:=⟨_,rfl⟩
    have hown:=hc.own
    rw [hN] at aa hlen hown
    have HC:=hid hc;have HB:=hid hb;have CS:=hid cs
    have hsz:w.heap.size≤wr.heap.size:=hc.bel.size
    have i16:(16:Int)<(cur.size:Int):=by omega
    have h3:n≤cur.size:=by omega
    clear hb hnn e hc hN cs
    go_wp2_with fail
    refine (CS.out _).mono ?_;rintro e w' ⟨rfl,rfl⟩
    go_wp2_with fail
    refine (HB.out _).mono ?_;rintro e w' ⟨rfl,rfl⟩
    go_wp2_with (at_builtin;refine wpList_append_own _ rfl _ _ 159 rfl w.heap.size 9 i0 _ 1 16 underlying159 hi ad ae af rfl (by decide) _ _ _ rfl (hown.alloc _) ⟨wr.heap.size,0,none⟩ 1 1 [.string (cur.extract 0 n)] rfl rfl (bV _ _ _) (by intro u hu;simp at hu;subst hu;rfl) (by unfold maxLen;omega) (by omega) (Nat.le_trans hsz (by simp)) ?_;intro v' w2 hown' hgrow _)
    have ab:Below w.heap.size w w2:=(HC.out.bel.alloc hsz _).grown hgrow (Nat.le_trans hsz (by simp)) (aA hown)
    have HN:=hid (aa.out v' w2 hown' ab)
    have HZ:=hid (show (cur.extract n cur.size).size<cur.size by simp;omega)
    clear hown' hgrow hown ab
    go_wp2
    go_step3
    exact ⟨rfl,⟨_,_,_,_,_,_,_,_,_,_,_,_,_,_,_,_,_,_,_,_,_,_,_,_,_,_,_,_,_,rfl,HN.out⟩,HZ.out⟩
   ·by_cases h0:cur.size=0
    ·obtain rfl:=lP h0
     have HR:=hid (hc.none ac.out h0)
     have CS:=hid (dZ _ (show (⟨#[]⟩:ByteArray).size≤16 by decide))
     clear hc hlen h16 h0
     go_wp2_with fail
     refine (CS.out _).mono ?_;rintro e w' ⟨rfl,rfl⟩
     go_wp2
     simp only [Exit.jump]
     go_ret
     exact HR.out
    ·have t1:=lA (s:=cur) (by omega)
     have t2:=eH (s:=cur) (by omega)
     have CS:=hid (dZ cur (by omega))
     have aa:=hid (fun v' w2=>@CutI.last s cur w wr w2 L v v' ac.out hc (by omega) (by omega))
     obtain ⟨N,hN⟩:∃ N,L.length=N:=⟨_,rfl⟩
     have hown:=hc.own
     rw [hN] at aa hlen hown
     have HC:=hid hc
     have hsz:w.heap.size≤wr.heap.size:=hc.bel.size
     clear hc hN h0
     go_wp2_with fail
     refine (CS.out _).mono ?_;rintro e w' ⟨rfl,rfl⟩
     go_wp2_with (at_builtin;refine wpList_append_own _ rfl _ _ 159 rfl w.heap.size 9 i0 _ 1 16 underlying159 hi ad ae af rfl (by decide) _ _ _ rfl (hown.alloc _) ⟨wr.heap.size,0,none⟩ 1 1 [.string cur] rfl rfl (bV _ _ _) (by intro u hu;simp at hu;subst hu;rfl) (by unfold maxLen;omega) (by omega) (Nat.le_trans hsz (by simp)) ?_;intro v' w2 hown' hgrow _)
     have ab:Below w.heap.size w w2:=(HC.out.bel.alloc hsz _).grown hgrow (Nat.le_trans hsz (by simp)) (aA hown)
     have HR:=hid (aa.out v' w2 hown' ab)
     clear hown' hgrow hown ab
     go_wp2
     simp only [Exit.jump]
     go_ret
     exact HR.out
 ·have ai:¬ vld s.data.toList:=fun h=>hb ((bC _).2 h)
  rw [Bool.eq_false_iff.2 hb] at hv
  have HV:=hid hv;have aj:=hid ai
  clear hv hb ai
  go_enter func171,ntmps171
  go_wp2
  go_step3
  go_wp2_with fail
  refine (HV.out _).mono ?_;rintro e w1 ⟨rfl,ag⟩
  go_wp2
  (try rw [Exit.noGoto_ret])
  go_ret
  exact AR aj.out ag
end Go.Proofs.YtbagenpobcgjnaaGreat
namespace Go.Proofs.YtbagenpobcgjnaaGreat
open Go.Proofs.Tryz
open Lib (hid)
open Go.Shelf Go.RowKit
set_option linter.unusedVariables false
set_option maxHeartbeats 1000000 in
theorem xD (ad:Addr) (l:List Mrk) (c:Nat) (w:World) (hr:Mrks w (·<w.heap.size) (some ad) l) (hl:l.length≤1000000) :
 Calls prog 91 #[.slice (some ad) l.length c] w fun e w'=>∃ v,e=.returned v∧w'.ownsRow w.heap.size 90 2 v l.length (Mrk.flat l)∧v≠.slice none 0 0∧Below w.heap.size w w':=by
 obtain ⟨i0,hi,ae,af,ag⟩:=info_parts cY
 have q22:∀ (w:World) (a:Option Addr) (n c n' c':Nat),(binOp .eql 22 (.slice a n c) (.slice none n' c')).run prog w=.ok (.bool a.isNone) w:=fun w a n c n' c'=>Lib.run_eql_slice_nil w _ _ a n c n' c' underlying22
 have ab:=hid (AA hr);have aa:=hid (Mrk.flat_len l);have ac:=hid (ES l)
 obtain ⟨n,hn⟩:∃ n,l.length=n:=⟨_,rfl⟩
 rw [hn] at hl aa ⊢
 obtain ⟨F,hF⟩:∃ F,Mrk.flat l=F:=⟨_,rfl⟩
 rw [hF] at ab aa ac ⊢
 clear hr hn hF
 go_enter func91,ntmps91
 go_wp2_with (at_builtin;refine wpList_append_own _ rfl _ _ 22 rfl w.heap.size 90 i0 _ 2 24 underlying22 hi ae af ag rfl (by decide) _ _ _ rfl (World.ownsRow_made w #[] 0 (Nat.le_refl _) (Nat.zero_le _) (by simp)) ad n c F rfl aa.out (fun j u hj=>Lib.cell?_alloc_some _ (ab.out j u hj)) ac.out (by unfold maxLen;omega) (by omega) (by simp) ?_)
 intro v' w1 hown hgrow hnil
 go_wp2
 go_ret
 refine ⟨v',rfl,by simpa using hown,?_,?_⟩
 ·exact hnil
 ·exact ((Below.refl _ w).alloc (Nat.le_refl _) _).grown hgrow (by simp) (by intro k hk;simp [Value.ownBlock] at hk;omega)
theorem xG (w:World):Calls prog 91 #[.slice none 0 0] w fun e w'=>e=.returned (.slice none 0 0)∧w'=w:=by
 have h:=AnyE.slices_Clone_nil Tryz.mkCloneM 0 0 w
 change Calls prog 91 _ _ _ at h
 exact h
end Go.Proofs.YtbagenpobcgjnaaGreat
