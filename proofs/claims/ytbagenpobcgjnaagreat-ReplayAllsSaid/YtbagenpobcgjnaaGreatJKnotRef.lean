/-
  Joined: KnotRef, ChunkGoto, MrkCat.
-/
import Derived.Test.YtbagenpobcgjnaaGreatJKnotMath
import Derived.Test.YtbagenpobcgjnaaGreatJChunkRef
import Derived.Lib.MinMax
import Derived.Test.YtbagenpobcgjnaaGreatJOpDev
import Derived.Test.YtbagenpobcgjnaaGreatJMarkMath
import Derived.Test.YtbagenpobcgjnaaGreatMrkShelf
open Go renaming World->yy,wpList_append_own->zd
open Go.Lib renaming hid->yv
open Go.Value renaming slice->yw,string->yz
open Nat renaming le_refl->zf,le_trans->yx,lt_or_ge->zh
namespace Go.Proofs.YtbagenpobcgjnaaGreat
open Go.RowKit
set_option linter.unusedVariables false
theorem eS (v:Value) (h:v.oneCell'=true):∀ u∈[v],u.oneCell'=true:=by intro u hu;simp at hu;subst hu;exact h
theorem JJ (n:Nat):pr n≤n:=by
 rcases zh 1 n with h|h
 ·have:=iT n lf;omega
 ·rcases zh 0 n with g|g
  ·obtain rfl:n=1:=lf;rw [gD li,show (1:Nat) - wc 1=0 from rfl,fG];exact zf _
  ·obtain rfl:n=0:=lf;rw [fG];exact zf _
open Go.Proofs.Tryz
set_option maxRecDepth 100000
open Lib (hid)
def leftOf:Value→Nat | .string x=>x.size|_=>0
def AtNext (s:ByteArray) (w:yy) (a:Act) (wr:yy):Prop:=
 ∃ (cur:ByteArray) (L:List ByteArray) (v u1 u4 u5 u6 u7 u8 u9 u10 u11 u12 u13 u14 u15 u16 u17 u18 u19 u20 u21 u22 u23 u24 u25 u26 u27 u28:Value),
  a={ tmps:=#[yz cur,u1,yw none 0 0,v,u4,u5,u6,u7,u8,u9,u10,u11,u12,u13,u14,u15,u16,u17,u18,u19,u20,u21,u22,u23,u24,u25,u26,u27,u28],defers:=[] }∧ux s w cur L v wr
set_option maxHeartbeats 1600000 in
theorem PJ (s:ByteArray) (hs:s.size≤1000000) (w:yy) :
 Calls prog 171 #[yz s] w (ws s w):=by
 obtain ⟨i0,hi,ad,ae,af⟩:=info_parts nX;have hv:=eC s ln;by_cases hb:oa s.data.toList=true
 ·rw [hb] at hv;have HV:=yv hv;have ac:=yv ((bE _).1 hb);clear hv hb;go_enter func171,ntmps171;go_wp2;refine wp_scope_jumps 0 (AtNext s w) (fun a' _=>leftOf (a'.tmps.getD 0 undef)) rfl ?_ ?_
  ·go_wp2_with fail;refine (HV.out _).mono ?_;rintro e w1 ⟨rfl,ag⟩;have hc:=ux.start ac.out ag;clear ag;go_wp2_with fail
   go_step3
   have hlen:=hc.len;by_cases h16:16<s.size
   ·have hb:=jY s ln 16;have e:mi s.data.toList 16=sw s:=by
     rw [show (16:Int)=((16:Nat):Int) from rfl,lJ _ _ lq];rfl
    rw [e] at hb;have cs:=kZ s lf;have hn:=jA s;have ah:=mU s hc.val h16;have aa:=yv (fun v' w2=>@ux.step s s w w1 w2 ([]:List ByteArray) (yw none 0 0) v' hc h16);obtain ⟨n,hnn⟩:∃ n,sw s=n:=⟨_,rfl⟩;rw [hnn] at hb hn ah aa;obtain ⟨N,hN⟩:∃ N,([]:List ByteArray).length=N:=⟨_,rfl⟩;have hown:=hc.own;rw [hN] at aa hlen hown;have HC:=yv hc;have HB:=yv hb;have CS:=yv cs;have hsz:w.heap.size≤w1:=hc.bel.size;have i16:(16:Int)<(s.size:Int):=lf;have h3:n≤s.size:=lf;clear hb hnn e hc hN cs;go_wp2_with fail;refine (CS.out _).mono ?_;rintro e w' ⟨rfl,rfl⟩;go_wp2_with fail;refine (HB.out _).mono ?_;rintro e w' ⟨rfl,rfl⟩;go_wp2_with (at_builtin;refine zd _ rfl _ _ 159 rfl w.heap.size 9 i0 _ 1 16 underlying159 hi ad ae af rfl li _ _ _ rfl (hown.alloc _) ⟨w1,0,none⟩ 1 1 [yz (s.extract 0 n)] rfl rfl (bZ _ _ _) (by intro u hu;simp at hu;subst hu;rfl) ln lf (yx hsz lh) ?_;intro v' w2 hown' hgrow _);have ab:Below w w w2:=(HC.out.bel.alloc hsz _).grown hgrow (yx hsz lh) (aA hown);have HN:=yv (aa.out v' w2 hown' ab);have HZ:=yv (show (s.extract n s.size).size<s.size by simp;omega);clear hown' hgrow hown ab;go_wp2
    go_step3
    exact ⟨rfl,⟨_,_,_,_,_,_,_,_,_,_,_,_,_,_,_,_,_,_,_,_,_,_,_,_,_,_,_,_,_,rfl,HN.out⟩⟩
   ·by_cases h0:s.size=0
    ·obtain rfl:=mJ h0;have HR:=yv (hc.none ac.out h0);have CS:=yv (eE _ (show (⟨#[]⟩:ByteArray).size≤16 by decide));clear hc hlen h16 h0;go_wp2_with fail;refine (CS.out _).mono ?_;rintro e w' ⟨rfl,rfl⟩;go_wp2;simp only [Exit.jump];go_ret;exact HR.out
    ·have t1:=lG (s:=s) lf;have t2:=eW (s:=s) lf;have CS:=yv (eE s lf);have aa:=yv (fun v' w2=>@ux.last s s w w1 w2 ([]:List ByteArray) (yw none 0 0) v' ac.out hc lf lf);obtain ⟨N,hN⟩:∃ N,([]:List ByteArray).length=N:=⟨_,rfl⟩;have hown:=hc.own;rw [hN] at aa hlen hown;have HC:=yv hc;have hsz:w.heap.size≤w1:=hc.bel.size;clear hc hN h0;go_wp2_with fail;refine (CS.out _).mono ?_;rintro e w' ⟨rfl,rfl⟩;go_wp2_with (at_builtin;refine zd _ rfl _ _ 159 rfl w.heap.size 9 i0 _ 1 16 underlying159 hi ad ae af rfl li _ _ _ rfl (hown.alloc _) ⟨w1,0,none⟩ 1 1 [yz s] rfl rfl (bZ _ _ _) (by intro u hu;simp at hu;subst hu;rfl) ln lf (yx hsz lh) ?_;intro v' w2 hown' hgrow _);have ab:Below w w w2:=(HC.out.bel.alloc hsz _).grown hgrow (yx hsz lh) (aA hown);have HR:=yv (aa.out v' w2 hown' ab);clear hown' hgrow hown ab;go_wp2;simp only [Exit.jump];go_ret;exact HR.out
  ·rintro a' wr ⟨cur,L,v,u1,u4,u5,u6,u7,u8,u9,u10,u11,u12,u13,u14,u15,u16,u17,u18,u19,u20,u21,u22,u23,u24,u25,u26,u27,u28,rfl,hc⟩;have hlen:=hc.len;by_cases h16:16<cur.size
   ·have hb:=jY cur ln 16;have e:mi cur.data.toList 16=sw cur:=by
     rw [show (16:Int)=((16:Nat):Int) from rfl,lJ _ _ lq];rfl
    rw [e] at hb;have cs:=kZ cur lf;have hn:=jA cur;have ah:=mU cur hc.val h16;have aa:=yv (fun v' w2=>@ux.step s cur w wr w2 L v v' hc h16);obtain ⟨n,hnn⟩:∃ n,sw cur=n:=⟨_,rfl⟩;rw [hnn] at hb hn ah aa;obtain ⟨N,hN⟩:∃ N,L.length=N:=⟨_,rfl⟩;have hown:=hc.own;rw [hN] at aa hlen hown;have HC:=yv hc;have HB:=yv hb;have CS:=yv cs;have hsz:w.heap.size≤wr:=hc.bel.size;have i16:(16:Int)<(cur.size:Int):=lf;have h3:n≤cur.size:=lf;clear hb hnn e hc hN cs;go_wp2_with fail;refine (CS.out _).mono ?_;rintro e w' ⟨rfl,rfl⟩;go_wp2_with fail;refine (HB.out _).mono ?_;rintro e w' ⟨rfl,rfl⟩;go_wp2_with (at_builtin;refine zd _ rfl _ _ 159 rfl w.heap.size 9 i0 _ 1 16 underlying159 hi ad ae af rfl li _ _ _ rfl (hown.alloc _) ⟨wr,0,none⟩ 1 1 [yz (cur.extract 0 n)] rfl rfl (bZ _ _ _) (by intro u hu;simp at hu;subst hu;rfl) ln lf (yx hsz lh) ?_;intro v' w2 hown' hgrow _);have ab:Below w w w2:=(HC.out.bel.alloc hsz _).grown hgrow (yx hsz lh) (aA hown);have HN:=yv (aa.out v' w2 hown' ab);have HZ:=yv (show (cur.extract n cur.size).size<cur.size by simp;omega);clear hown' hgrow hown ab;go_wp2
    go_step3
    exact ⟨rfl,⟨_,_,_,_,_,_,_,_,_,_,_,_,_,_,_,_,_,_,_,_,_,_,_,_,_,_,_,_,_,rfl,HN.out⟩,HZ.out⟩
   ·by_cases h0:cur.size=0
    ·obtain rfl:=mJ h0;have HR:=yv (hc.none ac.out h0);have CS:=yv (eE _ (show (⟨#[]⟩:ByteArray).size≤16 by decide));clear hc hlen h16 h0;go_wp2_with fail;refine (CS.out _).mono ?_;rintro e w' ⟨rfl,rfl⟩;go_wp2;simp only [Exit.jump];go_ret;exact HR.out
    ·have t1:=lG (s:=cur) lf;have t2:=eW (s:=cur) lf;have CS:=yv (eE cur lf);have aa:=yv (fun v' w2=>@ux.last s cur w wr w2 L v v' ac.out hc lf lf);obtain ⟨N,hN⟩:∃ N,L.length=N:=⟨_,rfl⟩;have hown:=hc.own;rw [hN] at aa hlen hown;have HC:=yv hc;have hsz:w.heap.size≤wr:=hc.bel.size;clear hc hN h0;go_wp2_with fail;refine (CS.out _).mono ?_;rintro e w' ⟨rfl,rfl⟩;go_wp2_with (at_builtin;refine zd _ rfl _ _ 159 rfl w.heap.size 9 i0 _ 1 16 underlying159 hi ad ae af rfl li _ _ _ rfl (hown.alloc _) ⟨wr,0,none⟩ 1 1 [yz cur] rfl rfl (bZ _ _ _) (by intro u hu;simp at hu;subst hu;rfl) ln lf (yx hsz lh) ?_;intro v' w2 hown' hgrow _);have ab:Below w w w2:=(HC.out.bel.alloc hsz _).grown hgrow (yx hsz lh) (aA hown);have HR:=yv (aa.out v' w2 hown' ab);clear hown' hgrow hown ab;go_wp2;simp only [Exit.jump];go_ret;exact HR.out
 ·have ai:¬ rp s.data.toList:=fun h=>hb ((bE _).2 h);rw [Bool.eq_false_iff.2 hb] at hv;have HV:=yv hv;have aj:=yv ai;clear hv hb ai;go_enter func171,ntmps171;go_wp2
  go_step3
  go_wp2_with fail;refine (HV.out _).mono ?_;rintro e w1 ⟨rfl,ag⟩;go_wp2
  (try rw [Exit.noGoto_ret])
  go_ret;exact DX aj.out ag
end Go.Proofs.YtbagenpobcgjnaaGreat
namespace Go.Proofs.YtbagenpobcgjnaaGreat
open Go.Proofs.Tryz
open Lib (hid)
open Go.Shelf Go.RowKit
set_option linter.unusedVariables false
set_option maxHeartbeats 1000000 in
theorem yN (ad:Addr) (l:List l8) (c:Nat) (w:yy) (hr:o7 w (·<w) (some ad) l) (hl:l.length≤1000000) :
 Calls prog 91 #[yw (some ad) l.length c] w fun e w'=>∃ v,e=.returned v∧w'.ownsRow w 90 2 v l.length (l8.flat l)∧v≠yw none 0 0∧Below w w w':=by
 obtain ⟨i0,hi,ae,af,ag⟩:=info_parts dK;have q22:∀ (w:yy) (a:Option Addr) (n c n' c':Nat),(binOp .eql 22 (yw a n c) (yw none n' c')).run prog w=.ok (.bool a.isNone) w:=fun w a n c n' c'=>Lib.run_eql_slice_nil w _ _ a n c n' c' underlying22;have ab:=yv (EB hr);have aa:=yv (l8.flat_len l);have ac:=yv (FV l);obtain ⟨n,hn⟩:∃ n,l.length=n:=⟨_,rfl⟩;rw [hn] at hl aa ⊢;obtain ⟨F,hF⟩:∃ F,l8.flat l=F:=⟨_,rfl⟩;rw [hF] at ab aa ac ⊢;clear hr hn hF;go_enter func91,ntmps91;go_wp2_with (at_builtin;refine zd _ rfl _ _ 22 rfl w.heap.size 90 i0 _ 2 24 underlying22 hi ae af ag rfl li _ _ _ rfl (World.ownsRow_made w #[] 0 (zf _) (Nat.zero_le _) lh) ad n c F rfl aa.out (fun j u hj=>Lib.cell?_alloc_some _ (ab.out j u hj)) ac.out ln lf lh ?_);intro v' w1 hown hgrow hnil;go_wp2;go_ret;refine ⟨v',rfl,by simpa using hown,?_,?_⟩
 ·exact hnil
 ·exact ((Below.refl _ w).alloc (zf _) _).grown hgrow lh (by intro k hk;simp [Value.ownBlock] at hk;omega)
theorem xZ (w:yy):Calls prog 91 #[yw none 0 0] w fun e w'=>e=.returned (yw none 0 0)∧w'=w:=by
 have h:=AnyE.slices_Clone_nil Tryz.mkCloneM 0 0 w;change Calls prog 91 _ _ _ at h;exact h
end Go.Proofs.YtbagenpobcgjnaaGreat
