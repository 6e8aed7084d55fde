/-
  Joined: OpDev, ChunkCut, OpenStp, OprCat.
-/
import Derived.Test.YtbagenpobcgjnaaGreatJOpRef
import Derived.Handy
import Derived.Test.YtbagenpobcgjnaaGreatJChunkRef
import Derived.Test.YtbagenpobcgjnaaGreatOprShelf
import Derived.Laws.AppendOwnNone
open Go renaming Value->yz,World->yv
open Go.Ending renaming returned->yx
open Go.Value renaming slice->yw,string->ze
open List renaming length_append->zd,length_cons->zg,length_nil->zh
open Nat renaming le_refl->zi,zero_le->zf
namespace Go.Proofs.YtbagenpobcgjnaaGreat
open Go.Proofs.Tryz
set_option maxRecDepth 100000
open Lib (hid)
open Go.RowKit
set_option maxHeartbeats 400000 in
theorem bI (s:ByteArray) (hs:s.size≤maxLen) (w:yv) :
 Calls prog 106 #[ze s] w fun e w'=>e=yx (.bool (ng s.data.toList))∧w=w':=by
 unfold maxLen at hs;by_cases z1:s.size<1
 ·rw [zC (by rw [qX];exact z1)];go_enter func106,ntmps106;go_wp2;go_ret;exact ⟨rfl,rfl⟩
 by_cases z2:8<s.size
 ·have z3:1≤s.size:=lf;rw [BK (by rw [qX];exact z2)];clear z1;go_enter func106,ntmps106;go_wp2;go_ret;exact ⟨rfl,rfl⟩
 have z3:1≤s.size:=lf;have z4:s.size≤8:=lf;clear z1 z2;obtain ⟨r,hr⟩:∃ r,ng s.data.toList=r:=⟨_,rfl⟩;rw [hr];have HR:=hid hr;clear hr;go_enter func106,ntmps106;go_wp2
 go_loop [14] (fun i=>∃ k:Nat,k≤s.size∧i=.int .i64 k∧(s.data.toList.take k).all vf=true) (fun i=>s.size - (intOf i).toNat)
 case atStart=>exact ⟨0,zf _,rfl,rfl⟩
 case round =>
  obtain ⟨k,hk,rfl,hall⟩:=hrel;have HA:=hid hall;clear hall;by_cases hlt:k<s.size
  ·have aa:=s[k].toNat_lt;by_cases g1:97≤s[k].toNat
   ·by_cases g2:s[k].toNat≤122
    ·have h2:=hid (xF hlt HA.out g1 g2);go_wp2
     go_round
     case rel=>exact ⟨k+1,lf,by go_num,h2.out⟩
     case measure=>simp [intOf];omega
    ·have h2:=hid (mS hlt (.inr lf));have g2':122<s[k].toNat:=lf;go_wp2;go_ret;exact ⟨aN (by rw [← HR.out,h2.out]),rfl⟩
   ·have h2:=hid (mS hlt (.inl lf));have g1':s[k].toNat<97:=lf;go_wp2;go_ret;exact ⟨aN (by rw [← HR.out,h2.out]),rfl⟩
  ·obtain rfl:k=s.size:=lf;have h2:=hid (zY HA.out);go_wp2;go_ret;exact ⟨aN (by rw [← HR.out,h2.out,decide_eq_true z3,decide_eq_true z4];rfl),rfl⟩
set_option linter.unusedVariables false
structure ux (s:ByteArray) (w:yv) (cur:ByteArray) (L:List ByteArray) (v:yz) (wr:yv):Prop where
 own:wr.ownsRow w 9 1 v L.length (r8 L)
 bel:Below w w wr
 val:rp cur.data.toList
 len:L.length+cur.size≤s.size
 go:∀ L',Ctd cur L'→Ctd s (L++L')
 prev:∀ x∈L,x.size≤1000000
 two:L=[]∨∃ L0 p,L=L0++[p]∧16<p.size+cur.size∧0<cur.size
theorem ux.start {s:ByteArray} {w wr:yv} (hv:rp s.data.toList) (hb:Below w w wr):ux s w s [] (yw none 0 0) wr:=
 ⟨World.ownsRow_nil _ _ _ _,hb,hv,lh,fun L' h=>h,fun x h=>absurd h lh,.inl rfl⟩
theorem ux.step {s cur:ByteArray} {w wr w2:yv} {L:List ByteArray} {v v':yz} (h:ux s w cur L v wr) (h16:16<cur.size)
 (hown:w2.ownsRow w 9 1 v' (L.length+1) (r8 L++[ze (cur.extract 0 (sw cur))])) (hb:Below w w w2) :
 ux s w (cur.extract (sw cur) cur.size) (L++[cur.extract 0 (sw cur)]) v' w2:=by
 have hn:=jA cur;have aa:=mU cur h.val h16;have hp:=mM cur (sw cur) h.val (tD cur);have z1:=bF cur (sw cur) lf;have z2:=cL cur (sw cur);have hl:=h.len;refine ⟨?_,hb,hp.2,?_,fun L' h'=>?_,fun x hx=>?_,.inr ⟨L,_,rfl,lf,lf⟩⟩
 ·rw [lE,zd];exact hown
 ·simp only [zd,zg,zh];omega
 ·rw [List.append_assoc];exact h.go _ (.more h16 h')
 ·rcases List.mem_append.1 hx with g|g
  ·exact h.prev x g
  ·simp only [List.mem_singleton] at g;subst g;omega
def ws (s:ByteArray) (w:yv) (e:Ending) (w':yv):Prop:=∃ L,CutP s L∧L.length≤s.size∧sj w L e w'
theorem uV {w w':yv} {v:yz} {L:List ByteArray} (h:w'.ownsRow w 9 1 v L.length (r8 L)) (hb:Below w w w'):sj w L (yx v) w':=by
 obtain ⟨a,c,rfl,hs⟩:=NB h;exact ⟨a,c,rfl,hs.weak fun _ h=>h.2,hb⟩
theorem ux.none {s cur:ByteArray} {w wr:yv} {L:List ByteArray} {v:yz} (hs:rp s.data.toList) (h:ux s w cur L v wr) (h0:cur.size=0):ws s w (yx v) wr:=by
 have hg:=h.go [] (.none h0);rw [List.append_nil] at hg;exact ⟨L,.inl ⟨hs,hg⟩,by have:=h.len;omega,uV h.own h.bel⟩
theorem ux.last {s cur:ByteArray} {w wr w2:yv} {L:List ByteArray} {v v':yz} (hs:rp s.data.toList) (h:ux s w cur L v wr) (h0:0<cur.size) (h1:cur.size≤16)
 (hown:w2.ownsRow w 9 1 v' (L.length+1) (r8 L++[ze cur])) (hb:Below w w w2):ws s w (yx v') w2:=by
 have hg:=h.go [cur] (.last h0 h1);refine ⟨L++[cur],.inl ⟨hs,hg⟩,by have:=h.len;simp only [zd,zg,zh];omega,uV ?_ hb⟩;rw [lE,zd];exact hown
theorem DX {s:ByteArray} {w w':yv} (h:¬ rp s.data.toList) (hb:Below w w w'):ws s w (yx (yw none 0 0)) w':=
 ⟨[],.inr ⟨h,rfl⟩,zf _,qF hb⟩
end Go.Proofs.YtbagenpobcgjnaaGreat
namespace Go.Proofs.YtbagenpobcgjnaaGreat
open Go.Proofs.Tryz
open Go.RowKit Go.ChangeShapes Go.WideShapes Go.Deep
set_option linter.unusedVariables false
section
variable {H : Type} {enc : TypeId × Value → H} {P : Program} {w : World} {base : Nat} {spare : Nat → Bool} {held : Bool}
end
section
variable {H : Type} {enc : TypeId × Value → H} {w : World} {base : Nat} {spare : Nat → Bool} {held : Bool}
theorem rR:prog.cellsOf 54=1:=lg
end
end Go.Proofs.YtbagenpobcgjnaaGreat
namespace Go.Proofs.YtbagenpobcgjnaaGreat
open Go.Proofs.Tryz
open Lib (hid)
open Go.Shelf Go.RowKit
set_option linter.unusedVariables false
set_option maxHeartbeats 1000000 in
theorem yA (ad:Addr) (l:List oo) (c:Nat) (w:yv) (hr:qk w (·<w) (some ad) l) (hl:l.length≤1000000) :
 Calls prog 30 #[yw (some ad) l.length c] w fun e w'=>∃ v,e=yx v∧w'.ownsRow w 50 4 v l.length (oo.flat l)∧v≠yw none 0 0∧Below w w w':=by
 obtain ⟨i0,hi,ae,af,ag⟩:=info_parts ME;have q22:∀ (w:yv) (a:Option Addr) (n c n' c':Nat),(binOp .eql 27 (yw a n c) (yw none n' c')).run prog w=.ok (.bool a.isNone) w:=fun w a n c n' c'=>Lib.run_eql_slice_nil w _ _ a n c n' c' underlying27;have ab:=hid (KG hr);have aa:=hid (oo.flat_len l);have ac:=hid (FN l);obtain ⟨n,hn⟩:∃ n,l.length=n:=⟨_,rfl⟩;rw [hn] at hl aa ⊢;obtain ⟨F,hF⟩:∃ F,oo.flat l=F:=⟨_,rfl⟩;rw [hF] at ab aa ac ⊢;clear hr hn hF;go_enter func30,ntmps30;go_wp2_with (at_builtin;refine wpList_append_own _ rfl _ _ 27 rfl w.heap.size 50 i0 _ 4 40 underlying27 hi ae af ag rfl li _ _ _ rfl (World.ownsRow_made w #[] 0 (zi _) (zf _) lh) ad n c F rfl aa.out (fun j u hj=>Lib.cell?_alloc_some _ (ab.out j u hj)) ac.out ln lf lh ?_);intro v' w1 hown hgrow hnil;go_wp2;go_ret;refine ⟨v',rfl,by simpa using hown,?_,?_⟩
 ·exact hnil
 ·exact ((Below.refl _ w).alloc (zi _) _).grown hgrow lh (by intro k hk;simp [Value.ownBlock] at hk;omega)
theorem DY (w:yv):Calls prog 30 #[yw none 0 0] w fun e w'=>e=yx (yw none 0 0)∧w'=w:=by
 have h:=AnyE.slices_Clone_nil Tryz.mkCloneQ 0 0 w;change Calls prog 30 _ _ _ at h;exact h
end Go.Proofs.YtbagenpobcgjnaaGreat
