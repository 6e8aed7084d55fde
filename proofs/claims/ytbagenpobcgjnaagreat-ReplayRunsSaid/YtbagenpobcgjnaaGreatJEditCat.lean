/-
  Joined: EditCat, OpDev, ChunkCut, OpenStp.
-/
import Derived.Test.YtbagenpobcgjnaaGreatJChunkRef
import Derived.Test.YtbagenpobcgjnaaGreatEditShelf
import Derived.Laws.OwnMore
import Derived.Laws.AppendOwnNone
import Derived.Test.YtbagenpobcgjnaaGreatJOpRef
import Derived.Test.YtbagenpobcgjnaaGreatJCommon
import Derived.Handy
import Derived.Laws.MakeOwn
import Derived.Test.YtbagenpobcgjnaaGreatJCells
namespace Go.Proofs.YtbagenpobcgjnaaGreat
open Go.Proofs.Tryz
set_option maxRecDepth 100000
open Lib (hid)
open Go.Shelf Go.RowKit
set_option linter.unusedVariables false
set_option maxHeartbeats 800000 in
theorem IR (n:Nat) (hn:n≤1000000) (w:World):Calls prog 213 #[.slice none 0 0,.int .i64 n] w fun e w'=>∃ v,e=.returned v∧w'.ownsRow w.heap.size 92 3 v 0 []∧Below w.heap.size w w':=by
 obtain ⟨i0,hi,aa,ab,ac⟩:=info_parts eQ
 rcases Nat.eq_zero_or_pos n with rfl|hp
 ·have h:=Any8.slices_Grow_room Tryz.mkGrowE none 0 0 0 w (Nat.le_refl _) (by omega) (by omega) (by omega)
  change Calls prog 213 _ _ _ at h
  refine h.mono ?_
  rintro e w' ⟨rfl,rfl⟩
  exact ⟨_,rfl,World.ownsRow_nil _ _ _ _,Below.refl _ _⟩
 ·have h:=Any8.slices_Grow_grow Tryz.mkGrowE i0 _ hi aa (by rw [ab];decide) none 0 0 n [] w (Nat.le_refl _) (by omega) (by rw [ac];omega) (by omega) (by simp) (fun _=>rfl) (fun a e=>by cases e)
  change Calls prog 213 _ _ _ at h
  refine h.mono ?_
  rintro e w' ⟨rfl,rfl⟩
  have hge:=grownCap_ge w (0+n) 0 (Tryz.mkGrowE_ren.t 25)
  have hle:=grownCap_le_maxLen w (0+n) 0 (Tryz.mkGrowE_ren.t 25) (by unfold maxLen;omega)
  refine ⟨_,rfl,World.ownsRow_made w.drew _ _ (Nat.le_refl _) hle ?_,((Below.refl w.heap.size w).drew).alloc (Nat.le_refl _) _⟩
  simp only [Nat.zero_add] at hge ⊢
  simp [Builtin.zeroCells,Value.cells]
  omega
set_option maxHeartbeats 1600000 in
theorem yH (r:Nat) (ps:List EPc) (w:World) (hr:r<w.heap.size) (hps:∀ k,k<ps.length→w.cell? ⟨r,k,none⟩=some (ps[k]!).v) (hp:∀ k,k<ps.length→EPcs w ps[k]!) (hl:ps.length≤1000) (hs:esumP ps≤100000) :
 Calls prog 201 #[.slice (some ⟨r,0,none⟩) ps.length ps.length] w (RetERow w (ecatP ps)):=by
 obtain ⟨i0,hi,aj,ak,al⟩:=info_parts eQ
 obtain ⟨m,hm⟩:∃ m,ps.length=m:=⟨_,rfl⟩
 rw [hm] at hl ⊢
 have HM:=hid hm;have ae:=hid hps;have HP:=hid hp;have HS:=hid hs;have HR:=hid hr
 clear hm hps hp hs hr
 go_enter func201,ntmps201
 go_wp2
 go_loop [3,11] (fun z i=>∃ k:Nat,k≤m∧i=.int .i64 k∧z=.int .i64 (esumP (ps.take k):Nat)) (fun _ i=>m - (intOf i).toNat)
 case atStart=>exact ⟨0,Nat.zero_le _,rfl,rfl⟩
 case round =>
  obtain ⟨k,hk,rfl,rfl⟩:=hrel
  have hb:=Nat.le_trans (jR ps k) HS.out
  by_cases hlt:k<m
  ·have hkl:k<ps.length:=by rw [HM.out];exact hlt
   have q0:=ae.out k hkl
   have h2:=oW ps k hkl
   have am:=Nat.le_trans (jR ps (k+1)) HS.out
   obtain ⟨x,hx⟩:∃ x,ps[k]! = x:=⟨_,rfl⟩
   rw [hx] at q0 h2
   obtain ⟨xa,xl,xc⟩:=x
   simp only [EPc.v] at q0 h2
   obtain ⟨n,hn⟩:∃ n,xl.length=n:=⟨_,rfl⟩
   rw [hn] at q0 h2
   obtain ⟨s,hs⟩:∃ s,esumP (ps.take k)=s:=⟨_,rfl⟩
   rw [hs] at h2 hb ⊢
   have HX:=hid h2
   have aw:s+n≤100000:=by omega
   have b0:(0:Int)≤(k:Int):=by omega
   have b1:(k:Int)<(m:Int):=by omega
   have b2:¬ (s:Int)+(n:Int)<0:=by omega
   clear hx hn hs h2 am
   go_wp2
   go_round
   case rel=>exact ⟨k+1,by omega,by go_num,by rw [HX.out];go_num⟩
   case measure=>simp [intOf];omega
  ·obtain rfl:k=m:=by omega
   have hz:esumP (ps.take k)=esumP ps:=by rw [List.take_of_length_le (by rw [HM.out];exact Nat.le_refl _)]
   rw [hz] at hb ⊢
   obtain ⟨s,hs⟩:∃ s,esumP ps=s:=⟨_,rfl⟩
   rw [hs] at hb ⊢
   have cg:=IR s (by omega) w
   have CG:=hid cg;have ax:=hid hs
   clear hz hs cg
   go_wp2_with fail
   refine CG.out.mono ?_
   rintro e w1 ⟨v,rfl,ab,aa⟩
   have an:=hid aa;have HO:=hid ab
   clear aa ab
   go_wp2
   go_loopw [6,27] (fun v i wr=>∃ j:Nat,j≤k∧i=.int .i64 j∧wr.ownsRow w.heap.size 92 3 v (ecatP (ps.take j)).length (Edt.flat (ecatP (ps.take j)))∧Below w.heap.size w wr) (fun _ i _=>k - (intOf i).toNat)
   case atStart=>exact ⟨0,Nat.zero_le _,rfl,HO.out,an.out⟩
   case round =>
    obtain ⟨j,hj,rfl,hown,hbel⟩:=hrel
    have hlen:=EP (ps.take j)
    have hle:=Nat.le_trans (jR ps j) HS.out
    by_cases hlt:j<k
    ·have hjl:j<ps.length:=by rw [HM.out];exact hlt
     have q0:=(hbel.cell (p:=⟨r,j,none⟩) HR.out).trans (ae.out j hjl)
     have hp:=HP.out j hjl
     have h2:=BT ps j hjl
     have h3:=oW ps j hjl
     have ai:=Nat.le_trans (jR ps (j+1)) HS.out
     obtain ⟨x,hx⟩:∃ x,ps[j]! = x:=⟨_,rfl⟩
     rw [hx] at q0 hp h2 h3
     obtain ⟨o,ho⟩:∃ o,ecatP (ps.take j)=o:=⟨_,rfl⟩
     rw [ho] at hown hlen h2
     have hol:o.length≤100000:=by omega
     have hxl:o.length+x.l.length≤100000:=by omega
     have H2:=hid h2
     have b0:(0:Int)≤(j:Int):=by omega
     have b1:(j:Int)<(k:Int):=by omega
     clear hx ho h2 h3 hlen hle ai
     obtain ⟨xa,xl,xc⟩:=x
     cases xa with
     | none =>
      have e0:xl=[]:=hp.len rfl
      have e1:xc=0:=hp.nil rfl
      subst e0
      subst e1
      simp only [EPc.v,List.length_nil] at q0
      clear hp hxl
      go_wp2_with (at_builtin;refine wpList_append_own_none rfl _ _ 24 rfl w.heap.size 92 i0 3 underlying24 hi _ _ _ rfl hown rfl ?_)
      go_roundw
      case rel=>exact ⟨j+1,by omega,by go_num,by rw [H2.out,List.append_nil];exact hown,hbel⟩
      case measure=>simp [intOf];omega
     | some ad =>
      have hnews:=lG (hp.row.below (fun _ h=>h) hbel)
      simp only [EPc.v] at q0
      have hfl:=Edt.flat_len xl
      have hofl:=lO xl
      obtain ⟨n,hn⟩:∃ n,xl.length=n:=⟨_,rfl⟩
      simp only [hn] at q0 hxl hfl
      have ao:=hid hnews;have aq:=hid hfl;have ar:=hid hofl;have ac:=hid hn
      clear hp hnews hfl hofl hn
      go_wp2_with (at_builtin;refine wpList_append_own _ rfl _ _ 24 rfl w.heap.size 92 i0 _ 3 40 underlying24 hi aj ak al rfl (by decide) _ _ _ rfl hown ad n xc (Edt.flat xl) rfl aq.out ao.out ar.out (by unfold maxLen;omega) (by omega) hbel.size ?_;intro v1 w1 af ag _)
      have aa:Below w.heap.size w w1:=hbel.grown ag hbel.size (aA hown)
      have ah:w1.ownsRow w.heap.size 92 3 v1 (ecatP (ps.take (j+1))).length (Edt.flat (ecatP (ps.take (j+1)))):=by
       rw [H2.out,Edt.flat_app,List.length_append,ac.out]
       exact af
      have au:=hid ah;have av:=hid aa
      clear af ag hown hbel aa ah q0
      go_wp2
      go_roundw
      case rel=>exact ⟨j+1,by omega,by go_num,au.out,av.out⟩
      case measure=>simp [intOf];omega
    ·obtain rfl:j=k:=by omega
     rw [List.take_of_length_le (by rw [HM.out];exact Nat.le_refl _)] at hown
     obtain ⟨ad,cp,rfl,hn⟩:=dE hown
     have ac:=hid hn;clear hn hown
     go_wp2
     go_ret
     exact ⟨ad,cp,rfl,ac.out,hbel⟩
set_option maxHeartbeats 1000000 in
theorem nG (ad:Addr) (l:List Edt) (c:Nat) (w:World) (hr:Edts w (·<w.heap.size) (some ad) l) (hl:l.length≤1000000) :
 Calls prog 93 #[.slice (some ad) l.length c] w fun e w'=>∃ v,e=.returned v∧w'.ownsRow w.heap.size 92 3 v l.length (Edt.flat l)∧v≠.slice none 0 0∧Below w.heap.size w w':=by
 obtain ⟨i0,hi,ae,af,ag⟩:=info_parts eQ
 have q22:∀ (w:World) (a:Option Addr) (n c n' c':Nat),(binOp .eql 24 (.slice a n c) (.slice none n' c')).run prog w=.ok (.bool a.isNone) w:=fun w a n c n' c'=>Lib.run_eql_slice_nil w _ _ a n c n' c' underlying24
 have ab:=hid (lG hr);have aa:=hid (Edt.flat_len l);have ac:=hid (lO l)
 obtain ⟨n,hn⟩:∃ n,l.length=n:=⟨_,rfl⟩
 rw [hn] at hl aa ⊢
 obtain ⟨F,hF⟩:∃ F,Edt.flat l=F:=⟨_,rfl⟩
 rw [hF] at ab aa ac ⊢
 clear hr hn hF
 go_enter func93,ntmps93
 go_wp2_with (at_builtin;refine wpList_append_own _ rfl _ _ 24 rfl w.heap.size 92 i0 _ 3 40 underlying24 hi ae af ag rfl (by decide) _ _ _ rfl (World.ownsRow_made w #[] 0 (Nat.le_refl _) (Nat.zero_le _) (by simp)) ad n c F rfl aa.out (fun j u hj=>Lib.cell?_alloc_some _ (ab.out j u hj)) ac.out (by unfold maxLen;omega) (by omega) (by simp) ?_)
 intro v' w1 hown hgrow hnil
 go_wp2
 go_ret
 refine ⟨v',rfl,by simpa using hown,?_,?_⟩
 ·exact hnil
 ·exact ((Below.refl _ w).alloc (Nat.le_refl _) _).grown hgrow (by simp) (by intro k hk;simp [Value.ownBlock] at hk;omega)
theorem oX (w:World):Calls prog 93 #[.slice none 0 0] w fun e w'=>e=.returned (.slice none 0 0)∧w'=w:=by
 have h:=AnyE.slices_Clone_nil Tryz.mkCloneE 0 0 w
 change Calls prog 93 _ _ _ at h
 exact h
theorem ecat2 {W:World} {p q:EPc} (i j:Nat) (hp:EPcs W p) (hq:EPcs W q) (hi:p.l.length=i) (hj:q.l.length=j) (hs:i+j≤1000) (t:TypeId) :
 Calls prog 201 #[.slice (some ⟨W.heap.size,0,none⟩) 2 2] (W.alloc (.cells #[.slice p.a i p.c,.slice q.a j q.c] t)) (RetERow (W.alloc (.cells #[.slice p.a i p.c,.slice q.a j q.c] t)) (p.l++q.l)):=by
 have hb:Below W.heap.size W (W.alloc (.cells #[.slice p.a i p.c,.slice q.a j q.c] t)):=(Below.refl W.heap.size W).alloc (Nat.le_refl _) _
 have h:=yH W.heap.size [p,q] (W.alloc (.cells #[.slice p.a i p.c,.slice q.a j q.c] t)) (by simp) (fun k hk=>by
  match k,hk with
  | 0,_=>simp [World.cell?_alloc_new,EPc.v,hi]
  | 1,_=>simp [World.cell?_alloc_new,EPc.v,hj]) (fun k hk=>by
  match k,hk with
  | 0,_=>exact hp.later hb
  | 1,_=>exact hq.later hb) (by simp) (by simp [esumP];omega)
 have e:ecatP [p,q]=p.l++q.l:=by simp [ecatP]
 rw [e] at h
 exact h
end Go.Proofs.YtbagenpobcgjnaaGreat
namespace Go.Proofs.YtbagenpobcgjnaaGreat
open Go.Proofs.Tryz
set_option maxRecDepth 100000
open Lib (hid)
open Go.RowKit
set_option maxHeartbeats 400000 in
theorem bF (s:ByteArray) (hs:s.size≤maxLen) (w:World) :
 Calls prog 106 #[.string s] w fun e w'=>e=.returned (.bool (markB s.data.toList))∧w=w':=by
 unfold maxLen at hs
 by_cases z1:s.size<1
 ·rw [xR (by rw [qW];exact z1)]
  go_enter func106,ntmps106
  go_wp2
  go_ret
  exact ⟨rfl,rfl⟩
 by_cases z2:8<s.size
 ·have z3:1≤s.size:=by omega
  rw [AK (by rw [qW];exact z2)]
  clear z1
  go_enter func106,ntmps106
  go_wp2
  go_ret
  exact ⟨rfl,rfl⟩
 have z3:1≤s.size:=by omega
 have z4:s.size≤8:=by omega
 clear z1 z2
 obtain ⟨r,hr⟩:∃ r,markB s.data.toList=r:=⟨_,rfl⟩
 rw [hr]
 have HR:=hid hr;clear hr
 go_enter func106,ntmps106
 go_wp2
 go_loop [14] (fun i=>∃ k:Nat,k≤s.size∧i=.int .i64 k∧(s.data.toList.take k).all letB=true) (fun i=>s.size - (intOf i).toNat)
 case atStart=>exact ⟨0,Nat.zero_le _,rfl,rfl⟩
 case round =>
  obtain ⟨k,hk,rfl,hall⟩:=hrel
  have HA:=hid hall;clear hall
  by_cases hlt:k<s.size
  ·have aa:=s[k].toNat_lt
   by_cases g1:97≤s[k].toNat
   ·by_cases g2:s[k].toNat≤122
    ·have h2:=hid (uH hlt HA.out g1 g2)
     go_wp2
     go_round
     case rel=>exact ⟨k+1,by omega,by go_num,h2.out⟩
     case measure=>simp [intOf];omega
    ·have h2:=hid (mC hlt (.inr (by omega)))
     have g2':122<s[k].toNat:=by omega
     go_wp2
     go_ret
     exact ⟨aM (by rw [← HR.out,h2.out]),rfl⟩
   ·have h2:=hid (mC hlt (.inl (by omega)))
    have g1':s[k].toNat<97:=by omega
    go_wp2
    go_ret
    exact ⟨aM (by rw [← HR.out,h2.out]),rfl⟩
  ·obtain rfl:k=s.size:=by omega
   have h2:=hid (zP HA.out)
   go_wp2
   go_ret
   exact ⟨aM (by rw [← HR.out,h2.out,decide_eq_true z3,decide_eq_true z4];rfl),rfl⟩
set_option linter.unusedVariables false
structure CutI (s:ByteArray) (w:World) (cur:ByteArray) (L:List ByteArray) (v:Value) (wr:World):Prop where
 own:wr.ownsRow w.heap.size 9 1 v L.length (strVs L)
 bel:Below w.heap.size w wr
 val:vld cur.data.toList
 len:L.length+cur.size≤s.size
 go:∀ L',Ctd cur L'→Ctd s (L++L')
 prev:∀ x∈L,x.size≤1000000
 two:L=[]∨∃ L0 p,L=L0++[p]∧16<p.size+cur.size∧0<cur.size
theorem CutI.start {s:ByteArray} {w wr:World} (hv:vld s.data.toList) (hb:Below w.heap.size w wr):CutI s w s [] (.slice none 0 0) wr:=
 ⟨World.ownsRow_nil _ _ _ _,hb,hv,by simp,fun L' h=>h,fun x h=>absurd h (by simp),.inl rfl⟩
theorem CutI.step {s cur:ByteArray} {w wr w2:World} {L:List ByteArray} {v v':Value} (h:CutI s w cur L v wr) (h16:16<cur.size)
 (hown:w2.ownsRow w.heap.size 9 1 v' (L.length+1) (strVs L++[.string (cur.extract 0 (cutN cur))])) (hb:Below w.heap.size w w2) :
 CutI s w (cur.extract (cutN cur) cur.size) (L++[cur.extract 0 (cutN cur)]) v' w2:=by
 have hn:=iO cur
 have aa:=mI cur h.val h16
 have hp:=lL cur (cutN cur) h.val (qM cur)
 have z1:=bD cur (cutN cur) (by omega)
 have z2:=cK cur (cutN cur)
 have hl:=h.len
 refine ⟨?_,hb,hp.2,?_,fun L' h'=>?_,fun x hx=>?_,.inr ⟨L,_,rfl,by omega,by omega⟩⟩
 ·rw [lI,List.length_append];exact hown
 ·simp only [List.length_append,List.length_cons,List.length_nil];omega
 ·rw [List.append_assoc];exact h.go _ (.more h16 h')
 ·rcases List.mem_append.1 hx with g|g
  ·exact h.prev x g
  ·simp only [List.mem_singleton] at g;subst g;omega
def RetCut (s:ByteArray) (w:World) (e:Ending) (w':World):Prop:=∃ L,CutP s L∧L.length≤s.size∧RetStrs w L e w'
theorem uB {w w':World} {v:Value} {L:List ByteArray} (h:w'.ownsRow w.heap.size 9 1 v L.length (strVs L)) (hb:Below w.heap.size w w'):RetStrs w L (.returned v) w':=by
 obtain ⟨a,c,rfl,hs⟩:=JK h
 exact ⟨a,c,rfl,hs.weak fun _ h=>h.2,hb⟩
theorem CutI.none {s cur:ByteArray} {w wr:World} {L:List ByteArray} {v:Value} (hs:vld s.data.toList) (h:CutI s w cur L v wr) (h0:cur.size=0):RetCut s w (.returned v) wr:=by
 have hg:=h.go [] (.none h0)
 rw [List.append_nil] at hg
 exact ⟨L,.inl ⟨hs,hg⟩,by have:=h.len;omega,uB h.own h.bel⟩
theorem CutI.last {s cur:ByteArray} {w wr w2:World} {L:List ByteArray} {v v':Value} (hs:vld s.data.toList) (h:CutI s w cur L v wr) (h0:0<cur.size) (h1:cur.size≤16)
 (hown:w2.ownsRow w.heap.size 9 1 v' (L.length+1) (strVs L++[.string cur])) (hb:Below w.heap.size w w2):RetCut s w (.returned v') w2:=by
 have hg:=h.go [cur] (.last h0 h1)
 refine ⟨L++[cur],.inl ⟨hs,hg⟩,by have:=h.len;simp only [List.length_append,List.length_cons,List.length_nil];omega,uB ?_ hb⟩
 rw [lI,List.length_append];exact hown
theorem AR {s:ByteArray} {w w':World} (h:¬ vld s.data.toList) (hb:Below w.heap.size w w'):RetCut s w (.returned (.slice none 0 0)) w':=
 ⟨[],.inr ⟨h,rfl⟩,Nat.zero_le _,qB hb⟩
end Go.Proofs.YtbagenpobcgjnaaGreat
namespace Go.Proofs.YtbagenpobcgjnaaGreat
open Go.Proofs.Tryz
open Go.RowKit Go.ChangeShapes Go.WideShapes Go.Deep
set_option linter.unusedVariables false
section
variable {H : Type} {enc : TypeId × Value → H} {P : Program} {w : World} {base : Nat} {spare : Nat → Bool} {held : Bool}
end
section
variable {H : Type} {enc : TypeId × Value → H} {w : World} {base : Nat} {spare : Nat → Bool} {held : Bool}
theorem qR:prog.cellsOf 54=1:=by kernel_rfl
end
end Go.Proofs.YtbagenpobcgjnaaGreat
