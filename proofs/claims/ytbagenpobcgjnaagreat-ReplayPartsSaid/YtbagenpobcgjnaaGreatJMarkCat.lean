/-
  Joined: MarkCat, OpenStk, Same, MarkRef3.
-/
import Derived.Test.YtbagenpobcgjnaaGreatJKnotDev3
import Derived.Test.YtbagenpobcgjnaaGreatMarkShelf
import Derived.Laws.AppendOwnNone
import Derived.Test.YtbagenpobcgjnaaGreatJChunkCut
import Derived.Test.YtbagenpobcgjnaaGreatJStkRow
import Derived.BigQuiet
import Derived.Deep.DeepCutAuto
import Derived.Deep.QuietTactic
import Derived.Test.YtbagenpobcgjnaaGreatJEditDev
import Derived.Deep.RegionHeld3
variable {w:Go.World}
namespace Go.Proofs.YtbagenpobcgjnaaGreat
open Go.Proofs.Tryz
set_option maxRecDepth 100000
open Lib (hid)
open Go.Shelf Go.RowKit
set_option linter.unusedVariables false
structure Pc where
 a:Option Addr
 l:List Mrk
 c:Nat
instance :Inhabited Pc:=⟨⟨none,[],0⟩⟩
def Pc.v (x:Pc):Value:=.slice x.a x.l.length x.c
structure Pcs (w:World) (x:Pc):Prop where
 row:Mrks w (·<w.heap.size) x.a x.l
 nil:x.a=none→x.c=0
theorem Pcs.len {x:Pc} (h:Pcs w x) (hn:x.a=none):x.l=[]:=by
 cases hl:x.l with
 | nil=>rfl
 | cons y r =>
  obtain ⟨ad,e,-⟩:=h.row 0 (by rw [hl];simp)
  rw [hn] at e
  cases e
theorem JV (ad:Addr) (k:Nat):(⟨(ad.add (k * 2)).block,(ad.add (k * 2)).off+1,none⟩:Addr)=ad.add (k * 2+1):=by
 unfold Addr.add
 by_cases hk:k * 2=0
 ·simp [hk]
 ·simp [hk];omega
theorem rJ {B:Nat→Prop} {ad:Addr} {l:List Mrk} (h:Mrks w B (some ad) l):∀ j u,(Mrk.flat l)[j]? = some u→w.cell? (ad.add j)=some u:=fun j u hj=>by
 have hlt:j<l.length * 2:=by
  rcases Nat.lt_or_ge j (l.length * 2) with g|g
  ·exact g
  ·rw [List.getElem?_eq_none (by rw [Mrk.flat_len];exact g)] at hj
   cases hj
 obtain ⟨ad',e,-,q0,q1⟩:=h (j / 2) (by omega)
 obtain rfl:ad=ad':=by injection e
 obtain ⟨g0,g1⟩:=Mrk.flat_get l (j / 2) (by omega)
 rcases (show j=j / 2 * 2∨j=j / 2 * 2+1 by omega) with g|g
 ·rw [g] at hj ⊢
  rw [g0] at hj
  rw [q0]
  exact hj
 ·rw [g] at hj ⊢
  rw [g1] at hj
  rw [← JV,q1]
  exact hj
theorem tU (l:List Mrk):∀ u∈Mrk.flat l,u.oneCell'=true:=fun u hu=>by
 unfold Mrk.flat at hu
 obtain ⟨x,-,hx⟩:=List.mem_flatMap.1 hu
 exact xB _ _ u hx
set_option maxHeartbeats 800000 in
theorem DX (n:Nat) (hn:n≤1000000) (w:World):Calls prog 203 #[.slice none 0 0,.int .i64 n] w fun e w'=>∃ v,e=.returned v∧w'.ownsRow w.heap.size 90 2 v 0 []∧Below w.heap.size w w':=by
 obtain ⟨i0,hi,aa,ab,ac⟩:=info_parts iJ
 rcases Nat.eq_zero_or_pos n with rfl|hp
 ·have h:=Any8.slices_Grow_room Tryz.mkGrow none 0 0 0 w (Nat.le_refl _) (by omega) (by omega) (by omega)
  change Calls prog 203 _ _ _ at h
  refine h.mono ?_
  rintro e w' ⟨rfl,rfl⟩
  exact ⟨_,rfl,World.ownsRow_nil _ _ _ _,Below.refl _ _⟩
 ·have h:=Any8.slices_Grow_grow Tryz.mkGrow i0 _ hi aa (by rw [ab];decide) none 0 0 n [] w (Nat.le_refl _) (by omega) (by rw [ac];omega) (by omega) (by simp) (fun _=>rfl) (fun a e=>by cases e)
  change Calls prog 203 _ _ _ at h
  refine h.mono ?_
  rintro e w' ⟨rfl,rfl⟩
  have hge:=grownCap_ge w (0+n) 0 (Tryz.mkGrow_ren.t 25)
  have hle:=grownCap_le_maxLen w (0+n) 0 (Tryz.mkGrow_ren.t 25) (by unfold maxLen;omega)
  refine ⟨_,rfl,World.ownsRow_made w.drew _ _ (Nat.le_refl _) hle ?_,((Below.refl w.heap.size w).drew).alloc (Nat.le_refl _) _⟩
  simp only [Nat.zero_add] at hge ⊢
  simp [Builtin.zeroCells,Value.cells]
  omega
def sumP (ps:List Pc):Nat:=(ps.map fun x=>x.l.length).sum
def catP (ps:List Pc):List Mrk:=ps.flatMap fun x=>x.l
theorem pget {ps:List Pc} {k:Nat} (h:k<ps.length):ps[k]! = ps[k]:=getElem!_pos ps k h
theorem ptake (ps:List Pc) (k:Nat) (h:k<ps.length):ps.take (k+1)=ps.take k++[ps[k]!]:=by
 rw [List.take_succ_eq_append_getElem h,pget h]
theorem rC (ps:List Pc) (k:Nat) (h:k<ps.length):sumP (ps.take (k+1))=sumP (ps.take k)+(ps[k]!).l.length:=by
 unfold sumP
 rw [ptake ps k h,List.map_append,List.sum_append]
 simp
theorem DG (ps:List Pc) (k:Nat) (h:k<ps.length):catP (ps.take (k+1))=catP (ps.take k)++(ps[k]!).l:=by
 unfold catP
 rw [ptake ps k h,List.flatMap_append]
 simp
theorem KN (ps:List Pc):(catP ps).length=sumP ps:=by
 unfold catP sumP
 rw [List.length_flatMap]
theorem lD (ps:List Pc) (k:Nat):sumP (ps.take k)≤sumP ps:=by
 have e:=congrArg sumP (List.take_append_drop k ps)
 unfold sumP at e ⊢
 rw [List.map_append,List.sum_append] at e
 omega
set_option maxHeartbeats 1600000 in
theorem jK (r:Nat) (ps:List Pc) (w:World) (hr:r<w.heap.size) (hps:∀ k,k<ps.length→w.cell? ⟨r,k,none⟩=some (ps[k]!).v) (hp:∀ k,k<ps.length→Pcs w ps[k]!) (hl:ps.length≤1000) (hs:sumP ps≤100000) :
 Calls prog 180 #[.slice (some ⟨r,0,none⟩) ps.length ps.length] w (RetMrksR w (catP ps)):=by
 obtain ⟨i0,hi,aj,ak,al⟩:=info_parts iJ
 obtain ⟨m,hm⟩:∃ m,ps.length=m:=⟨_,rfl⟩
 rw [hm] at hl ⊢
 have HM:=hid hm;have ae:=hid hps;have HP:=hid hp;have HS:=hid hs;have HR:=hid hr
 clear hm hps hp hs hr
 go_enter func180,ntmps180
 go_wp2
 go_loop [3,11] (fun z i=>∃ k:Nat,k≤m∧i=.int .i64 k∧z=.int .i64 (sumP (ps.take k):Nat)) (fun _ i=>m - (intOf i).toNat)
 case atStart=>exact ⟨0,Nat.zero_le _,rfl,rfl⟩
 case round =>
  obtain ⟨k,hk,rfl,rfl⟩:=hrel
  have hb:=Nat.le_trans (lD ps k) HS.out
  by_cases hlt:k<m
  ·have hkl:k<ps.length:=by rw [HM.out];exact hlt
   have q0:=ae.out k hkl
   have h2:=rC ps k hkl
   have am:=Nat.le_trans (lD ps (k+1)) HS.out
   obtain ⟨x,hx⟩:∃ x,ps[k]! = x:=⟨_,rfl⟩
   rw [hx] at q0 h2
   obtain ⟨xa,xl,xc⟩:=x
   simp only [Pc.v] at q0 h2
   obtain ⟨n,hn⟩:∃ n,xl.length=n:=⟨_,rfl⟩
   rw [hn] at q0 h2
   obtain ⟨s,hs⟩:∃ s,sumP (ps.take k)=s:=⟨_,rfl⟩
   rw [hs] at h2 hb ⊢
   have HX:=hid h2
   have aw:s+n≤100000:=by omega
   have b0:(0:Int)≤(k:Int):=by omega
   have b1:(k:Int)<(m:Int):=by omega
   have b2:¬ (s:Int)+(n:Int)<0:=by omega
   clear hx hn hs h2 am
   go_wp2
   go_round
   case rel=>exact ⟨k+1,by omega,by go_num,by rw [HX.out];go_num⟩
   case measure=>simp [intOf];omega
  ·obtain rfl:k=m:=by omega
   have hz:sumP (ps.take k)=sumP ps:=by rw [List.take_of_length_le (by rw [HM.out];exact Nat.le_refl _)]
   rw [hz] at hb ⊢
   obtain ⟨s,hs⟩:∃ s,sumP ps=s:=⟨_,rfl⟩
   rw [hs] at hb ⊢
   have cg:=DX s (by omega) w
   have CG:=hid cg;have ax:=hid hs
   clear hz hs cg
   go_wp2_with fail
   refine CG.out.mono ?_
   rintro e w1 ⟨v,rfl,ab,aa⟩
   have an:=hid aa;have HO:=hid ab
   clear aa ab
   go_wp2
   go_loopw [6,27] (fun v i wr=>∃ j:Nat,j≤k∧i=.int .i64 j∧wr.ownsRow w.heap.size 90 2 v (catP (ps.take j)).length (Mrk.flat (catP (ps.take j)))∧Below w.heap.size w wr) (fun _ i _=>k - (intOf i).toNat)
   case atStart=>exact ⟨0,Nat.zero_le _,rfl,HO.out,an.out⟩
   case round =>
    obtain ⟨j,hj,rfl,hown,hbel⟩:=hrel
    have hlen:=KN (ps.take j)
    have hle:=Nat.le_trans (lD ps j) HS.out
    by_cases hlt:j<k
    ·have hjl:j<ps.length:=by rw [HM.out];exact hlt
     have q0:=(hbel.cell (p:=⟨r,j,none⟩) HR.out).trans (ae.out j hjl)
     have hp:=HP.out j hjl
     have h2:=DG ps j hjl
     have h3:=rC ps j hjl
     have ai:=Nat.le_trans (lD ps (j+1)) HS.out
     obtain ⟨x,hx⟩:∃ x,ps[j]! = x:=⟨_,rfl⟩
     rw [hx] at q0 hp h2 h3
     obtain ⟨o,ho⟩:∃ o,catP (ps.take j)=o:=⟨_,rfl⟩
     rw [ho] at hown hlen h2
     have hol:o.length≤100000:=by omega
     have hxl:o.length+x.l.length≤100000:=by omega
     have H2:=hid h2
     have b0:(0:Int)≤(j:Int):=by omega
     have b1:(j:Int)<(k:Int):=by omega
     clear hx ho h2 h3 hlen hle ai
     obtain ⟨xa,xl,xc⟩:=x
     cases xa with
     | none =>
      have e0:xl=[]:=hp.len rfl
      have e1:xc=0:=hp.nil rfl
      subst e0
      subst e1
      simp only [Pc.v,List.length_nil] at q0
      clear hp hxl
      go_wp2_with (at_builtin;refine wpList_append_own_none rfl _ _ 22 rfl w.heap.size 90 i0 2 underlying22 hi _ _ _ rfl hown rfl ?_)
      go_roundw
      case rel=>exact ⟨j+1,by omega,by go_num,by rw [H2.out,List.append_nil];exact hown,hbel⟩
      case measure=>simp [intOf];omega
     | some ad =>
      have hnews:=rJ (hp.row.below (fun _ h=>h) hbel)
      simp only [Pc.v] at q0
      have hfl:=Mrk.flat_len xl
      have hofl:=tU xl
      obtain ⟨n,hn⟩:∃ n,xl.length=n:=⟨_,rfl⟩
      simp only [hn] at q0 hxl hfl
      have ao:=hid hnews;have aq:=hid hfl;have ar:=hid hofl;have ac:=hid hn
      clear hp hnews hfl hofl hn
      go_wp2_with (at_builtin;refine wpList_append_own _ rfl _ _ 22 rfl w.heap.size 90 i0 _ 2 24 underlying22 hi aj ak al rfl (by decide) _ _ _ rfl hown ad n xc (Mrk.flat xl) rfl aq.out ao.out ar.out (by unfold maxLen;omega) (by omega) hbel.size ?_;intro v1 w1 af ag _)
      have aa:Below w.heap.size w w1:=hbel.grown ag hbel.size (aM hown)
      have ah:w1.ownsRow w.heap.size 90 2 v1 (catP (ps.take (j+1))).length (Mrk.flat (catP (ps.take (j+1)))):=by
       rw [H2.out,Mrk.flat_app,List.length_append,ac.out]
       exact af
      have au:=hid ah;have av:=hid aa
      clear af ag hown hbel aa ah q0
      go_wp2
      go_roundw
      case rel=>exact ⟨j+1,by omega,by go_num,au.out,av.out⟩
      case measure=>simp [intOf];omega
    ·obtain rfl:j=k:=by omega
     rw [List.take_of_length_le (by rw [HM.out];exact Nat.le_refl _)] at hown
     obtain ⟨ad,cp,rfl,hn⟩:=pR hown
     have ac:=hid hn;clear hn hown
     go_wp2
     go_ret
     exact ⟨ad,cp,rfl,ac.out,hbel⟩
end Go.Proofs.YtbagenpobcgjnaaGreat
namespace Go.Proofs.YtbagenpobcgjnaaGreat
open Go.RowKit Go.ChangeShapes Go.WideShapes Go.Deep
set_option linter.unusedVariables false
section
variable {H : Type} {enc : TypeId × Value → H} {w : World} {base : Nat} {spare : Nat → Bool} {held : Bool}
end
end Go.Proofs.YtbagenpobcgjnaaGreat
namespace Go.Proofs.YtbagenpobcgjnaaGreat
open Go.RowKit
set_option linter.unusedVariables false
set_option linter.unusedSimpArgs false
theorem kY {w':World} {base:Nat} {e:TypeId} {size:Nat} {v:Value} {n:Nat} {xs:List Value} (h:w.ownsRow base e size v n xs) (hb:Below w.heap.size w w'):w'.ownsRow base e size v n xs:=by
 refine ⟨h.1,?_⟩
 rcases h.2 with h2|⟨g,cap,cur,hv,aa,hg,hr⟩
 ·exact .inl h2
 ·exact .inr ⟨g,cap,cur,hv,aa,(hb.block g (by rcases Nat.lt_or_ge g w.heap.size with h' | h';exact h';rw [Array.getElem?_eq_none h'] at hg;cases hg)).trans hg,hr⟩
section
variable {wX w2 w3 : World} {ad : Addr} {b k : Nat} {x y z u v : Value}
end
theorem OW {wr:World} {x y z:Value} {t:TypeId} {N:Nat} (hN:w.heap.size<N) (h:Below N (w.alloc (.cells #[x,y,z] t)) wr):wr.cell? ⟨w.heap.size,0,none⟩=some x∧wr.cell? ⟨w.heap.size,1,none⟩=some y∧wr.cell? ⟨w.heap.size,2,none⟩=some z:=by
 refine ⟨(h.cell (p:=⟨w.heap.size,0,none⟩) hN).trans ?_,(h.cell (p:=⟨w.heap.size,1,none⟩) hN).trans ?_,(h.cell (p:=⟨w.heap.size,2,none⟩) hN).trans ?_⟩ <;> simp [World.cell?_alloc_new]
end Go.Proofs.YtbagenpobcgjnaaGreat
