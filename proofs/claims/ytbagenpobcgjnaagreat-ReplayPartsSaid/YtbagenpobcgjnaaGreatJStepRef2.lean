/-
  Joined: StepRef2, StaCat, StkCat, StkDev, StkDev2, StkRef.
-/
import Derived.Test.YtbagenpobcgjnaaGreatStepDev2
import Derived.Deep.AppendLies
import Derived.Deep.RegionHeld3
import Derived.Test.YtbagenpobcgjnaaGreatJStkRow
import Derived.Test.YtbagenpobcgjnaaGreatStateShelf
import Derived.Laws.AppendOwnNone
import Derived.Test.YtbagenpobcgjnaaGreatStackShelf
namespace Go.Proofs.YtbagenpobcgjnaaGreat
open Go.RowKit
set_option linter.unusedVariables false
set_option linter.unusedSimpArgs false
theorem aJ {w:World} {base size n:Nat} {e:TypeId} {v:Value} {xs:List Value} (h:w.ownsRow base e size v n xs) {p:Addr} (hp:p.block<base) (u:Value):(w.setCell p u).ownsRow base e size v n xs:=by
 refine ⟨h.1,?_⟩
 rcases h.2 with h2|⟨g,cap,cur,hv,aa,hg,hr⟩
 ·exact .inl h2
 ·exact .inr ⟨g,cap,cur,hv,aa,(Below.heap_setCell w p u g (fun e=>by omega)).trans hg,hr⟩
end Go.Proofs.YtbagenpobcgjnaaGreat
namespace Go.Proofs.YtbagenpobcgjnaaGreat
open Go.Proofs.Tryz
set_option maxRecDepth 100000
open Lib (hid)
open Go.Shelf Go.RowKit
set_option linter.unusedVariables false
set_option maxHeartbeats 800000 in
theorem DD (n:Nat) (hn:n≤1000000) (w:World):Calls prog 158 #[.slice none 0 0,.int .i64 n] w fun e w'=>∃ v,e=.returned v∧w'.ownsRow w.heap.size 54 1 v 0 []∧Below w.heap.size w w':=by
 obtain ⟨i0,hi,aa,ab,ac⟩:=info_parts dL
 rcases Nat.eq_zero_or_pos n with rfl|hp
 ·have h:=Any8.slices_Grow_room Tryz.mkGrowT none 0 0 0 w (Nat.le_refl _) (by omega) (by omega) (by omega)
  change Calls prog 158 _ _ _ at h
  refine h.mono ?_
  rintro e w' ⟨rfl,rfl⟩
  exact ⟨_,rfl,World.ownsRow_nil _ _ _ _,Below.refl _ _⟩
 ·have h:=Any8.slices_Grow_grow Tryz.mkGrowT i0 _ hi aa (by rw [ab];decide) none 0 0 n [] w (Nat.le_refl _) (by omega) (by rw [ac];omega) (by omega) (by simp) (fun _=>rfl) (fun a e=>by cases e)
  change Calls prog 158 _ _ _ at h
  refine h.mono ?_
  rintro e w' ⟨rfl,rfl⟩
  have hge:=grownCap_ge w (0+n) 0 (Tryz.mkGrowT_ren.t 25)
  have hle:=grownCap_le_maxLen w (0+n) 0 (Tryz.mkGrowT_ren.t 25) (by unfold maxLen;omega)
  refine ⟨_,rfl,World.ownsRow_made w.drew _ _ (Nat.le_refl _) hle ?_,((Below.refl w.heap.size w).drew).alloc (Nat.le_refl _) _⟩
  simp only [Nat.zero_add] at hge ⊢
  simp [Builtin.zeroCells,Value.cells]
  omega
set_option maxHeartbeats 1600000 in
theorem wW (r:Nat) (ps:List SPc) (w:World) (hr:r<w.heap.size) (hps:∀ k,k<ps.length→w.cell? ⟨r,k,none⟩=some (ps[k]!).v) (hp:∀ k,k<ps.length→SPcs w ps[k]!) (hl:ps.length≤1000) (hs:ssumP ps≤100000) :
 Calls prog 133 #[.slice (some ⟨r,0,none⟩) ps.length ps.length] w (RetSRow w (scatP ps)):=by
 obtain ⟨i0,hi,aj,ak,al⟩:=info_parts dL
 obtain ⟨m,hm⟩:∃ m,ps.length=m:=⟨_,rfl⟩
 rw [hm] at hl ⊢
 have HM:=hid hm;have ae:=hid hps;have HP:=hid hp;have HS:=hid hs;have HR:=hid hr
 clear hm hps hp hs hr
 go_enter func133,ntmps133
 go_wp2
 go_loop [3,11] (fun z i=>∃ k:Nat,k≤m∧i=.int .i64 k∧z=.int .i64 (ssumP (ps.take k):Nat)) (fun _ i=>m - (intOf i).toNat)
 case atStart=>exact ⟨0,Nat.zero_le _,rfl,rfl⟩
 case round =>
  obtain ⟨k,hk,rfl,rfl⟩:=hrel
  have hb:=Nat.le_trans (cZ ps k) HS.out
  by_cases hlt:k<m
  ·have hkl:k<ps.length:=by rw [HM.out];exact hlt
   have q0:=ae.out k hkl
   have h2:=eX ps k hkl
   have am:=Nat.le_trans (cZ ps (k+1)) HS.out
   obtain ⟨x,hx⟩:∃ x,ps[k]! = x:=⟨_,rfl⟩
   rw [hx] at q0 h2
   obtain ⟨xa,xl,xc⟩:=x
   simp only [SPc.v] at q0 h2
   obtain ⟨n,hn⟩:∃ n,xl.length=n:=⟨_,rfl⟩
   rw [hn] at q0 h2
   obtain ⟨s,hs⟩:∃ s,ssumP (ps.take k)=s:=⟨_,rfl⟩
   rw [hs] at h2 hb ⊢
   have HX:=hid h2
   have aw:s+n≤100000:=by omega
   have b0:(0:Int)≤(k:Int):=by omega
   have b1:(k:Int)<(m:Int):=by omega
   have b2:¬ (s:Int)+(n:Int)<0:=by omega
   clear hx hn hs h2 am
   go_wp2
   go_round
   case rel=>exact ⟨k+1,by omega,by go_num,by rw [HX.out];go_num⟩
   case measure=>simp [intOf];omega
  ·obtain rfl:k=m:=by omega
   have hz:ssumP (ps.take k)=ssumP ps:=by rw [List.take_of_length_le (by rw [HM.out];exact Nat.le_refl _)]
   rw [hz] at hb ⊢
   obtain ⟨s,hs⟩:∃ s,ssumP ps=s:=⟨_,rfl⟩
   rw [hs] at hb ⊢
   have cg:=DD s (by omega) w
   have CG:=hid cg;have ax:=hid hs
   clear hz hs cg
   go_wp2_with fail
   refine CG.out.mono ?_
   rintro e w1 ⟨v,rfl,ab,aa⟩
   have an:=hid aa;have HO:=hid ab
   clear aa ab
   go_wp2
   go_loopw [6,27] (fun v i wr=>∃ j:Nat,j≤k∧i=.int .i64 j∧wr.ownsRow w.heap.size 54 1 v (scatP (ps.take j)).length (sflat (scatP (ps.take j)))∧Below w.heap.size w wr) (fun _ i _=>k - (intOf i).toNat)
   case atStart=>exact ⟨0,Nat.zero_le _,rfl,HO.out,an.out⟩
   case round =>
    obtain ⟨j,hj,rfl,hown,hbel⟩:=hrel
    have hlen:=qR (ps.take j)
    have hle:=Nat.le_trans (cZ ps j) HS.out
    by_cases hlt:j<k
    ·have hjl:j<ps.length:=by rw [HM.out];exact hlt
     have q0:=(hbel.cell (p:=⟨r,j,none⟩) HR.out).trans (ae.out j hjl)
     have hp:=HP.out j hjl
     have h2:=nQ ps j hjl
     have h3:=eX ps j hjl
     have ai:=Nat.le_trans (cZ ps (j+1)) HS.out
     obtain ⟨x,hx⟩:∃ x,ps[j]! = x:=⟨_,rfl⟩
     rw [hx] at q0 hp h2 h3
     obtain ⟨o,ho⟩:∃ o,scatP (ps.take j)=o:=⟨_,rfl⟩
     rw [ho] at hown hlen h2
     have hol:o.length≤100000:=by omega
     have hxl:o.length+x.l.length≤100000:=by omega
     have H2:=hid h2
     have b0:(0:Int)≤(j:Int):=by omega
     have b1:(j:Int)<(k:Int):=by omega
     clear hx ho h2 h3 hlen hle ai
     obtain ⟨xa,xl,xc⟩:=x
     cases xa with
     | none =>
      have e0:xl=[]:=hp.len rfl
      have e1:xc=0:=hp.nil rfl
      subst e0
      subst e1
      simp only [SPc.v,List.length_nil] at q0
      clear hp hxl
      go_wp2_with (at_builtin;refine wpList_append_own_none rfl _ _ 23 rfl w.heap.size 54 i0 1 underlying23 hi _ _ _ rfl hown rfl ?_)
      go_roundw
      case rel=>exact ⟨j+1,by omega,by go_num,by rw [H2.out,List.append_nil];exact hown,hbel⟩
      case measure=>simp [intOf];omega
     | some ad =>
      have hnews:=nI (hp.row.below (fun _ h=>h) hbel)
      simp only [SPc.v] at q0
      have hfl:=eU xl
      have hofl:=kW xl
      obtain ⟨n,hn⟩:∃ n,xl.length=n:=⟨_,rfl⟩
      simp only [hn] at q0 hxl hfl
      have ao:=hid hnews;have aq:=hid hfl;have ar:=hid hofl;have ac:=hid hn
      clear hp hnews hfl hofl hn
      go_wp2_with (at_builtin;refine wpList_append_own _ rfl _ _ 23 rfl w.heap.size 54 i0 _ 1 24 underlying23 hi aj ak al rfl (by decide) _ _ _ rfl hown ad n xc (sflat xl) rfl aq.out ao.out ar.out (by unfold maxLen;omega) (by omega) hbel.size ?_;intro v1 w1 af ag _)
      have aa:Below w.heap.size w w1:=hbel.grown ag hbel.size (aM hown)
      have ah:w1.ownsRow w.heap.size 54 1 v1 (scatP (ps.take (j+1))).length (sflat (scatP (ps.take (j+1)))):=by
       rw [H2.out,rK,List.length_append,ac.out]
       exact af
      have au:=hid ah;have av:=hid aa
      clear af ag hown hbel aa ah q0
      go_wp2
      go_roundw
      case rel=>exact ⟨j+1,by omega,by go_num,au.out,av.out⟩
      case measure=>simp [intOf];omega
    ·obtain rfl:j=k:=by omega
     rw [List.take_of_length_le (by rw [HM.out];exact Nat.le_refl _)] at hown
     obtain ⟨ad,cp,rfl,hn⟩:=iW hown ((qQ HP.out).later hbel)
     have ac:=hid hn;clear hn hown
     go_wp2
     go_ret
     exact ⟨ad,cp,rfl,ac.out,hbel⟩
set_option maxHeartbeats 1000000 in
theorem wU (ad:Addr) (l:List EPc) (c:Nat) (w:World) (hr:Scs w (·<w.heap.size) (some ad) l) (hl:l.length≤1000000) :
 Calls prog 115 #[.slice (some ad) l.length c] w fun e w'=>∃ v,e=.returned v∧w'.ownsRow w.heap.size 54 1 v l.length (sflat l)∧v≠.slice none 0 0∧Below w.heap.size w w':=by
 obtain ⟨i0,hi,ae,af,ag⟩:=info_parts dL
 have q22:∀ (w:World) (a:Option Addr) (n c n' c':Nat),(binOp .eql 23 (.slice a n c) (.slice none n' c')).run prog w=.ok (.bool a.isNone) w:=fun w a n c n' c'=>Lib.run_eql_slice_nil w _ _ a n c n' c' underlying23
 have ab:=hid (nI hr);have aa:=hid (eU l);have ac:=hid (kW l)
 obtain ⟨n,hn⟩:∃ n,l.length=n:=⟨_,rfl⟩
 rw [hn] at hl aa ⊢
 obtain ⟨F,hF⟩:∃ F,sflat l=F:=⟨_,rfl⟩
 rw [hF] at ab aa ac ⊢
 clear hr hn hF
 go_enter func115,ntmps115
 go_wp2_with (at_builtin;refine wpList_append_own _ rfl _ _ 23 rfl w.heap.size 54 i0 _ 1 24 underlying23 hi ae af ag rfl (by decide) _ _ _ rfl (World.ownsRow_made w #[] 0 (Nat.le_refl _) (Nat.zero_le _) (by simp)) ad n c F rfl aa.out (fun j u hj=>Lib.cell?_alloc_some _ (ab.out j u hj)) ac.out (by unfold maxLen;omega) (by omega) (by simp) ?_)
 intro v' w1 hown hgrow hnil
 go_wp2
 go_ret
 refine ⟨v',rfl,by simpa using hown,?_,?_⟩
 ·exact hnil
 ·exact ((Below.refl _ w).alloc (Nat.le_refl _) _).grown hgrow (by simp) (by intro k hk;simp [Value.ownBlock] at hk;omega)
theorem yG (w:World):Calls prog 115 #[.slice none 0 0] w fun e w'=>e=.returned (.slice none 0 0)∧w'=w:=by
 have h:=AnyE.slices_Clone_nil Tryz.mkCloneT 0 0 w
 change Calls prog 115 _ _ _ at h
 exact h
set_option maxHeartbeats 800000 in
theorem DC (n:Nat) (hn:n≤1000000) (w:World):Calls prog 216 #[.slice none 0 0,.int .i64 n] w fun e w'=>∃ v,e=.returned v∧w'.ownsRow w.heap.size 54 1 v 0 []∧Below w.heap.size w w':=by
 obtain ⟨i0,hi,aa,ab,ac⟩:=info_parts dL
 rcases Nat.eq_zero_or_pos n with rfl|hp
 ·have h:=Any8.slices_Grow_room Tryz.mkGrowS none 0 0 0 w (Nat.le_refl _) (by omega) (by omega) (by omega)
  change Calls prog 216 _ _ _ at h
  refine h.mono ?_
  rintro e w' ⟨rfl,rfl⟩
  exact ⟨_,rfl,World.ownsRow_nil _ _ _ _,Below.refl _ _⟩
 ·have h:=Any8.slices_Grow_grow Tryz.mkGrowS i0 _ hi aa (by rw [ab];decide) none 0 0 n [] w (Nat.le_refl _) (by omega) (by rw [ac];omega) (by omega) (by simp) (fun _=>rfl) (fun a e=>by cases e)
  change Calls prog 216 _ _ _ at h
  refine h.mono ?_
  rintro e w' ⟨rfl,rfl⟩
  have hge:=grownCap_ge w (0+n) 0 (Tryz.mkGrowS_ren.t 25)
  have hle:=grownCap_le_maxLen w (0+n) 0 (Tryz.mkGrowS_ren.t 25) (by unfold maxLen;omega)
  refine ⟨_,rfl,World.ownsRow_made w.drew _ _ (Nat.le_refl _) hle ?_,((Below.refl w.heap.size w).drew).alloc (Nat.le_refl _) _⟩
  simp only [Nat.zero_add] at hge ⊢
  simp [Builtin.zeroCells,Value.cells]
  omega
set_option maxHeartbeats 1600000 in
theorem wD (r:Nat) (ps:List SPc) (w:World) (hr:r<w.heap.size) (hps:∀ k,k<ps.length→w.cell? ⟨r,k,none⟩=some (ps[k]!).v) (hp:∀ k,k<ps.length→SPcs w ps[k]!) (hl:ps.length≤1000) (hs:ssumP ps≤100000) :
 Calls prog 215 #[.slice (some ⟨r,0,none⟩) ps.length ps.length] w (RetSRow w (scatP ps)):=by
 obtain ⟨i0,hi,aj,ak,al⟩:=info_parts dL
 obtain ⟨m,hm⟩:∃ m,ps.length=m:=⟨_,rfl⟩
 rw [hm] at hl ⊢
 have HM:=hid hm;have ae:=hid hps;have HP:=hid hp;have HS:=hid hs;have HR:=hid hr
 clear hm hps hp hs hr
 go_enter func215,ntmps215
 go_wp2
 go_loop [3,11] (fun z i=>∃ k:Nat,k≤m∧i=.int .i64 k∧z=.int .i64 (ssumP (ps.take k):Nat)) (fun _ i=>m - (intOf i).toNat)
 case atStart=>exact ⟨0,Nat.zero_le _,rfl,rfl⟩
 case round =>
  obtain ⟨k,hk,rfl,rfl⟩:=hrel
  have hb:=Nat.le_trans (cZ ps k) HS.out
  by_cases hlt:k<m
  ·have hkl:k<ps.length:=by rw [HM.out];exact hlt
   have q0:=ae.out k hkl
   have h2:=eX ps k hkl
   have am:=Nat.le_trans (cZ ps (k+1)) HS.out
   obtain ⟨x,hx⟩:∃ x,ps[k]! = x:=⟨_,rfl⟩
   rw [hx] at q0 h2
   obtain ⟨xa,xl,xc⟩:=x
   simp only [SPc.v] at q0 h2
   obtain ⟨n,hn⟩:∃ n,xl.length=n:=⟨_,rfl⟩
   rw [hn] at q0 h2
   obtain ⟨s,hs⟩:∃ s,ssumP (ps.take k)=s:=⟨_,rfl⟩
   rw [hs] at h2 hb ⊢
   have HX:=hid h2
   have aw:s+n≤100000:=by omega
   have b0:(0:Int)≤(k:Int):=by omega
   have b1:(k:Int)<(m:Int):=by omega
   have b2:¬ (s:Int)+(n:Int)<0:=by omega
   clear hx hn hs h2 am
   go_wp2
   go_round
   case rel=>exact ⟨k+1,by omega,by go_num,by rw [HX.out];go_num⟩
   case measure=>simp [intOf];omega
  ·obtain rfl:k=m:=by omega
   have hz:ssumP (ps.take k)=ssumP ps:=by rw [List.take_of_length_le (by rw [HM.out];exact Nat.le_refl _)]
   rw [hz] at hb ⊢
   obtain ⟨s,hs⟩:∃ s,ssumP ps=s:=⟨_,rfl⟩
   rw [hs] at hb ⊢
   have cg:=DC s (by omega) w
   have CG:=hid cg;have ax:=hid hs
   clear hz hs cg
   go_wp2_with fail
   refine CG.out.mono ?_
   rintro e w1 ⟨v,rfl,ab,aa⟩
   have an:=hid aa;have HO:=hid ab
   clear aa ab
   go_wp2
   go_loopw [6,27] (fun v i wr=>∃ j:Nat,j≤k∧i=.int .i64 j∧wr.ownsRow w.heap.size 54 1 v (scatP (ps.take j)).length (sflat (scatP (ps.take j)))∧Below w.heap.size w wr) (fun _ i _=>k - (intOf i).toNat)
   case atStart=>exact ⟨0,Nat.zero_le _,rfl,HO.out,an.out⟩
   case round =>
    obtain ⟨j,hj,rfl,hown,hbel⟩:=hrel
    have hlen:=qR (ps.take j)
    have hle:=Nat.le_trans (cZ ps j) HS.out
    by_cases hlt:j<k
    ·have hjl:j<ps.length:=by rw [HM.out];exact hlt
     have q0:=(hbel.cell (p:=⟨r,j,none⟩) HR.out).trans (ae.out j hjl)
     have hp:=HP.out j hjl
     have h2:=nQ ps j hjl
     have h3:=eX ps j hjl
     have ai:=Nat.le_trans (cZ ps (j+1)) HS.out
     obtain ⟨x,hx⟩:∃ x,ps[j]! = x:=⟨_,rfl⟩
     rw [hx] at q0 hp h2 h3
     obtain ⟨o,ho⟩:∃ o,scatP (ps.take j)=o:=⟨_,rfl⟩
     rw [ho] at hown hlen h2
     have hol:o.length≤100000:=by omega
     have hxl:o.length+x.l.length≤100000:=by omega
     have H2:=hid h2
     have b0:(0:Int)≤(j:Int):=by omega
     have b1:(j:Int)<(k:Int):=by omega
     clear hx ho h2 h3 hlen hle ai
     obtain ⟨xa,xl,xc⟩:=x
     cases xa with
     | none =>
      have e0:xl=[]:=hp.len rfl
      have e1:xc=0:=hp.nil rfl
      subst e0
      subst e1
      simp only [SPc.v,List.length_nil] at q0
      clear hp hxl
      go_wp2_with (at_builtin;refine wpList_append_own_none rfl _ _ 166 rfl w.heap.size 54 i0 1 underlying166 hi _ _ _ rfl hown rfl ?_)
      go_roundw
      case rel=>exact ⟨j+1,by omega,by go_num,by rw [H2.out,List.append_nil];exact hown,hbel⟩
      case measure=>simp [intOf];omega
     | some ad =>
      have hnews:=nI (hp.row.below (fun _ h=>h) hbel)
      simp only [SPc.v] at q0
      have hfl:=eU xl
      have hofl:=kW xl
      obtain ⟨n,hn⟩:∃ n,xl.length=n:=⟨_,rfl⟩
      simp only [hn] at q0 hxl hfl
      have ao:=hid hnews;have aq:=hid hfl;have ar:=hid hofl;have ac:=hid hn
      clear hp hnews hfl hofl hn
      go_wp2_with (at_builtin;refine wpList_append_own _ rfl _ _ 166 rfl w.heap.size 54 i0 _ 1 24 underlying166 hi aj ak al rfl (by decide) _ _ _ rfl hown ad n xc (sflat xl) rfl aq.out ao.out ar.out (by unfold maxLen;omega) (by omega) hbel.size ?_;intro v1 w1 af ag _)
      have aa:Below w.heap.size w w1:=hbel.grown ag hbel.size (aM hown)
      have ah:w1.ownsRow w.heap.size 54 1 v1 (scatP (ps.take (j+1))).length (sflat (scatP (ps.take (j+1)))):=by
       rw [H2.out,rK,List.length_append,ac.out]
       exact af
      have au:=hid ah;have av:=hid aa
      clear af ag hown hbel aa ah q0
      go_wp2
      go_roundw
      case rel=>exact ⟨j+1,by omega,by go_num,au.out,av.out⟩
      case measure=>simp [intOf];omega
    ·obtain rfl:j=k:=by omega
     rw [List.take_of_length_le (by rw [HM.out];exact Nat.le_refl _)] at hown
     obtain ⟨ad,cp,rfl,hn⟩:=iW hown ((qQ HP.out).later hbel)
     have ac:=hid hn;clear hn hown
     go_wp2
     go_ret
     exact ⟨ad,cp,rfl,ac.out,hbel⟩
theorem scat2 {W:World} {p q:SPc} (i j:Nat) (hp:SPcs W p) (hq:SPcs W q) (hi:p.l.length=i) (hj:q.l.length=j) (hs:i+j≤1000) (t:TypeId) :
 Calls prog 215 #[.slice (some ⟨W.heap.size,0,none⟩) 2 2] (W.alloc (.cells #[.slice p.a i p.c,.slice q.a j q.c] t)) (RetSRow (W.alloc (.cells #[.slice p.a i p.c,.slice q.a j q.c] t)) (p.l++q.l)):=by
 have hb:Below W.heap.size W (W.alloc (.cells #[.slice p.a i p.c,.slice q.a j q.c] t)):=(Below.refl W.heap.size W).alloc (Nat.le_refl _) _
 have h:=wD W.heap.size [p,q] (W.alloc (.cells #[.slice p.a i p.c,.slice q.a j q.c] t)) (by simp) (fun k hk=>by
  match k,hk with
  | 0,_=>simp [World.cell?_alloc_new,SPc.v,hi]
  | 1,_=>simp [World.cell?_alloc_new,SPc.v,hj]) (fun k hk=>by
  match k,hk with
  | 0,_=>exact hp.later hb
  | 1,_=>exact hq.later hb) (by simp) (by simp [ssumP];omega)
 have e:scatP [p,q]=p.l++q.l:=by simp [scatP]
 rw [e] at h
 exact h
end Go.Proofs.YtbagenpobcgjnaaGreat
namespace Go.Proofs.YtbagenpobcgjnaaGreat
open Go.Proofs.Tryz
set_option maxRecDepth 100000
open Lib (hid)
open Go.RowKit
set_option linter.unusedVariables false
set_option linter.unusedSimpArgs false
set_option maxHeartbeats 800000 in
theorem sR (a:Option Addr) (c:Nat) (w:World) :
 Calls prog 131 #[.slice a 0 c] w fun e w'=>e=.returned (.tuple #[.slice none 0 0,stpV none 0 0,.bool false])∧Below w.heap.size w w':=by
 have aa:Below w.heap.size w ((w.alloc (.cells #[.slice none 0 0] 54)).alloc (.cells #[.slice none 0 0] 54)).drew:=(((Below.refl w.heap.size w).alloc (Nat.le_refl _) _).alloc (by simp) _).drew
 have HB:=hid aa;clear aa
 go_enter func131,ntmps131
 go_wp2
 go_region
 all_goals go_wp2
 all_goals
  refine bodyPost_ret (v:=.tuple #[.slice none 0 0,stpV none 0 0,.bool false]) (by simp [results,results131,go_sem]) rfl ?_
  exact ⟨rfl,HB.out⟩
set_option maxHeartbeats 800000 in
theorem tH (ad:Addr) (c k:Nat) (y:EPc) (w:World) (hc:w.cell? (ad.add k)=some y.v) (hkc:k+1≤c) (hcm:c≤maxLen) :
 Calls prog 131 #[.slice (some ad) (k+1:Nat) c] w fun e w'=>e=.returned (.tuple #[.slice (some ad) k c,stpV y.a y.l.length y.c,.bool true])∧Below w.heap.size w w':=by
 obtain ⟨ya,yl,yc⟩:=y
 simp only [EPc.v] at hc ⊢
 unfold maxLen at hcm
 obtain ⟨n,hn⟩:∃ n,yl.length=n:=⟨_,rfl⟩
 rw [hn] at hc ⊢
 have hlt:=World.block_lt_of_cell? w _ hc
 rw [bD] at hlt
 obtain ⟨W,hW⟩:∃ W,w.alloc (.cells #[.slice none 0 0] 54)=W:=⟨_,rfl⟩
 have aa:Below w.heap.size w W:=by rw [← hW];exact (Below.refl w.heap.size w).alloc (Nat.le_refl _) _
 have B:=Blk.new w #[.slice none 0 0] 54
 rw [hW] at B
 have q1:W.drew.cell? (ad.add k)=some (.slice ya n yc):=(aa.cell (p:=ad.add k) (by rw [bD];exact hlt)).trans hc
 have q2:W.drew.cell? ⟨w.heap.size,0,none⟩=some (.slice none 0 0):=B.cell 0 _ rfl
 have q3:W.drew.frozen? ⟨w.heap.size,0,none⟩=false:=B.free 0
 have ab:k≤c:=by omega
 have HB:=hid (aa.drew.setCell (p:=⟨w.heap.size,0,none⟩) (Nat.le_refl _) (.slice ya n yc))
 have q4:(W.setCell ⟨w.heap.size,0,none⟩ (.slice ya n yc)).cell? ⟨w.heap.size,0,none⟩=some (.slice ya n yc):=World.cell?_setCell_same' _ _ _ (by rw [show W.cell? ⟨w.heap.size,0,none⟩=_ from q2];rfl)
 clear hn hlt aa B hc
 go_enter func131,ntmps131
 go_wp2
 go_region
 all_goals go_wp2
 all_goals
  refine bodyPost_ret (v:=.tuple #[.slice (some ad) k c,stpV ya n yc,.bool true]) (by simp [results,results131,go_sem,q4]) rfl ?_
  exact ⟨rfl,HB.out⟩
set_option maxHeartbeats 800000 in
theorem xT (a:Option Addr) (l:List Edt) (c:Nat) (w:World) (hp:EPcs w ⟨a,l,c⟩) (hl:l.length≤1000000) :
 Calls prog 205 #[stpV a l.length c] w (RetStp w l):=by
 obtain ⟨W1,aa⟩:∃ W1,w.alloc (.cells #[.slice a l.length c] 54)=W1:=⟨_,rfl⟩
 obtain ⟨wX,hwX⟩:∃ wX,W1.alloc (.cells #[.slice none 0 0] 54)=wX:=⟨_,rfl⟩
 have b1:Below w.heap.size w W1:=by rw [← aa];exact (Below.refl _ _).alloc (Nat.le_refl _) _
 have z1:W1.heap.size=w.heap.size+1:=by rw [← aa];simp
 have z3:wX.heap.size=w.heap.size+2:=by rw [← hwX];simp [z1]
 have c3:Below W1.heap.size W1 wX:=by rw [← hwX];exact (Below.refl _ _).alloc (Nat.le_refl _) _
 have B1:Blk W1 w.heap.size #[.slice a l.length c] 54:=by rw [← aa];exact Blk.new _ _ _
 have B3:Blk wX W1.heap.size #[.slice none 0 0] 54:=by rw [← hwX];exact Blk.new _ _ _
 have B1:Blk wX w.heap.size #[.slice a l.length c] 54:=B1.onto c3
 have ab:Below w.heap.size w wX:=b1.trans (c3.mono (by omega))
 have x0:=B1.cell 0 _ rfl
 have x4:=B3.cell 0 _ rfl
 have x5:=B3.free 0
 have hpX:EPcs wX ⟨a,l,c⟩:=hp.later ab
 cases a with
 | none =>
  have e0:l=[]:=hp.len rfl
  have e1:c=0:=hp.nil rfl
  subst e0
  subst e1
  have HB:=hid (ab.setCell (p:=⟨W1.heap.size,0,none⟩) (by show w.heap.size≤W1.heap.size;omega) (.slice none 0 0))
  have aa:w.alloc (.cells #[.slice none 0 0] 54)=W1:=aa
  have x0:wX.cell? ⟨w.heap.size,0,none⟩=some (.slice none 0 0):=x0
  have q4:(wX.setCell ⟨W1.heap.size,0,none⟩ (.slice none 0 0)).cell? ⟨W1.heap.size,0,none⟩=some (.slice none 0 0):=World.cell?_setCell_same' _ _ _ (by rw [x4];rfl)
  clear hp hpX ab B1 B3 c3 b1 hl z1 z3
  show Calls prog 205 #[.agg #[.slice none 0 0]] w _
  go_enter func205,ntmps205
  go_wp2_with fail
  refine (oD _).mono ?_
  rintro e w2 ⟨rfl,rfl⟩
  go_wp2
  refine bodyPost_ret (v:=stpV none 0 0) (by simp [results,results205,go_sem,q4]) rfl ?_
  exact ⟨none,0,rfl,ERow.empty _ _,HB.out⟩
 | some ad =>
  have cc:=mB ad l c wX hpX.row hl
  obtain ⟨n,hn⟩:∃ n,l.length=n:=⟨_,rfl⟩
  have CC:=hid cc;have HN:=hid hn;have ac:=hid ab;have ae:=hid (show W1.heap.size<wX.heap.size by omega);have af:=hid (show w.heap.size≤W1.heap.size by omega)
  rw [hn] at aa x0 CC ⊢
  clear hp hpX ab B1 B3 c3 b1 hl z1 z3 cc hn
  show Calls prog 205 #[.agg #[.slice (some ad) n c]] w _
  go_enter func205,ntmps205
  go_wp2_with fail
  refine CC.out.mono ?_
  rintro e w2 ⟨v,rfl,hown,-,hb⟩
  have hown:w2.ownsRow wX.heap.size 92 3 v l.length (Edt.flat l):=by rw [HN.out];exact hown
  obtain ⟨a2,c2,ev,hrow⟩:=eG hown
  rw [HN.out] at ev
  subst ev
  have y4:=(hb.cell (p:=⟨W1.heap.size,0,none⟩) ae.out).trans x4
  have y5:=(hb.frozen (p:=⟨W1.heap.size,0,none⟩) ae.out).trans x5
  have HB:=hid ((ac.out.trans (hb.mono ac.out.size)).setCell (p:=⟨W1.heap.size,0,none⟩) af.out (.slice a2 n c2))
  have HR:=hid ((hrow.set (p:=⟨W1.heap.size,0,none⟩) ae.out (.slice a2 n c2)).mono ac.out.size)
  have q4:(w2.setCell ⟨W1.heap.size,0,none⟩ (.slice a2 n c2)).cell? ⟨W1.heap.size,0,none⟩=some (.slice a2 n c2):=World.cell?_setCell_same' _ _ _ (by rw [y4];rfl)
  clear hown hrow hb
  go_wp2
  refine bodyPost_ret (v:=stpV a2 n c2) (by simp [results,results205,go_sem,q4]) rfl ?_
  exact ⟨a2,c2,by rw [HN.out],HR.out,HB.out⟩
theorem FI (a:Option Addr) (n c:Nat) (w:World) :
 Calls prog 108 #[stpV a n c] w fun e w'=>e=.returned (stpV a n c)∧Below w.heap.size w w':=by
 obtain ⟨W1,aa⟩:∃ W1,w.alloc (.cells #[.slice a n c] 54)=W1:=⟨_,rfl⟩
 obtain ⟨wX,hwX⟩:∃ wX,W1.alloc (.cells #[.slice none 0 0] 54)=wX:=⟨_,rfl⟩
 have b1:Below w.heap.size w W1:=by rw [← aa];exact (Below.refl _ _).alloc (Nat.le_refl _) _
 have z1:W1.heap.size=w.heap.size+1:=by rw [← aa];simp
 have c3:Below W1.heap.size W1 wX:=by rw [← hwX];exact (Below.refl _ _).alloc (Nat.le_refl _) _
 have B1:Blk W1 w.heap.size #[.slice a n c] 54:=by rw [← aa];exact Blk.new _ _ _
 have B3:Blk wX W1.heap.size #[.slice none 0 0] 54:=by rw [← hwX];exact Blk.new _ _ _
 have B1:Blk wX w.heap.size #[.slice a n c] 54:=B1.onto c3
 have HB:=hid ((b1.trans (c3.mono (by omega))).setCell (p:=⟨W1.heap.size,0,none⟩) (by show w.heap.size≤W1.heap.size;omega) (.slice a n c))
 have x0:=B1.cell 0 _ rfl
 have x4:=B3.cell 0 _ rfl
 have x5:=B3.free 0
 have q4:(wX.setCell ⟨W1.heap.size,0,none⟩ (.slice a n c)).cell? ⟨W1.heap.size,0,none⟩=some (.slice a n c):=World.cell?_setCell_same' _ _ _ (by rw [x4];rfl)
 clear b1 c3 B1 B3 z1
 show Calls prog 108 #[.agg #[.slice a n c]] w _
 go_enter func108,ntmps108
 go_wp2
 refine bodyPost_ret (v:=stpV a n c) (by simp [results,results108,go_sem,q4]) rfl ?_
 exact ⟨rfl,HB.out⟩
def nilS:EPc:=⟨none,[],0⟩
theorem smade (n:Nat):(madeCells #[.slice none 0 0] (n * 1)).toList=sflat (List.replicate n nilS):=by
 refine List.ext_getElem? fun j=>?_
 rcases Nat.lt_or_ge j n with g|g
 ·rw [eQ _ _ (by rw [List.length_replicate];exact g),epget (by rw [List.length_replicate];exact g),List.getElem_replicate]
  unfold madeCells
  simp [g,Nat.mod_one]
  rfl
 ·rw [List.getElem?_eq_none (by simp [madeCells];exact g),List.getElem?_eq_none (by rw [eU,List.length_replicate];omega)]
theorem rA (l:List EPc) (k:Nat) (x:EPc):(sflat l).set k x.v=sflat (l.set k x):=by
 unfold sflat
 rw [List.map_set]
def RetStk (w:World) (L:List (List Edt)) (e:Ending) (w':World):Prop:=∃ a c l,e=.returned (.slice a l.length c)∧lsP l=L∧SRow w' w.heap.size ⟨a,l,c⟩∧(∃ g,a=some ⟨g,0,none⟩∧w.heap.size≤g∧∀ x∈l,ERow w' (g+1) x)∧w'.ownsRow w.heap.size 54 1 (.slice a l.length c) l.length (sflat l)∧Below w.heap.size w w'
theorem mP {w:World} {base b2 size n:Nat} {e:TypeId} {v:Value} {xs:List Value} (h:w.ownsRow base e size v n xs) (hb:b2≤base):w.ownsRow b2 e size v n xs:=by
 refine ⟨h.1,?_⟩
 rcases h.2 with h2|⟨g,cap,cur,hv,aa,hr⟩
 ·exact .inl h2
 ·exact .inr ⟨g,cap,cur,hv,Nat.le_trans hb aa,hr⟩
set_option maxHeartbeats 1600000 in
theorem uT (a:Option Addr) (l:List EPc) (c:Nat) (w:World) (hp:SPcs w ⟨a,l,c⟩) (hl:l.length≤1000) (hb:∀ x∈l,x.l.length≤1000000) :
 Calls prog 204 #[.slice a l.length c,.func (.func 205) #[] #[]] w (RetStk w (lsP l)):=by
 obtain ⟨i0,hi,ai,aj,ak⟩:=info_parts dL
 obtain ⟨n,hn⟩:∃ n,l.length=n:=⟨_,rfl⟩
 obtain ⟨wM,hrun,hown,hgrow⟩:=run_make_full (P:=prog) w w.heap.size 166 54 i0 _ 1 underlying166 hi ai aj .i64 .i64 n (by rw [ak];omega) (by unfold maxLen;omega) (Nat.le_refl _)
 have hbM:Below w.heap.size w wM:=(Below.refl _ _).grown hgrow (Nat.le_refl _) (fun k hk=>by cases hk)
 have hown:wM.ownsRow w.heap.size 54 1 (.slice (some ⟨w.heap.size,0,none⟩) n n) n (sflat ([]++List.replicate (n - 0) nilS)):=by
  rw [List.nil_append,Nat.sub_zero,← smade]
  exact hown
 obtain ⟨g,hg⟩:∃ g,w.heap.size=g:=⟨_,rfl⟩
 rw [hn] at hl ⊢
 have HG:=hid hg;have HP:=hid hp;have HN:=hid hn;have ao:=hid hown;have ar:=hid hbM;have au:=hid hb
 rw [hg] at hrun
 clear hn hown hgrow hbM hg hi ai aj ak hp hb
 go_enter func204,ntmps204
 go_wp2
 clear hrun
 go_loopw [13] (fun i wr=>∃ (k:Nat) (qs:List EPc),k≤n∧i=.int .i64 k∧qs.length=k∧wr.ownsRow w.heap.size 54 1 (.slice (some ⟨g,0,none⟩) n n) n (sflat (qs++List.replicate (n - k) nilS))∧lsP qs=(lsP l).take k∧(∀ x∈qs,ERow wr (g+1) x)∧Below w.heap.size w wr) (fun i _=>n - (intOf i).toNat)
 case atStart=>exact ⟨0,[],Nat.zero_le _,rfl,rfl,by rw [← HG.out];exact ao.out,rfl,fun x hx=>absurd hx (by simp),ar.out⟩
 case round =>
  obtain ⟨k,qs,hk,rfl,hqk,hown,hqs,hall,hbel⟩:=hrel
  by_cases hlt:k<n
  ·have hkl:k<l.length:=by rw [HN.out];exact hlt
   have hpr:=HP.out.later hbel
   obtain ⟨ad,rfl,hab,q0⟩:=hpr.row k hkl
   have af:=hpr.all.at k hkl
   have ab:=au.out (l[k]!) (by rw [epget hkl];exact List.getElem_mem hkl)
   have ac:lsP qs++[(l[k]!).l]=(lsP l).take (k+1):=by rw [ltake (by rw [aG];exact hkl),hqs,eI l k hkl]
   obtain ⟨x,hx⟩:∃ x,l[k]! = x:=⟨_,rfl⟩
   rw [hx] at q0 af ab ac
   obtain ⟨xa,xl,xc⟩:=x
   simp only [EPc.v] at q0 ab ac
   have hgl:g<wr.heap.size:=(hown.lt _ rfl).2
   have hbx:Below wr.heap.size wr (wr.alloc (.cells #[.slice xa xl.length xc] 54)):=(Below.refl _ _).alloc (Nat.le_refl _) _
   have co:=xT xa xl xc _ (af.later hbx) ab
   obtain ⟨m,hm⟩:∃ m,xl.length=m:=⟨_,rfl⟩
   have CO:=hid co;have HO:=hid hown;have HM:=hid hm;have av:=hid ac;have aa:=hid hall;have ag:=hid hbx;have aw:=hid hgl;have HQ:=hid hqk
   rw [hm] at q0 CO ag
   have b0:(0:Int)≤(k:Int):=by omega
   have b1:(k:Int)<(n:Int):=by omega
   clear co hown hm hx af ab ac hall hbx hgl hab hpr hqs hqk
   go_wp2_with fail
   refine CO.out.mono ?_
   rintro e w3 ⟨a3,c3,rfl,al,am⟩
   rw [HM.out]
   have ae:Below wr.heap.size wr w3:=ag.out.trans (am.mono ag.out.size)
   have ah:=hid (cK HO.out ae)
   have ax:=hid (hbel.trans (ae.mono hbel.size))
   have f0:=ah.out.frozenAt k
   have hkq:k<(qs++List.replicate (n - k) nilS).length:=by rw [List.length_append,List.length_replicate,HQ.out];omega
   have q3:=(ah.out.cellAt k (by omega)).trans (eQ _ k hkq)
   rw [show (qs++List.replicate (n - k) nilS)[k]! = nilS by rw [epget hkq,List.getElem_append_right (by rw [HQ.out];exact Nat.le_refl _),List.getElem_replicate]] at q3
   have q3:w3.cell? ⟨g,k,none⟩=some (.slice none 0 0):=q3
   have ay:=hid (ah.out.stored k (.slice a3 xl.length c3)).1
   have HE:sflat ((qs++List.replicate (n - k) nilS).set k ⟨a3,xl,c3⟩)=sflat ((qs++[⟨a3,xl,c3⟩])++List.replicate (n - (k+1)) nilS):=by
    rw [List.set_append_right _ _ (by rw [HQ.out];exact Nat.le_refl _),HQ.out,Nat.sub_self,show n - k=(n - (k+1))+1 by omega,List.replicate_succ,List.set_cons_zero,List.append_assoc]
    rfl
   have HS:=hid ((rA (qs++List.replicate (n - k) nilS) k ⟨a3,xl,c3⟩).trans HE)
   have az:=hid (ax.out.setCell (p:=⟨g,k,none⟩) (Nat.le_of_eq HG.out) (.slice a3 m c3))
   have a0:=hid ((al.mono (b2:=g+1) (by have:=aw.out;simp;omega)).set (p:=⟨g,k,none⟩) (Nat.lt_succ_self g) (.slice a3 m c3))
   have a1:=hid (fun x hx=>((aa.out x hx).below ae).set (p:=⟨g,k,none⟩) (Nat.lt_succ_self g) (.slice a3 m c3))
   clear al am ae hbel q0 HE hkq
   go_wp2
   go_roundw
   case rel =>
    refine ⟨k+1,qs++[⟨a3,xl,c3⟩],by omega,by go_num,by rw [List.length_append,HQ.out];rfl,?_,by rw [pH];exact av.out,?_,az.out⟩
    ·have h:=ay.out
     have hS:=HS.out
     simp only [EPc.v] at hS
     rw [hS,HM.out] at h
     exact h
    ·intro x hx
     rcases List.mem_append.1 hx with hx|hx
     ·exact a1.out x hx
     ·obtain rfl:=List.mem_singleton.1 hx
      exact a0.out
   case measure=>simp [intOf];omega
  ·obtain rfl:k=n:=by omega
   rw [Nat.sub_self,List.replicate_zero,List.append_nil] at hown
   have hown:wr.ownsRow w.heap.size 54 1 (.slice (some ⟨g,0,none⟩) k k) qs.length (sflat qs):=by rw [hqk];exact hown
   obtain ⟨a4,c4,ev,hrow⟩:=iW hown (fun x hx=>(hall x hx).in)
   rw [hqk] at ev
   injection ev with e1 e2 e3
   subst e1
   subst e3
   have an:lsP qs=lsP l:=by rw [hqs,List.take_of_length_le (by rw [aG,HN.out];exact Nat.le_refl _)]
   have aq:=hid hrow;have HQ:=hid hqk;have a2:=hid (show wr.ownsRow w.heap.size 54 1 (.slice (some ⟨g,0,none⟩) qs.length k) qs.length (sflat qs) by have h:=hown;rw [hqk] at h ⊢;exact h);have a5:=hid an;have aa:=hid hall
   clear hrow hown hqk hqs hall an
   go_wp2
   go_ret
   exact ⟨_,k,qs,by rw [HQ.out];rfl,a5.out,aq.out,⟨g,rfl,Nat.le_of_eq HG.out,aa.out⟩,a2.out,hbel⟩
end Go.Proofs.YtbagenpobcgjnaaGreat
