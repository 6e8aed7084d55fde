/-
  Joined: StepRef2, StaCat, StkCat, StkDev, StkDev2, StkRef.
-/
import Derived.Test.YtbagenpobcgjnaaGreatJSq
import Derived.Test.YtbagenpobcgjnaaGreatStepDev2
import Derived.Deep.AppendLies
import Derived.Deep.RegionHeld3
import Derived.Test.YtbagenpobcgjnaaGreatJStkRow
import Derived.Test.YtbagenpobcgjnaaGreatStateShelf
import Derived.Laws.AppendOwnNone
import Derived.Test.YtbagenpobcgjnaaGreatStackShelf
variable {n:Nat} {w:Go.World}
namespace Go.Proofs.YtbagenpobcgjnaaGreat
open Go.Proofs.Tryz
set_option maxRecDepth 100000
open Lib (hid)
open Go.RowKit
set_option linter.unusedVariables false
set_option linter.unusedSimpArgs false
theorem mL {a b:Int} (h:a=b):Value.int .i64 a=.int .i64 b:=by rw [h]
theorem dF {w':World} {b:Nat} {cs:Array Value} {t:TypeId} {row:Option Nat} (h:Blk w b cs t) (hg:w.grownBy w' row) (hne:row≠some b):Blk w' b cs t:=(hg.block b h.lt (fun e=>hne e.symm)).trans h
theorem lU {b size:Nat} {e:TypeId} {v:Value} {xs:List Value} (h:w.ownsRow (b+1) e size v n xs):v.ownBlock≠some b:=fun hk=>by
 have:=aA h b hk
 omega
theorem aH {base size:Nat} {e:TypeId} {v:Value} {xs:List Value} (h:w.ownsRow base e size v n xs) {p:Addr} (hp:p.block<base) (u:Value):(w.setCell p u).ownsRow base e size v n xs:=by
 refine ⟨h.1,?_⟩
 rcases h.2 with h2|⟨g,cap,cur,hv,aa,hg,hr⟩
 ·exact .inl h2
 ·exact .inr ⟨g,cap,cur,hv,aa,(Below.heap_setCell w p u g (fun e=>by omega)).trans hg,hr⟩
set_option maxHeartbeats 1600000 in
theorem jZ (a:Option Addr) (l:List Edt) (c:Nat) (w:World) (hr:Edts w (·<w.heap.size) a l) (hl:l.length≤100000) :
 Calls prog 40 #[stpV a l.length c] w (RetStp w (invL l)):=by
 obtain ⟨i0,hi,av,aw,ax⟩:=info_parts eQ
 obtain ⟨W1,ao⟩:∃ W1,w.alloc (.cells #[.slice a l.length c] 54)=W1:=⟨_,rfl⟩
 obtain ⟨W2,aq⟩:∃ W2,W1.alloc (.cells #[.slice none 0 0] 54)=W2:=⟨_,rfl⟩
 obtain ⟨wX,hwX⟩:∃ wX,W2.alloc (.cells #[.slice none 0 0] 54)=wX:=⟨_,rfl⟩
 have hst:=Stp.new w a l c hr
 rw [ao] at hst
 have c2:Below W1.heap.size W1 W2:=by rw [← aq];exact (Below.refl _ _).alloc (Nat.le_refl _) _
 have c3:Below W2.heap.size W2 wX:=by rw [← hwX];exact (Below.refl _ _).alloc (Nat.le_refl _) _
 have z1:W1.heap.size=w.heap.size+1:=by rw [← ao];simp
 have z2:W2.heap.size=w.heap.size+2:=by rw [← aq];simp [z1]
 have z3:wX.heap.size=W2.heap.size+1:=by rw [← hwX];simp
 have B3:Blk W2 W1.heap.size #[.slice none 0 0] 54:=by rw [← aq];exact Blk.new _ _ _
 have B4:Blk wX W2.heap.size #[.slice none 0 0] 54:=by rw [← hwX];exact Blk.new _ _ _
 have hst:=hst.on c2
 have x0:=hst.cell
 have x1:=(c3.cell (p:=⟨w.heap.size,0,none⟩) hst.size).trans x0
 obtain ⟨n,hn⟩:∃ n,l.length=n:=⟨_,rfl⟩
 rw [hn] at hl ao x0 x1 ⊢
 have ar:=hid hst;have HN:=hid hn;have a5:=hid c3;have a6:=hid B4;have az:=hid B3;have a7:=hid z3
 have au:=hid (show W1.heap.size<W2.heap.size by omega);have a0:=hid (show w.heap.size≤W1.heap.size by omega)
 clear hst c2 c3 z1 z2 z3 B3 B4 hr hn
 go_enter func40,ntmps40
 go_wp2
 clear ao aq hwX x1
 go_loopw [4] (fun i wr=>∃ (k:Nat) (v:Value),k≤n∧i=.int .i64 ((n:Int) - 1 - (k:Int))∧Blk wr W2.heap.size #[v] 54∧wr.ownsRow (W2.heap.size+1) 92 3 v k (Edt.flat ((invL l).take k))∧Below W2.heap.size W2 wr) (fun i _=>(intOf i+1).toNat)
 case atStart=>exact ⟨0,_,Nat.zero_le _,mL (by omega),a6.out,World.ownsRow_nil _ _ _ _,a5.out⟩
 case round =>
  obtain ⟨k,v,hk,rfl,hblk,hown,hbel⟩:=hrel
  by_cases hlt:k<n
  ·have hkl:k<l.length:=by rw [HN.out];exact hlt
   obtain ⟨j,hj⟩:∃ j,n - 1 - k=j:=⟨_,rfl⟩
   have hjl:j<l.length:=by rw [HN.out];omega
   have hs:=sI l k hkl
   rw [HN.out,hj] at hs
   obtain ⟨ad,rfl,hab,q0,q1,q2⟩:=ar.out.row.at j hjl
   obtain ⟨x,hx⟩:∃ x,l[j]! = x:=⟨_,rfl⟩
   rw [hx] at q0 q1 q2 hs
   obtain ⟨p,o,m⟩:=x
   simp only [Edt.back] at q0 q1 q2 hs
   have ci:=vS p o m
   have aj:(ad.add (j * 3)).block<W2.heap.size:=by rw [show (ad.add (j * 3)).block=ad.block by unfold Addr.add;split <;> rfl];exact hab
   have fs:∀ w',Below W2.heap.size W2 w'→Below W2.heap.size W2 w'∧w'.cell? ⟨w.heap.size,0,none⟩=some (.slice (some ad) n c)∧w'.cell? (ad.add (j * 3))=some (.int .i64 p)∧w'.cell? ⟨(ad.add (j * 3)).block,(ad.add (j * 3)).off+1,none⟩=some (.string o)∧w'.cell? ⟨(ad.add (j * 3)).block,(ad.add (j * 3)).off+2,none⟩=some (.string m):=fun w' h =>
    ⟨h,(h.cell (p:=⟨w.heap.size,0,none⟩) ar.out.size).trans x0,(h.cell aj).trans q0,(h.cell (p:=⟨(ad.add (j * 3)).block,(ad.add (j * 3)).off+1,none⟩) aj).trans q1,(h.cell (p:=⟨(ad.add (j * 3)).block,(ad.add (j * 3)).off+2,none⟩) aj).trans q2⟩
   obtain ⟨q,hq⟩:∃ q,(invL l).take k=q:=⟨_,rfl⟩
   rw [hq] at hs hown
   have HS:=hid hs;have CI:=hid ci;have FS:=hid fs
   have HK:=hid (show Blk wr.drew W2.heap.size #[v] 54 from hblk);have HO:=hid hown.drew
   have y0:=HK.out.cell 0 _ rfl
   have hjk:(n:Int) - 1 - (k:Int)=(j:Int):=by omega
   have b0:(0:Int)≤(j:Int):=by omega
   have b1:(j:Int)<(n:Int):=by omega
   rw [hjk]
   have ay:=hid hjk
   clear hs ci fs hx hab aj hj hown hblk hq q0 q1 q2 hjk
   go_wp2_with fail
   refine wp_region_held_drew (S:=(fun w':World=>Below W2.heap.size W2 w'∧w'.cell? ⟨w.heap.size,0,none⟩=some (.slice (some ad) n c)∧w'.cell? (ad.add (j * 3))=some (.int .i64 p)∧w'.cell? ⟨(ad.add (j * 3)).block,(ad.add (j * 3)).off+1,none⟩=some (.string o)∧w'.cell? ⟨(ad.add (j * 3)).block,(ad.add (j * 3)).off+2,none⟩=some (.string m))) (by kernel_rfl) (FS.out _ hbel.drew) (fun hHeld=>?_)
   refine sqt 0 ?_
   refine sqt 2 ?_
   refine sqt 3 ?_
   refine sqt 4 ?_
   refine sqt 5 ?_
   refine sqt 6 ?_
   refine wpAnyH_ready (rs:=[1,7]) (by kernel_rfl) (by simp) ?_
   refine AllReadyH.cons (by simp only [sqg];rfl) (fun K hK=>?_) (AllReadyH.cons (by simp only [sqg];rfl) (fun K hK=>?_) AllReadyH.nil)
   ·go_simp
    skip
    try go_wp2_with fail
    refine hK.out _ _ ?_ (fun hHeld=>?_)
    ·exact hHeld
    clear hK K
    try simp only [Act.put,sqp]
    refine sqr 7 fun K hK=>?_
    go_simp
    (go_at_call 68;refine (CI.out _).mono ?_;rintro e w3 ⟨rfl,af⟩;have ag:=hid (hbel.drew.trans (af.mono (Below.size hbel.drew)));have ac:=hid (HK.out.onto af);have ae:=hid (bH HO.out af);have y3:=ac.out.cell 0 _ rfl;clear af)
    try go_wp2_with fail
    refine hK.out _ _ ?_ (fun hHeld=>?_)
    ·exact FS.out _ ag.out
    clear hK K
    try simp only [Act.put,sqp]
    refine sqr 8 fun K hK=>?_
    go_simp
    have aa:=hid (ag.out.alloc ag.out.size (.cells #[.int .i64 p,.string m,.string o] 92));have ak:=hid (show W2.heap.size+1≤(w3.alloc (.cells #[.int .i64 p,.string m,.string o] 92)).heap.size from Nat.le_trans (Nat.succ_le_of_lt ac.out.lt) (by simp))
    try go_wp2_with fail
    refine hK.out _ _ ?_ (fun hHeld=>?_)
    ·exact FS.out _ aa.out
    clear hK K
    try simp only [Act.put,sqp]
    refine sqr 9 fun K hK=>?_
    refine step_append_lies _ rfl (.tmp 14) (.tmp 21) 24 rfl (W2.heap.size+1) 92 i0 _ 3 40 underlying24 hi av aw ax rfl (by decide) v k (Edt.flat q) rfl (ae.out.alloc _) ⟨w3.heap.size,0,none⟩ 1 1 [.int .i64 p,.string m,.string o] rfl rfl (oD w3 _ _ _ _) (mQ _ _ _) (by omega) (by unfold maxLen;omega) (by omega) ak.out _ rfl ?_
    intro g5 cap w6 hown' hgrow _ _
    have ah:=hid (aa.out.grown hgrow aa.out.size (fun b hb=>Nat.le_of_succ_le (aA ae.out b hb)));have ab:=hid (dF ((ac.out.alloc _)) hgrow (lU ae.out));have al:=hid hown';have y6:=ab.out.cell 0 _ rfl;have y7:=ab.out.free 0;clear hown' hgrow
    refine hK.out _ _ ?_ (fun hHeld=>?_)
    ·exact FS.out _ ah.out
    clear hK K
    try simp only [Act.put,sqp]
    refine sqt 10 ?_
    refine sqr 11 fun K hK=>?_
    go_simp
    have ai:=hid (ah.out.setCell (p:=⟨W2.heap.size,0,none⟩) (Nat.le_refl _) (.slice (some ⟨g5,0,none⟩) (k+1) cap));have am:=hid (ab.out.set 0 (.slice (some ⟨g5,0,none⟩) (k+1) cap));have an:=hid (aH al.out (p:=⟨W2.heap.size,0,none⟩) (Nat.lt_succ_self _) (.slice (some ⟨g5,0,none⟩) (k+1) cap))
    try go_wp2_with fail
    refine hK.out _ _ ?_ (fun hHeld=>?_)
    ·exact FS.out _ ai.out
    clear hK K
    try simp only [Act.put,sqp]
    refine wpAnyH_done (by kernel_rfl) ?_ _
    go_wp2_with fail
    go_roundw
    case rel=>exact ⟨k+1,_,by omega,mL (by have:=ay.out;omega),am.out,by rw [HS.out,Edt.flat_app];exact an.out,ai.out⟩
    case measure=>simp [intOf]
   ·go_simp
    (go_at_call 68;refine (CI.out _).mono ?_;rintro e w3 ⟨rfl,af⟩;have ag:=hid (hbel.drew.trans (af.mono (Below.size hbel.drew)));have ac:=hid (HK.out.onto af);have ae:=hid (bH HO.out af);have y3:=ac.out.cell 0 _ rfl;clear af)
    try go_wp2_with fail
    refine hK.out _ _ ?_ (fun hHeld=>?_)
    ·exact FS.out _ ag.out
    clear hK K
    try simp only [Act.put,sqp]
    refine wpAnyH_ready (rs:=[1,8]) (by kernel_rfl) (by simp) ?_
    refine AllReadyH.cons (by simp only [sqg];rfl) (fun K hK=>?_) (AllReadyH.cons (by simp only [sqg];rfl) (fun K hK=>?_) AllReadyH.nil)
    ·go_simp
     skip
     try go_wp2_with fail
     refine hK.out _ _ ?_ (fun hHeld=>?_)
     ·exact hHeld
     clear hK K
     try simp only [Act.put,sqp]
     refine sqr 8 fun K hK=>?_
     go_simp
     have aa:=hid (ag.out.alloc ag.out.size (.cells #[.int .i64 p,.string m,.string o] 92));have ak:=hid (show W2.heap.size+1≤(w3.alloc (.cells #[.int .i64 p,.string m,.string o] 92)).heap.size from Nat.le_trans (Nat.succ_le_of_lt ac.out.lt) (by simp))
     try go_wp2_with fail
     refine hK.out _ _ ?_ (fun hHeld=>?_)
     ·exact FS.out _ aa.out
     clear hK K
     try simp only [Act.put,sqp]
     refine sqr 9 fun K hK=>?_
     refine step_append_lies _ rfl (.tmp 14) (.tmp 21) 24 rfl (W2.heap.size+1) 92 i0 _ 3 40 underlying24 hi av aw ax rfl (by decide) v k (Edt.flat q) rfl (ae.out.alloc _) ⟨w3.heap.size,0,none⟩ 1 1 [.int .i64 p,.string m,.string o] rfl rfl (oD w3 _ _ _ _) (mQ _ _ _) (by omega) (by unfold maxLen;omega) (by omega) ak.out _ rfl ?_
     intro g5 cap w6 hown' hgrow _ _
     have ah:=hid (aa.out.grown hgrow aa.out.size (fun b hb=>Nat.le_of_succ_le (aA ae.out b hb)));have ab:=hid (dF ((ac.out.alloc _)) hgrow (lU ae.out));have al:=hid hown';have y6:=ab.out.cell 0 _ rfl;have y7:=ab.out.free 0;clear hown' hgrow
     refine hK.out _ _ ?_ (fun hHeld=>?_)
     ·exact FS.out _ ah.out
     clear hK K
     try simp only [Act.put,sqp]
     refine sqt 10 ?_
     refine sqr 11 fun K hK=>?_
     go_simp
     have ai:=hid (ah.out.setCell (p:=⟨W2.heap.size,0,none⟩) (Nat.le_refl _) (.slice (some ⟨g5,0,none⟩) (k+1) cap));have am:=hid (ab.out.set 0 (.slice (some ⟨g5,0,none⟩) (k+1) cap));have an:=hid (aH al.out (p:=⟨W2.heap.size,0,none⟩) (Nat.lt_succ_self _) (.slice (some ⟨g5,0,none⟩) (k+1) cap))
     try go_wp2_with fail
     refine hK.out _ _ ?_ (fun hHeld=>?_)
     ·exact FS.out _ ai.out
     clear hK K
     try simp only [Act.put,sqp]
     refine wpAnyH_done (by kernel_rfl) ?_ _
     go_wp2_with fail
     go_roundw
     case rel=>exact ⟨k+1,_,by omega,mL (by have:=ay.out;omega),am.out,by rw [HS.out,Edt.flat_app];exact an.out,ai.out⟩
     case measure=>simp [intOf]
    ·go_simp
     have aa:=hid (ag.out.alloc ag.out.size (.cells #[.int .i64 p,.string m,.string o] 92));have ak:=hid (show W2.heap.size+1≤(w3.alloc (.cells #[.int .i64 p,.string m,.string o] 92)).heap.size from Nat.le_trans (Nat.succ_le_of_lt ac.out.lt) (by simp));have y5:=(ac.out.alloc (.cells #[.int .i64 p,.string m,.string o] 92)).cell 0 _ rfl
     try go_wp2_with fail
     refine hK.out _ _ ?_ (fun hHeld=>?_)
     ·exact FS.out _ aa.out
     clear hK K
     try simp only [Act.put,sqp]
     refine sqr 1 fun K hK=>?_
     go_simp
     skip
     try go_wp2_with fail
     refine hK.out _ _ ?_ (fun hHeld=>?_)
     ·exact hHeld
     clear hK K
     try simp only [Act.put,sqp]
     refine sqr 9 fun K hK=>?_
     refine step_append_lies _ rfl (.tmp 14) (.tmp 21) 24 rfl (W2.heap.size+1) 92 i0 _ 3 40 underlying24 hi av aw ax rfl (by decide) v k (Edt.flat q) rfl (ae.out.alloc _) ⟨w3.heap.size,0,none⟩ 1 1 [.int .i64 p,.string m,.string o] rfl rfl (oD w3 _ _ _ _) (mQ _ _ _) (by omega) (by unfold maxLen;omega) (by omega) ak.out _ rfl ?_
     intro g5 cap w6 hown' hgrow _ _
     have ah:=hid (aa.out.grown hgrow aa.out.size (fun b hb=>Nat.le_of_succ_le (aA ae.out b hb)));have ab:=hid (dF ((ac.out.alloc _)) hgrow (lU ae.out));have al:=hid hown';have y6:=ab.out.cell 0 _ rfl;have y7:=ab.out.free 0;clear hown' hgrow
     refine hK.out _ _ ?_ (fun hHeld=>?_)
     ·exact FS.out _ ah.out
     clear hK K
     try simp only [Act.put,sqp]
     refine sqt 10 ?_
     refine sqr 11 fun K hK=>?_
     go_simp
     have ai:=hid (ah.out.setCell (p:=⟨W2.heap.size,0,none⟩) (Nat.le_refl _) (.slice (some ⟨g5,0,none⟩) (k+1) cap));have am:=hid (ab.out.set 0 (.slice (some ⟨g5,0,none⟩) (k+1) cap));have an:=hid (aH al.out (p:=⟨W2.heap.size,0,none⟩) (Nat.lt_succ_self _) (.slice (some ⟨g5,0,none⟩) (k+1) cap))
     try go_wp2_with fail
     refine hK.out _ _ ?_ (fun hHeld=>?_)
     ·exact FS.out _ ai.out
     clear hK K
     try simp only [Act.put,sqp]
     refine wpAnyH_done (by kernel_rfl) ?_ _
     go_wp2_with fail
     go_roundw
     case rel=>exact ⟨k+1,_,by omega,mL (by have:=ay.out;omega),am.out,by rw [HS.out,Edt.flat_app];exact an.out,ai.out⟩
     case measure=>simp [intOf]
  ·obtain rfl:k=n:=by omega
   have hlen:(invL l).length=k:=by rw [aD,HN.out]
   have e:(invL l).take k=invL l:=by rw [← HN.out];exact vK l
   rw [e] at hown
   rw [← hlen] at hown
   obtain ⟨a4,c4,rfl,hrow⟩:=dE hown
   rw [hlen] at hblk
   have y0:=hblk.cell 0 _ rfl
   have x4:=az.out.below hbel au.out |>.cell 0 _ rfl
   have x5:=az.out.below hbel au.out |>.free 0
   have a8:¬ (0:Int)≤(k:Int) - 1 - (k:Int):=by omega
   have a9:(k:Int) - 1 - (k:Int)<0:=by omega
   have a1:=hid ((ar.out.below.trans (hbel.mono ar.out.below.size)).setCell (p:=⟨W1.heap.size,0,none⟩) a0.out (.slice a4 k c4))
   have a2:=hid ((hrow.set (p:=⟨W1.heap.size,0,none⟩) (Nat.lt_succ_of_lt au.out) (.slice a4 k c4)).mono (b2:=w.heap.size) (Nat.le_trans a0.out (Nat.le_of_lt (Nat.lt_succ_of_lt au.out))))
   have a3:=hid hlen
   clear hrow hown hbel hlen e hblk
   go_wp2
   refine bodyPost_ret (v:=stpV a4 k c4) (by simp [results,results40,go_sem,x4]) rfl ?_
   exact ⟨_,c4,by rw [a3.out],a2.out,a1.out⟩
end Go.Proofs.YtbagenpobcgjnaaGreat
namespace Go.Proofs.YtbagenpobcgjnaaGreat
open Go.Proofs.Tryz
set_option maxRecDepth 100000
open Lib (hid)
open Go.Shelf Go.RowKit
set_option linter.unusedVariables false
set_option maxHeartbeats 800000 in
theorem GQ (n:Nat) (hn:n≤1000000) (w:World):Calls prog 158 #[.slice none 0 0,.int .i64 n] w fun e w'=>∃ v,e=.returned v∧w'.ownsRow w.heap.size 54 1 v 0 []∧Below w.heap.size w w':=by
 obtain ⟨i0,hi,aa,ab,ac⟩:=info_parts dG
 rcases Nat.eq_zero_or_pos n with rfl|hp
 ·have h:=Any8.slices_Grow_room Tryz.mkGrowT none 0 0 0 w (Nat.le_refl _) (by omega) (by omega) (by omega)
  change Calls prog 158 _ _ _ at h
  refine h.mono ?_
  rintro e w' ⟨rfl,rfl⟩
  exact ⟨_,rfl,World.ownsRow_nil _ _ _ _,Below.refl _ _⟩
 ·have h:=Any8.slices_Grow_grow Tryz.mkGrowT i0 _ hi aa (by rw [ab];decide) none 0 0 n [] w (Nat.le_refl _) (by omega) (by rw [ac];omega) (by omega) (by simp) (fun _=>rfl) (fun a e=>by cases e)
  change Calls prog 158 _ _ _ at h
  refine h.mono ?_
  rintro e w' ⟨rfl,rfl⟩
  have hge:=grownCap_ge w (0+n) 0 (Tryz.mkGrowT_ren.t 25)
  have hle:=grownCap_le_maxLen w (0+n) 0 (Tryz.mkGrowT_ren.t 25) (by unfold maxLen;omega)
  refine ⟨_,rfl,World.ownsRow_made w.drew _ _ (Nat.le_refl _) hle ?_,((Below.refl w.heap.size w).drew).alloc (Nat.le_refl _) _⟩
  simp only [Nat.zero_add] at hge ⊢
  simp [Builtin.zeroCells,Value.cells]
  omega
set_option maxHeartbeats 1600000 in
theorem xU (r:Nat) (ps:List SPc) (w:World) (hr:r<w.heap.size) (hps:∀ k,k<ps.length→w.cell? ⟨r,k,none⟩=some (ps[k]!).v) (hp:∀ k,k<ps.length→SPcs w ps[k]!) (hl:ps.length≤1000) (hs:ssumP ps≤100000) :
 Calls prog 133 #[.slice (some ⟨r,0,none⟩) ps.length ps.length] w (RetSRow w (scatP ps)):=by
 obtain ⟨i0,hi,aj,ak,al⟩:=info_parts dG
 obtain ⟨m,hm⟩:∃ m,ps.length=m:=⟨_,rfl⟩
 rw [hm] at hl ⊢
 have HM:=hid hm;have ae:=hid hps;have HP:=hid hp;have HS:=hid hs;have HR:=hid hr
 clear hm hps hp hs hr
 go_enter func133,ntmps133
 go_wp2
 go_loop [3,11] (fun z i=>∃ k:Nat,k≤m∧i=.int .i64 k∧z=.int .i64 (ssumP (ps.take k):Nat)) (fun _ i=>m - (intOf i).toNat)
 case atStart=>exact ⟨0,Nat.zero_le _,rfl,rfl⟩
 case round =>
  obtain ⟨k,hk,rfl,rfl⟩:=hrel
  have hb:=Nat.le_trans (dA ps k) HS.out
  by_cases hlt:k<m
  ·have hkl:k<ps.length:=by rw [HM.out];exact hlt
   have q0:=ae.out k hkl
   have h2:=fL ps k hkl
   have am:=Nat.le_trans (dA ps (k+1)) HS.out
   obtain ⟨x,hx⟩:∃ x,ps[k]! = x:=⟨_,rfl⟩
   rw [hx] at q0 h2
   obtain ⟨xa,xl,xc⟩:=x
   simp only [SPc.v] at q0 h2
   obtain ⟨n,hn⟩:∃ n,xl.length=n:=⟨_,rfl⟩
   rw [hn] at q0 h2
   obtain ⟨s,hs⟩:∃ s,ssumP (ps.take k)=s:=⟨_,rfl⟩
   rw [hs] at h2 hb ⊢
   have HX:=hid h2
   have aw:s+n≤100000:=by omega
   have b0:(0:Int)≤(k:Int):=by omega
   have b1:(k:Int)<(m:Int):=by omega
   have b2:¬ (s:Int)+(n:Int)<0:=by omega
   clear hx hn hs h2 am
   go_wp2
   go_round
   case rel=>exact ⟨k+1,by omega,by go_num,by rw [HX.out];go_num⟩
   case measure=>simp [intOf];omega
  ·obtain rfl:k=m:=by omega
   have hz:ssumP (ps.take k)=ssumP ps:=by rw [List.take_of_length_le (by rw [HM.out];exact Nat.le_refl _)]
   rw [hz] at hb ⊢
   obtain ⟨s,hs⟩:∃ s,ssumP ps=s:=⟨_,rfl⟩
   rw [hs] at hb ⊢
   have cg:=GQ s (by omega) w
   have CG:=hid cg;have ax:=hid hs
   clear hz hs cg
   go_wp2_with fail
   refine CG.out.mono ?_
   rintro e w1 ⟨v,rfl,ab,aa⟩
   have an:=hid aa;have HO:=hid ab
   clear aa ab
   go_wp2
   go_loopw [6,27] (fun v i wr=>∃ j:Nat,j≤k∧i=.int .i64 j∧wr.ownsRow w.heap.size 54 1 v (scatP (ps.take j)).length (sflat (scatP (ps.take j)))∧Below w.heap.size w wr) (fun _ i _=>k - (intOf i).toNat)
   case atStart=>exact ⟨0,Nat.zero_le _,rfl,HO.out,an.out⟩
   case round =>
    obtain ⟨j,hj,rfl,hown,hbel⟩:=hrel
    have hlen:=sF (ps.take j)
    have hle:=Nat.le_trans (dA ps j) HS.out
    by_cases hlt:j<k
    ·have hjl:j<ps.length:=by rw [HM.out];exact hlt
     have q0:=(hbel.cell (p:=⟨r,j,none⟩) HR.out).trans (ae.out j hjl)
     have hp:=HP.out j hjl
     have h2:=oQ ps j hjl
     have h3:=fL ps j hjl
     have ai:=Nat.le_trans (dA ps (j+1)) HS.out
     obtain ⟨x,hx⟩:∃ x,ps[j]! = x:=⟨_,rfl⟩
     rw [hx] at q0 hp h2 h3
     obtain ⟨o,ho⟩:∃ o,scatP (ps.take j)=o:=⟨_,rfl⟩
     rw [ho] at hown hlen h2
     have hol:o.length≤100000:=by omega
     have hxl:o.length+x.l.length≤100000:=by omega
     have H2:=hid h2
     have b0:(0:Int)≤(j:Int):=by omega
     have b1:(j:Int)<(k:Int):=by omega
     clear hx ho h2 h3 hlen hle ai
     obtain ⟨xa,xl,xc⟩:=x
     cases xa with
     | none =>
      have e0:xl=[]:=hp.len rfl
      have e1:xc=0:=hp.nil rfl
      subst e0
      subst e1
      simp only [SPc.v,List.length_nil] at q0
      clear hp hxl
      go_wp2_with (at_builtin;refine wpList_append_own_none rfl _ _ 23 rfl w.heap.size 54 i0 1 underlying23 hi _ _ _ rfl hown rfl ?_)
      go_roundw
      case rel=>exact ⟨j+1,by omega,by go_num,by rw [H2.out,List.append_nil];exact hown,hbel⟩
      case measure=>simp [intOf];omega
     | some ad =>
      have hnews:=jM (hp.row.below (fun _ h=>h) hbel)
      simp only [SPc.v] at q0
      have hfl:=eA xl
      have hofl:=iA xl
      obtain ⟨n,hn⟩:∃ n,xl.length=n:=⟨_,rfl⟩
      simp only [hn] at q0 hxl hfl
      have ao:=hid hnews;have aq:=hid hfl;have ar:=hid hofl;have ac:=hid hn
      clear hp hnews hfl hofl hn
      go_wp2_with (at_builtin;refine wpList_append_own _ rfl _ _ 23 rfl w.heap.size 54 i0 _ 1 24 underlying23 hi aj ak al rfl (by decide) _ _ _ rfl hown ad n xc (sflat xl) rfl aq.out ao.out ar.out (by unfold maxLen;omega) (by omega) hbel.size ?_;intro v1 w1 af ag _)
      have aa:Below w.heap.size w w1:=hbel.grown ag hbel.size (aA hown)
      have ah:w1.ownsRow w.heap.size 54 1 v1 (scatP (ps.take (j+1))).length (sflat (scatP (ps.take (j+1)))):=by
       rw [H2.out,lE,List.length_append,ac.out]
       exact af
      have au:=hid ah;have av:=hid aa
      clear af ag hown hbel aa ah q0
      go_wp2
      go_roundw
      case rel=>exact ⟨j+1,by omega,by go_num,au.out,av.out⟩
      case measure=>simp [intOf];omega
    ·obtain rfl:j=k:=by omega
     rw [List.take_of_length_le (by rw [HM.out];exact Nat.le_refl _)] at hown
     obtain ⟨ad,cp,rfl,hn⟩:=dR hown ((qU HP.out).later hbel)
     have ac:=hid hn;clear hn hown
     go_wp2
     go_ret
     exact ⟨ad,cp,rfl,ac.out,hbel⟩
set_option maxHeartbeats 1000000 in
theorem yC (ad:Addr) (l:List EPc) (c:Nat) (w:World) (hr:Scs w (·<w.heap.size) (some ad) l) (hl:l.length≤1000000) :
 Calls prog 115 #[.slice (some ad) l.length c] w fun e w'=>∃ v,e=.returned v∧w'.ownsRow w.heap.size 54 1 v l.length (sflat l)∧v≠.slice none 0 0∧Below w.heap.size w w':=by
 obtain ⟨i0,hi,ae,af,ag⟩:=info_parts dG
 have q22:∀ (w:World) (a:Option Addr) (n c n' c':Nat),(binOp .eql 23 (.slice a n c) (.slice none n' c')).run prog w=.ok (.bool a.isNone) w:=fun w a n c n' c'=>Lib.run_eql_slice_nil w _ _ a n c n' c' underlying23
 have ab:=hid (jM hr);have aa:=hid (eA l);have ac:=hid (iA l)
 obtain ⟨n,hn⟩:∃ n,l.length=n:=⟨_,rfl⟩
 rw [hn] at hl aa ⊢
 obtain ⟨F,hF⟩:∃ F,sflat l=F:=⟨_,rfl⟩
 rw [hF] at ab aa ac ⊢
 clear hr hn hF
 go_enter func115,ntmps115
 go_wp2_with (at_builtin;refine wpList_append_own _ rfl _ _ 23 rfl w.heap.size 54 i0 _ 1 24 underlying23 hi ae af ag rfl (by decide) _ _ _ rfl (World.ownsRow_made w #[] 0 (Nat.le_refl _) (Nat.zero_le _) (by simp)) ad n c F rfl aa.out (fun j u hj=>Lib.cell?_alloc_some _ (ab.out j u hj)) ac.out (by unfold maxLen;omega) (by omega) (by simp) ?_)
 intro v' w1 hown hgrow hnil
 go_wp2
 go_ret
 refine ⟨v',rfl,by simpa using hown,?_,?_⟩
 ·exact hnil
 ·exact ((Below.refl _ w).alloc (Nat.le_refl _) _).grown hgrow (by simp) (by intro k hk;simp [Value.ownBlock] at hk;omega)
theorem BJ (w:World):Calls prog 115 #[.slice none 0 0] w fun e w'=>e=.returned (.slice none 0 0)∧w'=w:=by
 have h:=AnyE.slices_Clone_nil Tryz.mkCloneT 0 0 w
 change Calls prog 115 _ _ _ at h
 exact h
set_option maxHeartbeats 800000 in
theorem ER (n:Nat) (hn:n≤1000000) (w:World):Calls prog 216 #[.slice none 0 0,.int .i64 n] w fun e w'=>∃ v,e=.returned v∧w'.ownsRow w.heap.size 54 1 v 0 []∧Below w.heap.size w w':=by
 obtain ⟨i0,hi,aa,ab,ac⟩:=info_parts dG
 rcases Nat.eq_zero_or_pos n with rfl|hp
 ·have h:=Any8.slices_Grow_room Tryz.mkGrowS none 0 0 0 w (Nat.le_refl _) (by omega) (by omega) (by omega)
  change Calls prog 216 _ _ _ at h
  refine h.mono ?_
  rintro e w' ⟨rfl,rfl⟩
  exact ⟨_,rfl,World.ownsRow_nil _ _ _ _,Below.refl _ _⟩
 ·have h:=Any8.slices_Grow_grow Tryz.mkGrowS i0 _ hi aa (by rw [ab];decide) none 0 0 n [] w (Nat.le_refl _) (by omega) (by rw [ac];omega) (by omega) (by simp) (fun _=>rfl) (fun a e=>by cases e)
  change Calls prog 216 _ _ _ at h
  refine h.mono ?_
  rintro e w' ⟨rfl,rfl⟩
  have hge:=grownCap_ge w (0+n) 0 (Tryz.mkGrowS_ren.t 25)
  have hle:=grownCap_le_maxLen w (0+n) 0 (Tryz.mkGrowS_ren.t 25) (by unfold maxLen;omega)
  refine ⟨_,rfl,World.ownsRow_made w.drew _ _ (Nat.le_refl _) hle ?_,((Below.refl w.heap.size w).drew).alloc (Nat.le_refl _) _⟩
  simp only [Nat.zero_add] at hge ⊢
  simp [Builtin.zeroCells,Value.cells]
  omega
set_option maxHeartbeats 1600000 in
theorem yD (r:Nat) (ps:List SPc) (w:World) (hr:r<w.heap.size) (hps:∀ k,k<ps.length→w.cell? ⟨r,k,none⟩=some (ps[k]!).v) (hp:∀ k,k<ps.length→SPcs w ps[k]!) (hl:ps.length≤1000) (hs:ssumP ps≤100000) :
 Calls prog 215 #[.slice (some ⟨r,0,none⟩) ps.length ps.length] w (RetSRow w (scatP ps)):=by
 obtain ⟨i0,hi,aj,ak,al⟩:=info_parts dG
 obtain ⟨m,hm⟩:∃ m,ps.length=m:=⟨_,rfl⟩
 rw [hm] at hl ⊢
 have HM:=hid hm;have ae:=hid hps;have HP:=hid hp;have HS:=hid hs;have HR:=hid hr
 clear hm hps hp hs hr
 go_enter func215,ntmps215
 go_wp2
 go_loop [3,11] (fun z i=>∃ k:Nat,k≤m∧i=.int .i64 k∧z=.int .i64 (ssumP (ps.take k):Nat)) (fun _ i=>m - (intOf i).toNat)
 case atStart=>exact ⟨0,Nat.zero_le _,rfl,rfl⟩
 case round =>
  obtain ⟨k,hk,rfl,rfl⟩:=hrel
  have hb:=Nat.le_trans (dA ps k) HS.out
  by_cases hlt:k<m
  ·have hkl:k<ps.length:=by rw [HM.out];exact hlt
   have q0:=ae.out k hkl
   have h2:=fL ps k hkl
   have am:=Nat.le_trans (dA ps (k+1)) HS.out
   obtain ⟨x,hx⟩:∃ x,ps[k]! = x:=⟨_,rfl⟩
   rw [hx] at q0 h2
   obtain ⟨xa,xl,xc⟩:=x
   simp only [SPc.v] at q0 h2
   obtain ⟨n,hn⟩:∃ n,xl.length=n:=⟨_,rfl⟩
   rw [hn] at q0 h2
   obtain ⟨s,hs⟩:∃ s,ssumP (ps.take k)=s:=⟨_,rfl⟩
   rw [hs] at h2 hb ⊢
   have HX:=hid h2
   have aw:s+n≤100000:=by omega
   have b0:(0:Int)≤(k:Int):=by omega
   have b1:(k:Int)<(m:Int):=by omega
   have b2:¬ (s:Int)+(n:Int)<0:=by omega
   clear hx hn hs h2 am
   go_wp2
   go_round
   case rel=>exact ⟨k+1,by omega,by go_num,by rw [HX.out];go_num⟩
   case measure=>simp [intOf];omega
  ·obtain rfl:k=m:=by omega
   have hz:ssumP (ps.take k)=ssumP ps:=by rw [List.take_of_length_le (by rw [HM.out];exact Nat.le_refl _)]
   rw [hz] at hb ⊢
   obtain ⟨s,hs⟩:∃ s,ssumP ps=s:=⟨_,rfl⟩
   rw [hs] at hb ⊢
   have cg:=ER s (by omega) w
   have CG:=hid cg;have ax:=hid hs
   clear hz hs cg
   go_wp2_with fail
   refine CG.out.mono ?_
   rintro e w1 ⟨v,rfl,ab,aa⟩
   have an:=hid aa;have HO:=hid ab
   clear aa ab
   go_wp2
   go_loopw [6,27] (fun v i wr=>∃ j:Nat,j≤k∧i=.int .i64 j∧wr.ownsRow w.heap.size 54 1 v (scatP (ps.take j)).length (sflat (scatP (ps.take j)))∧Below w.heap.size w wr) (fun _ i _=>k - (intOf i).toNat)
   case atStart=>exact ⟨0,Nat.zero_le _,rfl,HO.out,an.out⟩
   case round =>
    obtain ⟨j,hj,rfl,hown,hbel⟩:=hrel
    have hlen:=sF (ps.take j)
    have hle:=Nat.le_trans (dA ps j) HS.out
    by_cases hlt:j<k
    ·have hjl:j<ps.length:=by rw [HM.out];exact hlt
     have q0:=(hbel.cell (p:=⟨r,j,none⟩) HR.out).trans (ae.out j hjl)
     have hp:=HP.out j hjl
     have h2:=oQ ps j hjl
     have h3:=fL ps j hjl
     have ai:=Nat.le_trans (dA ps (j+1)) HS.out
     obtain ⟨x,hx⟩:∃ x,ps[j]! = x:=⟨_,rfl⟩
     rw [hx] at q0 hp h2 h3
     obtain ⟨o,ho⟩:∃ o,scatP (ps.take j)=o:=⟨_,rfl⟩
     rw [ho] at hown hlen h2
     have hol:o.length≤100000:=by omega
     have hxl:o.length+x.l.length≤100000:=by omega
     have H2:=hid h2
     have b0:(0:Int)≤(j:Int):=by omega
     have b1:(j:Int)<(k:Int):=by omega
     clear hx ho h2 h3 hlen hle ai
     obtain ⟨xa,xl,xc⟩:=x
     cases xa with
     | none =>
      have e0:xl=[]:=hp.len rfl
      have e1:xc=0:=hp.nil rfl
      subst e0
      subst e1
      simp only [SPc.v,List.length_nil] at q0
      clear hp hxl
      go_wp2_with (at_builtin;refine wpList_append_own_none rfl _ _ 166 rfl w.heap.size 54 i0 1 underlying166 hi _ _ _ rfl hown rfl ?_)
      go_roundw
      case rel=>exact ⟨j+1,by omega,by go_num,by rw [H2.out,List.append_nil];exact hown,hbel⟩
      case measure=>simp [intOf];omega
     | some ad =>
      have hnews:=jM (hp.row.below (fun _ h=>h) hbel)
      simp only [SPc.v] at q0
      have hfl:=eA xl
      have hofl:=iA xl
      obtain ⟨n,hn⟩:∃ n,xl.length=n:=⟨_,rfl⟩
      simp only [hn] at q0 hxl hfl
      have ao:=hid hnews;have aq:=hid hfl;have ar:=hid hofl;have ac:=hid hn
      clear hp hnews hfl hofl hn
      go_wp2_with (at_builtin;refine wpList_append_own _ rfl _ _ 166 rfl w.heap.size 54 i0 _ 1 24 underlying166 hi aj ak al rfl (by decide) _ _ _ rfl hown ad n xc (sflat xl) rfl aq.out ao.out ar.out (by unfold maxLen;omega) (by omega) hbel.size ?_;intro v1 w1 af ag _)
      have aa:Below w.heap.size w w1:=hbel.grown ag hbel.size (aA hown)
      have ah:w1.ownsRow w.heap.size 54 1 v1 (scatP (ps.take (j+1))).length (sflat (scatP (ps.take (j+1)))):=by
       rw [H2.out,lE,List.length_append,ac.out]
       exact af
      have au:=hid ah;have av:=hid aa
      clear af ag hown hbel aa ah q0
      go_wp2
      go_roundw
      case rel=>exact ⟨j+1,by omega,by go_num,au.out,av.out⟩
      case measure=>simp [intOf];omega
    ·obtain rfl:j=k:=by omega
     rw [List.take_of_length_le (by rw [HM.out];exact Nat.le_refl _)] at hown
     obtain ⟨ad,cp,rfl,hn⟩:=dR hown ((qU HP.out).later hbel)
     have ac:=hid hn;clear hn hown
     go_wp2
     go_ret
     exact ⟨ad,cp,rfl,ac.out,hbel⟩
theorem scat2 {W:World} {p q:SPc} (i j:Nat) (hp:SPcs W p) (hq:SPcs W q) (hi:p.l.length=i) (hj:q.l.length=j) (hs:i+j≤1000) (t:TypeId) :
 Calls prog 215 #[.slice (some ⟨W.heap.size,0,none⟩) 2 2] (W.alloc (.cells #[.slice p.a i p.c,.slice q.a j q.c] t)) (RetSRow (W.alloc (.cells #[.slice p.a i p.c,.slice q.a j q.c] t)) (p.l++q.l)):=by
 have hb:Below W.heap.size W (W.alloc (.cells #[.slice p.a i p.c,.slice q.a j q.c] t)):=(Below.refl W.heap.size W).alloc (Nat.le_refl _) _
 have h:=yD W.heap.size [p,q] (W.alloc (.cells #[.slice p.a i p.c,.slice q.a j q.c] t)) (by simp) (fun k hk=>by
  match k,hk with
  | 0,_=>simp [World.cell?_alloc_new,SPc.v,hi]
  | 1,_=>simp [World.cell?_alloc_new,SPc.v,hj]) (fun k hk=>by
  match k,hk with
  | 0,_=>exact hp.later hb
  | 1,_=>exact hq.later hb) (by simp) (by simp [ssumP];omega)
 have e:scatP [p,q]=p.l++q.l:=by simp [scatP]
 rw [e] at h
 exact h
end Go.Proofs.YtbagenpobcgjnaaGreat
namespace Go.Proofs.YtbagenpobcgjnaaGreat
open Go.Proofs.Tryz
set_option maxRecDepth 100000
open Lib (hid)
open Go.RowKit
set_option linter.unusedVariables false
set_option linter.unusedSimpArgs false
set_option maxHeartbeats 800000 in
theorem wO (a:Option Addr) (c:Nat) (w:World) :
 Calls prog 131 #[.slice a 0 c] w fun e w'=>e=.returned (.tuple #[.slice none 0 0,stpV none 0 0,.bool false])∧Below w.heap.size w w':=by
 have aa:Below w.heap.size w ((w.alloc (.cells #[.slice none 0 0] 54)).alloc (.cells #[.slice none 0 0] 54)).drew:=(((Below.refl w.heap.size w).alloc (Nat.le_refl _) _).alloc (by simp) _).drew
 have HB:=hid aa;clear aa
 go_enter func131,ntmps131
 go_wp2
 go_region
 all_goals go_wp2
 all_goals
  refine bodyPost_ret (v:=.tuple #[.slice none 0 0,stpV none 0 0,.bool false]) (by simp [results,results131,go_sem]) rfl ?_
  exact ⟨rfl,HB.out⟩
set_option maxHeartbeats 800000 in
theorem wV (ad:Addr) (c k:Nat) (y:EPc) (w:World) (hc:w.cell? (ad.add k)=some y.v) (hkc:k+1≤c) (hcm:c≤maxLen) :
 Calls prog 131 #[.slice (some ad) (k+1:Nat) c] w fun e w'=>e=.returned (.tuple #[.slice (some ad) k c,stpV y.a y.l.length y.c,.bool true])∧Below w.heap.size w w':=by
 obtain ⟨ya,yl,yc⟩:=y
 simp only [EPc.v] at hc ⊢
 unfold maxLen at hcm
 obtain ⟨n,hn⟩:∃ n,yl.length=n:=⟨_,rfl⟩
 rw [hn] at hc ⊢
 have hlt:=World.block_lt_of_cell? w _ hc
 rw [aO] at hlt
 obtain ⟨W,hW⟩:∃ W,w.alloc (.cells #[.slice none 0 0] 54)=W:=⟨_,rfl⟩
 have aa:Below w.heap.size w W:=by rw [← hW];exact (Below.refl w.heap.size w).alloc (Nat.le_refl _) _
 have B:=Blk.new w #[.slice none 0 0] 54
 rw [hW] at B
 have q1:W.drew.cell? (ad.add k)=some (.slice ya n yc):=(aa.cell (p:=ad.add k) (by rw [aO];exact hlt)).trans hc
 have q2:W.drew.cell? ⟨w.heap.size,0,none⟩=some (.slice none 0 0):=B.cell 0 _ rfl
 have q3:W.drew.frozen? ⟨w.heap.size,0,none⟩=false:=B.free 0
 have ab:k≤c:=by omega
 have HB:=hid (aa.drew.setCell (p:=⟨w.heap.size,0,none⟩) (Nat.le_refl _) (.slice ya n yc))
 have q4:(W.setCell ⟨w.heap.size,0,none⟩ (.slice ya n yc)).cell? ⟨w.heap.size,0,none⟩=some (.slice ya n yc):=World.cell?_setCell_same' _ _ _ (by rw [show W.cell? ⟨w.heap.size,0,none⟩=_ from q2];rfl)
 clear hn hlt aa B hc
 go_enter func131,ntmps131
 go_wp2
 go_region
 all_goals go_wp2
 all_goals
  refine bodyPost_ret (v:=.tuple #[.slice (some ad) k c,stpV ya n yc,.bool true]) (by simp [results,results131,go_sem,q4]) rfl ?_
  exact ⟨rfl,HB.out⟩
set_option maxHeartbeats 800000 in
theorem zH (a:Option Addr) (l:List Edt) (c:Nat) (w:World) (hp:EPcs w ⟨a,l,c⟩) (hl:l.length≤1000000) :
 Calls prog 205 #[stpV a l.length c] w (RetStp w l):=by
 obtain ⟨W1,aa⟩:∃ W1,w.alloc (.cells #[.slice a l.length c] 54)=W1:=⟨_,rfl⟩
 obtain ⟨wX,hwX⟩:∃ wX,W1.alloc (.cells #[.slice none 0 0] 54)=wX:=⟨_,rfl⟩
 have b1:Below w.heap.size w W1:=by rw [← aa];exact (Below.refl _ _).alloc (Nat.le_refl _) _
 have z1:W1.heap.size=w.heap.size+1:=by rw [← aa];simp
 have z3:wX.heap.size=w.heap.size+2:=by rw [← hwX];simp [z1]
 have c3:Below W1.heap.size W1 wX:=by rw [← hwX];exact (Below.refl _ _).alloc (Nat.le_refl _) _
 have B1:Blk W1 w.heap.size #[.slice a l.length c] 54:=by rw [← aa];exact Blk.new _ _ _
 have B3:Blk wX W1.heap.size #[.slice none 0 0] 54:=by rw [← hwX];exact Blk.new _ _ _
 have B1:Blk wX w.heap.size #[.slice a l.length c] 54:=B1.onto c3
 have ab:Below w.heap.size w wX:=b1.trans (c3.mono (by omega))
 have x0:=B1.cell 0 _ rfl
 have x4:=B3.cell 0 _ rfl
 have x5:=B3.free 0
 have hpX:EPcs wX ⟨a,l,c⟩:=hp.later ab
 cases a with
 | none =>
  have e0:l=[]:=hp.len rfl
  have e1:c=0:=hp.nil rfl
  subst e0
  subst e1
  have HB:=hid (ab.setCell (p:=⟨W1.heap.size,0,none⟩) (by show w.heap.size≤W1.heap.size;omega) (.slice none 0 0))
  have aa:w.alloc (.cells #[.slice none 0 0] 54)=W1:=aa
  have x0:wX.cell? ⟨w.heap.size,0,none⟩=some (.slice none 0 0):=x0
  have q4:(wX.setCell ⟨W1.heap.size,0,none⟩ (.slice none 0 0)).cell? ⟨W1.heap.size,0,none⟩=some (.slice none 0 0):=World.cell?_setCell_same' _ _ _ (by rw [x4];rfl)
  clear hp hpX ab B1 B3 c3 b1 hl z1 z3
  show Calls prog 205 #[.agg #[.slice none 0 0]] w _
  go_enter func205,ntmps205
  go_wp2_with fail
  refine (oX _).mono ?_
  rintro e w2 ⟨rfl,rfl⟩
  go_wp2
  refine bodyPost_ret (v:=stpV none 0 0) (by simp [results,results205,go_sem,q4]) rfl ?_
  exact ⟨none,0,rfl,ERow.empty _ _,HB.out⟩
 | some ad =>
  have cc:=nG ad l c wX hpX.row hl
  obtain ⟨n,hn⟩:∃ n,l.length=n:=⟨_,rfl⟩
  have CC:=hid cc;have HN:=hid hn;have ac:=hid ab;have ae:=hid (show W1.heap.size<wX.heap.size by omega);have af:=hid (show w.heap.size≤W1.heap.size by omega)
  rw [hn] at aa x0 CC ⊢
  clear hp hpX ab B1 B3 c3 b1 hl z1 z3 cc hn
  show Calls prog 205 #[.agg #[.slice (some ad) n c]] w _
  go_enter func205,ntmps205
  go_wp2_with fail
  refine CC.out.mono ?_
  rintro e w2 ⟨v,rfl,hown,-,hb⟩
  have hown:w2.ownsRow wX.heap.size 92 3 v l.length (Edt.flat l):=by rw [HN.out];exact hown
  obtain ⟨a2,c2,ev,hrow⟩:=dE hown
  rw [HN.out] at ev
  subst ev
  have y4:=(hb.cell (p:=⟨W1.heap.size,0,none⟩) ae.out).trans x4
  have y5:=(hb.frozen (p:=⟨W1.heap.size,0,none⟩) ae.out).trans x5
  have HB:=hid ((ac.out.trans (hb.mono ac.out.size)).setCell (p:=⟨W1.heap.size,0,none⟩) af.out (.slice a2 n c2))
  have HR:=hid ((hrow.set (p:=⟨W1.heap.size,0,none⟩) ae.out (.slice a2 n c2)).mono ac.out.size)
  have q4:(w2.setCell ⟨W1.heap.size,0,none⟩ (.slice a2 n c2)).cell? ⟨W1.heap.size,0,none⟩=some (.slice a2 n c2):=World.cell?_setCell_same' _ _ _ (by rw [y4];rfl)
  clear hown hrow hb
  go_wp2
  refine bodyPost_ret (v:=stpV a2 n c2) (by simp [results,results205,go_sem,q4]) rfl ?_
  exact ⟨a2,c2,by rw [HN.out],HR.out,HB.out⟩
theorem IM (a:Option Addr) (n c:Nat) (w:World) :
 Calls prog 108 #[stpV a n c] w fun e w'=>e=.returned (stpV a n c)∧Below w.heap.size w w':=by
 obtain ⟨W1,aa⟩:∃ W1,w.alloc (.cells #[.slice a n c] 54)=W1:=⟨_,rfl⟩
 obtain ⟨wX,hwX⟩:∃ wX,W1.alloc (.cells #[.slice none 0 0] 54)=wX:=⟨_,rfl⟩
 have b1:Below w.heap.size w W1:=by rw [← aa];exact (Below.refl _ _).alloc (Nat.le_refl _) _
 have z1:W1.heap.size=w.heap.size+1:=by rw [← aa];simp
 have c3:Below W1.heap.size W1 wX:=by rw [← hwX];exact (Below.refl _ _).alloc (Nat.le_refl _) _
 have B1:Blk W1 w.heap.size #[.slice a n c] 54:=by rw [← aa];exact Blk.new _ _ _
 have B3:Blk wX W1.heap.size #[.slice none 0 0] 54:=by rw [← hwX];exact Blk.new _ _ _
 have B1:Blk wX w.heap.size #[.slice a n c] 54:=B1.onto c3
 have HB:=hid ((b1.trans (c3.mono (by omega))).setCell (p:=⟨W1.heap.size,0,none⟩) (by show w.heap.size≤W1.heap.size;omega) (.slice a n c))
 have x0:=B1.cell 0 _ rfl
 have x4:=B3.cell 0 _ rfl
 have x5:=B3.free 0
 have q4:(wX.setCell ⟨W1.heap.size,0,none⟩ (.slice a n c)).cell? ⟨W1.heap.size,0,none⟩=some (.slice a n c):=World.cell?_setCell_same' _ _ _ (by rw [x4];rfl)
 clear b1 c3 B1 B3 z1
 show Calls prog 108 #[.agg #[.slice a n c]] w _
 go_enter func108,ntmps108
 go_wp2
 refine bodyPost_ret (v:=stpV a n c) (by simp [results,results108,go_sem,q4]) rfl ?_
 exact ⟨rfl,HB.out⟩
def nilS:EPc:=⟨none,[],0⟩
theorem smade (n:Nat):(madeCells #[.slice none 0 0] (n * 1)).toList=sflat (List.replicate n nilS):=by
 refine List.ext_getElem? fun j=>?_
 rcases Nat.lt_or_ge j n with g|g
 ·rw [fA _ _ (by rw [List.length_replicate];exact g),epget (by rw [List.length_replicate];exact g),List.getElem_replicate]
  unfold madeCells
  simp [g,Nat.mod_one]
  rfl
 ·rw [List.getElem?_eq_none (by simp [madeCells];exact g),List.getElem?_eq_none (by rw [eA,List.length_replicate];omega)]
theorem qX (l:List EPc) (k:Nat) (x:EPc):(sflat l).set k x.v=sflat (l.set k x):=by
 unfold sflat
 rw [List.map_set]
def RetStk (w:World) (L:List (List Edt)) (e:Ending) (w':World):Prop:=∃ a c l,e=.returned (.slice a l.length c)∧lsP l=L∧SRow w' w.heap.size ⟨a,l,c⟩∧(∃ g,a=some ⟨g,0,none⟩∧w.heap.size≤g∧∀ x∈l,ERow w' (g+1) x)∧w'.ownsRow w.heap.size 54 1 (.slice a l.length c) l.length (sflat l)∧Below w.heap.size w w'
theorem nL {base b2 size:Nat} {e:TypeId} {v:Value} {xs:List Value} (h:w.ownsRow base e size v n xs) (hb:b2≤base):w.ownsRow b2 e size v n xs:=by
 refine ⟨h.1,?_⟩
 rcases h.2 with h2|⟨g,cap,cur,hv,aa,hr⟩
 ·exact .inl h2
 ·exact .inr ⟨g,cap,cur,hv,Nat.le_trans hb aa,hr⟩
set_option maxHeartbeats 1600000 in
theorem uJ (a:Option Addr) (l:List EPc) (c:Nat) (w:World) (hp:SPcs w ⟨a,l,c⟩) (hl:l.length≤1000) (hb:∀ x∈l,x.l.length≤1000000) :
 Calls prog 204 #[.slice a l.length c,.func (.func 205) #[] #[]] w (RetStk w (lsP l)):=by
 obtain ⟨i0,hi,ai,aj,ak⟩:=info_parts dG
 obtain ⟨n,hn⟩:∃ n,l.length=n:=⟨_,rfl⟩
 obtain ⟨wM,hrun,hown,hgrow⟩:=run_make_full (P:=prog) w w.heap.size 166 54 i0 _ 1 underlying166 hi ai aj .i64 .i64 n (by rw [ak];omega) (by unfold maxLen;omega) (Nat.le_refl _)
 have hbM:Below w.heap.size w wM:=(Below.refl _ _).grown hgrow (Nat.le_refl _) (fun k hk=>by cases hk)
 have hown:wM.ownsRow w.heap.size 54 1 (.slice (some ⟨w.heap.size,0,none⟩) n n) n (sflat ([]++List.replicate (n - 0) nilS)):=by
  rw [List.nil_append,Nat.sub_zero,← smade]
  exact hown
 obtain ⟨g,hg⟩:∃ g,w.heap.size=g:=⟨_,rfl⟩
 rw [hn] at hl ⊢
 have HG:=hid hg;have HP:=hid hp;have HN:=hid hn;have ao:=hid hown;have ar:=hid hbM;have au:=hid hb
 rw [hg] at hrun
 clear hn hown hgrow hbM hg hi ai aj ak hp hb
 go_enter func204,ntmps204
 go_wp2
 clear hrun
 go_loopw [13] (fun i wr=>∃ (k:Nat) (qs:List EPc),k≤n∧i=.int .i64 k∧qs.length=k∧wr.ownsRow w.heap.size 54 1 (.slice (some ⟨g,0,none⟩) n n) n (sflat (qs++List.replicate (n - k) nilS))∧lsP qs=(lsP l).take k∧(∀ x∈qs,ERow wr (g+1) x)∧Below w.heap.size w wr) (fun i _=>n - (intOf i).toNat)
 case atStart=>exact ⟨0,[],Nat.zero_le _,rfl,rfl,by rw [← HG.out];exact ao.out,rfl,fun x hx=>absurd hx (by simp),ar.out⟩
 case round =>
  obtain ⟨k,qs,hk,rfl,hqk,hown,hqs,hall,hbel⟩:=hrel
  by_cases hlt:k<n
  ·have hkl:k<l.length:=by rw [HN.out];exact hlt
   have hpr:=HP.out.later hbel
   obtain ⟨ad,rfl,hab,q0⟩:=hpr.row k hkl
   have af:=hpr.all.at k hkl
   have ab:=au.out (l[k]!) (by rw [epget hkl];exact List.getElem_mem hkl)
   have ac:lsP qs++[(l[k]!).l]=(lsP l).take (k+1):=by rw [ltake (by rw [aC];exact hkl),hqs,cF l k hkl]
   obtain ⟨x,hx⟩:∃ x,l[k]! = x:=⟨_,rfl⟩
   rw [hx] at q0 af ab ac
   obtain ⟨xa,xl,xc⟩:=x
   simp only [EPc.v] at q0 ab ac
   have hgl:g<wr.heap.size:=(hown.lt _ rfl).2
   have hbx:Below wr.heap.size wr (wr.alloc (.cells #[.slice xa xl.length xc] 54)):=(Below.refl _ _).alloc (Nat.le_refl _) _
   have co:=zH xa xl xc _ (af.later hbx) ab
   obtain ⟨m,hm⟩:∃ m,xl.length=m:=⟨_,rfl⟩
   have CO:=hid co;have HO:=hid hown;have HM:=hid hm;have av:=hid ac;have aa:=hid hall;have ag:=hid hbx;have aw:=hid hgl;have HQ:=hid hqk
   rw [hm] at q0 CO ag
   have b0:(0:Int)≤(k:Int):=by omega
   have b1:(k:Int)<(n:Int):=by omega
   clear co hown hm hx af ab ac hall hbx hgl hab hpr hqs hqk
   go_wp2_with fail
   refine CO.out.mono ?_
   rintro e w3 ⟨a3,c3,rfl,al,am⟩
   rw [HM.out]
   have ae:Below wr.heap.size wr w3:=ag.out.trans (am.mono ag.out.size)
   have ah:=hid (bH HO.out ae)
   have ax:=hid (hbel.trans (ae.mono hbel.size))
   have f0:=ah.out.frozenAt k
   have hkq:k<(qs++List.replicate (n - k) nilS).length:=by rw [List.length_append,List.length_replicate,HQ.out];omega
   have q3:=(ah.out.cellAt k (by omega)).trans (fA _ k hkq)
   rw [show (qs++List.replicate (n - k) nilS)[k]! = nilS by rw [epget hkq,List.getElem_append_right (by rw [HQ.out];exact Nat.le_refl _),List.getElem_replicate]] at q3
   have q3:w3.cell? ⟨g,k,none⟩=some (.slice none 0 0):=q3
   have ay:=hid (ah.out.stored k (.slice a3 xl.length c3)).1
   have HE:sflat ((qs++List.replicate (n - k) nilS).set k ⟨a3,xl,c3⟩)=sflat ((qs++[⟨a3,xl,c3⟩])++List.replicate (n - (k+1)) nilS):=by
    rw [List.set_append_right _ _ (by rw [HQ.out];exact Nat.le_refl _),HQ.out,Nat.sub_self,show n - k=(n - (k+1))+1 by omega,List.replicate_succ,List.set_cons_zero,List.append_assoc]
    rfl
   have HS:=hid ((qX (qs++List.replicate (n - k) nilS) k ⟨a3,xl,c3⟩).trans HE)
   have az:=hid (ax.out.setCell (p:=⟨g,k,none⟩) (Nat.le_of_eq HG.out) (.slice a3 m c3))
   have a0:=hid ((al.mono (b2:=g+1) (by have:=aw.out;simp;omega)).set (p:=⟨g,k,none⟩) (Nat.lt_succ_self g) (.slice a3 m c3))
   have a1:=hid (fun x hx=>((aa.out x hx).below ae).set (p:=⟨g,k,none⟩) (Nat.lt_succ_self g) (.slice a3 m c3))
   clear al am ae hbel q0 HE hkq
   go_wp2
   go_roundw
   case rel =>
    refine ⟨k+1,qs++[⟨a3,xl,c3⟩],by omega,by go_num,by rw [List.length_append,HQ.out];rfl,?_,by rw [eR];exact av.out,?_,az.out⟩
    ·have h:=ay.out
     have hS:=HS.out
     simp only [EPc.v] at hS
     rw [hS,HM.out] at h
     exact h
    ·intro x hx
     rcases List.mem_append.1 hx with hx|hx
     ·exact a1.out x hx
     ·obtain rfl:=List.mem_singleton.1 hx
      exact a0.out
   case measure=>simp [intOf];omega
  ·obtain rfl:k=n:=by omega
   rw [Nat.sub_self,List.replicate_zero,List.append_nil] at hown
   have hown:wr.ownsRow w.heap.size 54 1 (.slice (some ⟨g,0,none⟩) k k) qs.length (sflat qs):=by rw [hqk];exact hown
   obtain ⟨a4,c4,ev,hrow⟩:=dR hown (fun x hx=>(hall x hx).in)
   rw [hqk] at ev
   injection ev with e1 e2 e3
   subst e1
   subst e3
   have an:lsP qs=lsP l:=by rw [hqs,List.take_of_length_le (by rw [aC,HN.out];exact Nat.le_refl _)]
   have aq:=hid hrow;have HQ:=hid hqk;have a2:=hid (show wr.ownsRow w.heap.size 54 1 (.slice (some ⟨g,0,none⟩) qs.length k) qs.length (sflat qs) by have h:=hown;rw [hqk] at h ⊢;exact h);have a5:=hid an;have aa:=hid hall
   clear hrow hown hqk hqs hall an
   go_wp2
   go_ret
   exact ⟨_,k,qs,by rw [HQ.out];rfl,a5.out,aq.out,⟨g,rfl,Nat.le_of_eq HG.out,aa.out⟩,a2.out,hbel⟩
def SrcP (w:World) (size:Nat) (y:Value) (m:Nat) (news:List Value):Prop:=
 (y=.slice none 0 0∧m=0∧news=[])∨∃ ad c,y=.slice (some ad) m c∧news.length=m * size∧(∀ j u,news[j]? = some u→w.cell? (ad.add j)=some u)∧∀ u∈news,u.oneCell'=true
theorem PH {a:Option Addr} {l:List EPc} {c:Nat} (h:SPcs w ⟨a,l,c⟩):SrcP w 1 (.slice a l.length c) l.length (sflat l):=by
 cases a with
 | none =>
  have e0:l=[]:=h.len rfl
  have e1:c=0:=h.nil rfl
  subst e0
  subst e1
  exact .inl ⟨rfl,rfl,rfl⟩
 | some ad=>exact .inr ⟨ad,c,rfl,eA l,jM h.row,iA l⟩
theorem pY {b:Nat} {a:Option Addr} {c:Nat} {t:TypeId} (h:Blk w b #[.slice a n c] t):SrcP w 1 (.slice (some ⟨b,0,none⟩) 1 1) 1 [.slice a n c]:=
 .inr ⟨⟨b,0,none⟩,1,rfl,rfl,fun j u hj=>by
  match j,hj with
  | 0,hj=>simp at hj;subst hj;exact h.cell 0 _ rfl,fun u hu=>by
  obtain rfl:=List.mem_singleton.1 hu
  rfl⟩
theorem aI {P:Program} (w:World) {ops:Array Oper} {o:Oper} {a:Act} {K:Act→World→Prop} {Q:Exit→Act→World→Prop} {E:Prop} (hw:Region.wanted o (yielded ops a.tmps)=true) (s x:Operand) (t:TypeId)
 (ho:o.op=.call { callee:=.builtin .append,args:=#[s,x],argTypes:=#[t,t] })
 (base:Nat) (e:TypeId) (i:TypeInfo) (z:Value) (size bytes:Nat) (ht:P.underlying t=some (.slice e)) (hi:P.info? e=some i) (hz:i.zero=some z)
 (hsize:i.size=size) (hby:i.bytes=bytes) (hzs:z.cells.size=size) (hsz:0<size)
 (v:Value) (n:Nat) (xs:List Value) (hs:a.eval s=v) (hown:w.ownsRow base e size v n xs)
 (y:Value) (m:Nat) (news:List Value) (hx:a.eval x=y) (hsrc:SrcP w size y m news)
 (h63:n+m≤maxLen) (hbytes:(n+m) * bytes≤140737488355328) (hbase:base≤w.heap.size)
 (h:∀ v' w',w'.ownsRow base e size v' (n+m) (xs++news)→w.grownBy w' v.ownBlock→K (a.put o.dst v') w') :
 if Region.wanted o (yielded ops a.tmps)=true then Oper.wp P o a w K Q else E:=by
 rw [if_pos hw]
 rcases hsrc with ⟨rfl,rfl,rfl⟩|⟨ad,c,rfl,hl,hnews,h1⟩
 ·have hrun:=run_append_owned_none (P:=P) (w:=w) base t o.type e i size ht hi v n xs hown
  unfold Oper.wp
  simp [execOp,ho,resolve,invoke,builtin,hs,hx,hrun,Result.andThen]
  exact h v w (by rw [List.append_nil];exact hown) (World.grownBy.refl _ _)
 ·exact wp_append_own w s x t ho base e i z size bytes ht hi hz hsize hby hzs hsz v n xs hs hown ad m c news hx hl hnews h1 h63 hbytes hbase fun v' w' h2 h3 _=>h v' w' h2 h3
theorem SRow.drop {base:Nat} {ad:Addr} {l:List EPc} {c:Nat} (h:SRow w base ⟨some ad,l,c⟩) (n:Nat):SRow w base ⟨some (ad.add n),l.drop n,c - n⟩:=
 ⟨Scs.drop h.row n,fun x hx=>h.all x (List.mem_of_mem_drop hx),fun e=>(by cases e),by have h2:l.length≤c:=h.le;show (l.drop n).length≤c - n;rw [List.length_drop];omega,by have h2:c≤maxLen:=h.cap;show c - n≤maxLen;omega⟩
set_option maxHeartbeats 3200000 in
theorem eX (a:Option Addr) (l:List EPc) (c:Nat) (y:EPc) (w:World) (hp:SPcs w ⟨a,l,c⟩) (hy:EPcs w y) (hl:l.length≤900) :
 Calls prog 76 #[.slice a l.length c,stpV y.a y.l.length y.c] w (RetSRow w ((l++[y]).drop (l.length+1 - 16))):=by
 obtain ⟨i0,hi,ar,au,av⟩:=info_parts dG
 obtain ⟨ya,yl,yc⟩:=y
 obtain ⟨n,hn⟩:∃ n,l.length=n:=⟨_,rfl⟩
 obtain ⟨m,hm⟩:∃ n,yl.length=n:=⟨_,rfl⟩
 simp only [hm]
 obtain ⟨W1,a2⟩:∃ W1,w.alloc (.cells #[.slice ya m yc] 54)=W1:=⟨_,rfl⟩
 have b1:Below w.heap.size w W1:=by rw [← a2];exact (Below.refl _ _).alloc (Nat.le_refl _) _
 have B1:=Blk.new w #[.slice ya m yc] 54
 rw [a2] at B1
 obtain ⟨L,hL⟩:∃ L,l++[(⟨ya,yl,yc⟩:EPc)]=L:=⟨_,rfl⟩
 have hLL:L.length=n+1:=by rw [← hL,List.length_append,hn];rfl
 have hFL:sflat L=sflat l++[.slice ya m yc]:=by rw [← hL,lE,← hm];rfl
 have hAL:∀ w',Below W1.heap.size W1 w'→SAll w' L:=fun w' hb x hx=>by
  rw [← hL] at hx
  have a4:Below w.heap.size w w':=b1.trans (hb.mono b1.size)
  rcases List.mem_append.1 hx with h|h
  ·exact (hp.later a4).all x h
  ·obtain rfl:=List.mem_singleton.1 h
   exact hy.later a4
 have hsr:∀ w',Below W1.heap.size W1 w'→SrcP w' 1 (.slice a n c) n (sflat l):=fun w' hb=>by
  have h:=PH (hp.later (b1.trans (hb.mono b1.size)))
  rw [hn] at h
  exact h
 have fs:∀ w',Below W1.heap.size W1 w'→Below W1.heap.size W1 w'∧w'.cell? ⟨w.heap.size,0,none⟩=some (.slice ya m yc):=fun w' h=>⟨h,(B1.onto h).cell 0 _ rfl⟩
 rw [hL,hn]
 rw [hn] at hl
 have ab:=hid hLL;have aw:=hid hFL;have ax:=hid hAL;have ay:=hid hsr;have FS:=hid fs;have ae:=hid b1
 obtain ⟨Q,hQ⟩:∃ Q,L.drop (n+1 - 16)=Q:=⟨_,rfl⟩
 rw [hQ]
 have K1:=hid hQ
 clear hLL hFL hAL hsr fs b1 B1 hL hp hy hm hQ hn
 go_enter func76,ntmps76
 go_wp2_with fail
 clear a2
 refine wp_region_held_drew (S:=(fun w':World=>Below W1.heap.size W1 w'∧w'.cell? ⟨w.heap.size,0,none⟩=some (.slice ya m yc))) (by kernel_rfl) (FS.out _ (Below.refl W1.heap.size W1).drew) (fun hHeld=>?_)
 refine sqt 1 ?_
 refine sqt 3 ?_
 refine wpAnyH_ready (rs:=[0,4]) (by kernel_rfl) (by simp) ?_
 refine AllReadyH.cons (by simp only [sqg];rfl) (fun K hK=>?_) (AllReadyH.cons (by simp only [sqg];rfl) (fun K hK=>?_) AllReadyH.nil)
 ·go_simp
  have aa:=hid ((Below.refl W1.heap.size W1).drew.alloc (Below.refl W1.heap.size W1).drew.size (.cells #[] 54));have af:=hid (show (W1.drew.alloc (.cells #[] 54)).ownsRow W1.heap.size 54 1 (.slice (some ⟨W1.drew.heap.size,0,none⟩) 0 0) 0 [] from World.ownsRow_made W1.drew #[] 0 (Below.refl W1.heap.size W1).drew.size (Nat.zero_le _) (by simp))
  try go_wp2_with fail
  refine hK.out _ _ ?_ (fun hHeld=>?_)
  ·exact FS.out _ aa.out
  clear hK K
  try simp only [Act.put,sqp]
  refine wpAnyH_ready (rs:=[2,4]) (by kernel_rfl) (by simp) ?_
  refine AllReadyH.cons (by simp only [sqg];rfl) (fun K hK=>?_) (AllReadyH.cons (by simp only [sqg];rfl) (fun K hK=>?_) AllReadyH.nil)
  ·refine aI _ (by rfl) (.tmp 6) (.tmp 7) 23 rfl W1.heap.size 54 i0 _ 1 24 underlying23 hi ar au av rfl (by decide) (.slice (some ⟨W1.heap.size,0,none⟩) 0 0) 0 ([]) rfl af.out (.slice a n c) n (sflat l) rfl (ay.out _ aa.out) (by unfold maxLen;omega) (by omega) aa.out.size ?_
   intro v8 w6 az ao
   have ad:=hid (aa.out.grown ao aa.out.size (aA af.out));have ai:=hid (show w6.ownsRow W1.heap.size 54 1 v8 n (sflat l) by simpa using az);skip
   refine hK.out _ _ ?_ (fun hHeld=>?_)
   ·exact FS.out _ ad.out
   clear hK K
   try simp only [Act.put,sqp]
   refine sqr 4 fun K hK=>?_
   go_simp
   have a6:=hid (Blk.new w6 #[.slice ya m yc] 54);have a0:=hid (ad.out.alloc ad.out.size (.cells #[.slice ya m yc] 54));have a5:=hid (ai.out.alloc (.cells #[.slice ya m yc] 54))
   try go_wp2_with fail
   refine hK.out _ _ ?_ (fun hHeld=>?_)
   ·exact FS.out _ a0.out
   clear hK K
   try simp only [Act.put,sqp]
   refine sqr 5 fun K hK=>?_
   refine aI _ (by rfl) (.tmp 8) (.tmp 10) 23 rfl W1.heap.size 54 i0 _ 1 24 underlying23 hi ar au av rfl (by decide) v8 n (sflat l) rfl a5.out (.slice (some ⟨w6.heap.size,0,none⟩) 1 1) 1 [.slice ya m yc] rfl (pY a6.out) (by unfold maxLen;omega) (by omega) (a0.out).size ?_
   intro v9 w8 aj ak
   have ag:=hid ((a0.out).grown ak (a0.out).size (aA (a5.out)))
   have al:w8.ownsRow W1.heap.size 54 1 v9 L.length (sflat L):=by rw [ab.out,aw.out];exact aj
   obtain ⟨a8,c8,ev,am⟩:=dR al (ax.out _ ag.out)
   rw [ab.out] at ev
   subst ev
   have ac:=hid am;clear am aj al ak
   refine hK.out _ _ ?_ (fun hHeld=>?_)
   ·exact FS.out _ ag.out
   clear hK K
   try simp only [Act.put,sqp]
   refine sqt 6 ?_
   refine wpAnyH_done (by kernel_rfl) ?_ _
   clear ax aw ay ai FS
   obtain ⟨ad8,e8,-⟩:=ac.out.row 0 (by show 0<L.length;rw [ab.out];omega)
   have e8:a8=some ad8:=e8
   subst e8
   have hle:n+1≤c8:=by have h:L.length≤c8:=ac.out.le;rw [ab.out] at h;exact h
   have hcm:c8≤9223372036854775807:=by have h:c8≤maxLen:=ac.out.cap;unfold maxLen at h;omega
   have ah:=hid (ae.out.trans (ag.out.mono ae.out.size))
   by_cases g:n+1≤16
   ·have g2:(n:Int)+1≤16:=by omega
    have e0:L=Q:=by rw [← K1.out,show n+1 - 16=0 by omega,List.drop_zero]
    subst e0
    go_wp2
    go_ret
    exact ⟨some ad8,c8,by rw [ab.out];rfl,ac.out.mono ae.out.size,ah.out⟩
   ·obtain ⟨j,hj⟩:∃ j,n+1 - 16=j:=⟨_,rfl⟩
    have g2:(16:Int)<(n:Int)+1:=by omega
    have g3:(n:Int)+1 - 16=(j:Int):=by omega
    have g4:(0:Int)≤(j:Int):=by omega
    have g5:(j:Int)≤(n:Int)+1:=by omega
    have g6:¬ c8=j:=by omega
    have hq:Q.length=n+1 - j:=by rw [← K1.out,List.length_drop,ab.out,hj]
    have an:=hid ((ac.out.drop j).mono ae.out.size)
    rw [show L.drop j=Q by rw [← K1.out,hj]] at an
    have HQ:=hid hq
    clear hj hq
    go_wp2
    go_ret
    exact ⟨some (ad8.add j),c8 - j,by rw [HQ.out];rfl,an.out,ah.out⟩
  ·go_simp
   have aq:=hid (Blk.new (W1.drew.alloc (.cells #[] 54)) #[.slice ya m yc] 54);replace aq:=hid (show Blk _ (W1.heap.size+1) _ _ by have h:=aq.out;simpa using h);replace aa:=hid (aa.out.alloc aa.out.size (.cells #[.slice ya m yc] 54));replace af:=hid (af.out.alloc (.cells #[.slice ya m yc] 54))
   try go_wp2_with fail
   refine hK.out _ _ ?_ (fun hHeld=>?_)
   ·exact FS.out _ aa.out
   clear hK K
   try simp only [Act.put,sqp]
   refine sqr 2 fun K hK=>?_
   refine aI _ (by rfl) (.tmp 6) (.tmp 7) 23 rfl W1.heap.size 54 i0 _ 1 24 underlying23 hi ar au av rfl (by decide) (.slice (some ⟨W1.heap.size,0,none⟩) 0 0) 0 ([]) rfl af.out (.slice a n c) n (sflat l) rfl (ay.out _ aa.out) (by unfold maxLen;omega) (by omega) aa.out.size ?_
   intro v8 w6 az ao
   have ad:=hid (aa.out.grown ao aa.out.size (aA af.out));have ai:=hid (show w6.ownsRow W1.heap.size 54 1 v8 n (sflat l) by simpa using az);have a3:=hid (dF aq.out ao (by simp [Value.ownBlock]))
   refine hK.out _ _ ?_ (fun hHeld=>?_)
   ·exact FS.out _ ad.out
   clear hK K
   try simp only [Act.put,sqp]
   refine sqr 5 fun K hK=>?_
   refine aI _ (by rfl) (.tmp 8) (.tmp 10) 23 rfl W1.heap.size 54 i0 _ 1 24 underlying23 hi ar au av rfl (by decide) v8 n (sflat l) rfl ai.out (.slice (some ⟨(W1.heap.size+1),0,none⟩) 1 1) 1 [.slice ya m yc] rfl (pY a3.out) (by unfold maxLen;omega) (by omega) (ad.out).size ?_
   intro v9 w8 aj ak
   have ag:=hid ((ad.out).grown ak (ad.out).size (aA (ai.out)))
   have al:w8.ownsRow W1.heap.size 54 1 v9 L.length (sflat L):=by rw [ab.out,aw.out];exact aj
   obtain ⟨a8,c8,ev,am⟩:=dR al (ax.out _ ag.out)
   rw [ab.out] at ev
   subst ev
   have ac:=hid am;clear am aj al ak
   refine hK.out _ _ ?_ (fun hHeld=>?_)
   ·exact FS.out _ ag.out
   clear hK K
   try simp only [Act.put,sqp]
   refine sqt 6 ?_
   refine wpAnyH_done (by kernel_rfl) ?_ _
   clear ax aw ay ai FS
   obtain ⟨ad8,e8,-⟩:=ac.out.row 0 (by show 0<L.length;rw [ab.out];omega)
   have e8:a8=some ad8:=e8
   subst e8
   have hle:n+1≤c8:=by have h:L.length≤c8:=ac.out.le;rw [ab.out] at h;exact h
   have hcm:c8≤9223372036854775807:=by have h:c8≤maxLen:=ac.out.cap;unfold maxLen at h;omega
   have ah:=hid (ae.out.trans (ag.out.mono ae.out.size))
   by_cases g:n+1≤16
   ·have g2:(n:Int)+1≤16:=by omega
    have e0:L=Q:=by rw [← K1.out,show n+1 - 16=0 by omega,List.drop_zero]
    subst e0
    go_wp2
    go_ret
    exact ⟨some ad8,c8,by rw [ab.out];rfl,ac.out.mono ae.out.size,ah.out⟩
   ·obtain ⟨j,hj⟩:∃ j,n+1 - 16=j:=⟨_,rfl⟩
    have g2:(16:Int)<(n:Int)+1:=by omega
    have g3:(n:Int)+1 - 16=(j:Int):=by omega
    have g4:(0:Int)≤(j:Int):=by omega
    have g5:(j:Int)≤(n:Int)+1:=by omega
    have g6:¬ c8=j:=by omega
    have hq:Q.length=n+1 - j:=by rw [← K1.out,List.length_drop,ab.out,hj]
    have an:=hid ((ac.out.drop j).mono ae.out.size)
    rw [show L.drop j=Q by rw [← K1.out,hj]] at an
    have HQ:=hid hq
    clear hj hq
    go_wp2
    go_ret
    exact ⟨some (ad8.add j),c8 - j,by rw [HQ.out];rfl,an.out,ah.out⟩
 ·go_simp
  have aq:=hid (Blk.new W1.drew #[.slice ya m yc] 54);have a1:=hid ((Below.refl W1.heap.size W1).drew.alloc (Nat.le_refl _) (.cells #[.slice ya m yc] 54))
  try go_wp2_with fail
  refine hK.out _ _ ?_ (fun hHeld=>?_)
  ·exact FS.out _ a1.out
  clear hK K
  try simp only [Act.put,sqp]
  refine sqr 0 fun K hK=>?_
  go_simp
  have aa:=hid (a1.out.alloc a1.out.size (.cells #[] 54));have af:=hid (show ((W1.drew.alloc (.cells #[.slice ya m yc] 54)).alloc (.cells #[] 54)).ownsRow W1.heap.size 54 1 (.slice (some ⟨(W1.drew.alloc (.cells #[.slice ya m yc] 54)).heap.size,0,none⟩) 0 0) 0 [] from World.ownsRow_made (W1.drew.alloc (.cells #[.slice ya m yc] 54)) #[] 0 a1.out.size (Nat.zero_le _) (by simp));replace af:=hid (show World.ownsRow _ _ _ _ (.slice (some ⟨W1.heap.size+1,0,none⟩) 0 0) _ _ by have h:=af.out;simpa using h);replace aq:=hid (aq.out.alloc (.cells #[] 54))
  try go_wp2_with fail
  refine hK.out _ _ ?_ (fun hHeld=>?_)
  ·exact FS.out _ aa.out
  clear hK K
  try simp only [Act.put,sqp]
  refine sqr 2 fun K hK=>?_
  refine aI _ (by rfl) (.tmp 6) (.tmp 7) 23 rfl W1.heap.size 54 i0 _ 1 24 underlying23 hi ar au av rfl (by decide) (.slice (some ⟨W1.heap.size+1,0,none⟩) 0 0) 0 ([]) rfl af.out (.slice a n c) n (sflat l) rfl (ay.out _ aa.out) (by unfold maxLen;omega) (by omega) aa.out.size ?_
  intro v8 w6 az ao
  have ad:=hid (aa.out.grown ao aa.out.size (aA af.out));have ai:=hid (show w6.ownsRow W1.heap.size 54 1 v8 n (sflat l) by simpa using az);have a3:=hid (dF aq.out ao (by simp [Value.ownBlock]))
  refine hK.out _ _ ?_ (fun hHeld=>?_)
  ·exact FS.out _ ad.out
  clear hK K
  try simp only [Act.put,sqp]
  refine sqr 5 fun K hK=>?_
  refine aI _ (by rfl) (.tmp 8) (.tmp 10) 23 rfl W1.heap.size 54 i0 _ 1 24 underlying23 hi ar au av rfl (by decide) v8 n (sflat l) rfl ai.out (.slice (some ⟨W1.drew.heap.size,0,none⟩) 1 1) 1 [.slice ya m yc] rfl (pY a3.out) (by unfold maxLen;omega) (by omega) (ad.out).size ?_
  intro v9 w8 aj ak
  have ag:=hid ((ad.out).grown ak (ad.out).size (aA (ai.out)))
  have al:w8.ownsRow W1.heap.size 54 1 v9 L.length (sflat L):=by rw [ab.out,aw.out];exact aj
  obtain ⟨a8,c8,ev,am⟩:=dR al (ax.out _ ag.out)
  rw [ab.out] at ev
  subst ev
  have ac:=hid am;clear am aj al ak
  refine hK.out _ _ ?_ (fun hHeld=>?_)
  ·exact FS.out _ ag.out
  clear hK K
  try simp only [Act.put,sqp]
  refine sqt 6 ?_
  refine wpAnyH_done (by kernel_rfl) ?_ _
  clear ax aw ay ai FS
  obtain ⟨ad8,e8,-⟩:=ac.out.row 0 (by show 0<L.length;rw [ab.out];omega)
  have e8:a8=some ad8:=e8
  subst e8
  have hle:n+1≤c8:=by have h:L.length≤c8:=ac.out.le;rw [ab.out] at h;exact h
  have hcm:c8≤9223372036854775807:=by have h:c8≤maxLen:=ac.out.cap;unfold maxLen at h;omega
  have ah:=hid (ae.out.trans (ag.out.mono ae.out.size))
  by_cases g:n+1≤16
  ·have g2:(n:Int)+1≤16:=by omega
   have e0:L=Q:=by rw [← K1.out,show n+1 - 16=0 by omega,List.drop_zero]
   subst e0
   go_wp2
   go_ret
   exact ⟨some ad8,c8,by rw [ab.out];rfl,ac.out.mono ae.out.size,ah.out⟩
  ·obtain ⟨j,hj⟩:∃ j,n+1 - 16=j:=⟨_,rfl⟩
   have g2:(16:Int)<(n:Int)+1:=by omega
   have g3:(n:Int)+1 - 16=(j:Int):=by omega
   have g4:(0:Int)≤(j:Int):=by omega
   have g5:(j:Int)≤(n:Int)+1:=by omega
   have g6:¬ c8=j:=by omega
   have hq:Q.length=n+1 - j:=by rw [← K1.out,List.length_drop,ab.out,hj]
   have an:=hid ((ac.out.drop j).mono ae.out.size)
   rw [show L.drop j=Q by rw [← K1.out,hj]] at an
   have HQ:=hid hq
   clear hj hq
   go_wp2
   go_ret
   exact ⟨some (ad8.add j),c8 - j,by rw [HQ.out];rfl,an.out,ah.out⟩
end Go.Proofs.YtbagenpobcgjnaaGreat
