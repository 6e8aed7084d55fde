/-
  Joined: StepRef2, StaCat, StkCat, StkDev, StkDev2, StkRef.
-/
import Derived.Test.YtbagenpobcgjnaaGreatJSq
import Derived.Test.YtbagenpobcgjnaaGreatJStkRow
import Derived.Test.YtbagenpobcgjnaaGreatStateShelf
import Derived.Test.YtbagenpobcgjnaaGreatStackShelf
open Go renaming Addr->zj,Calls->zh,TypeId->zo,Value->zi,World->zf,bodyPost_ret->zu,grownCap_le_maxLen->Az,info_parts->zp,madeCells->Ap,maxLen->zm,results->zv,step_append_lies->Al,wpAnyH_done->zt,wpAnyH_ready->Ab,wpList_append_own->An,wpList_append_own_none->A6,wp_region_held_drew->Au
open Go.Act renaming put->zd
open Go.AllReadyH renaming cons->zq,nil->Ad
open Go.Ending renaming returned->zr
open Go.IntKind renaming i64->yz
open Go.Lib renaming hid->yv
open Go.Obj renaming cells->yx
open Go.Proofs.Any8 renaming slices_Grow_grow->Ay,slices_Grow_room->Ax
open Go.Value renaming bool->Aa,cells->A4,int->ze,ownBlock->Ao,slice->yw,string->zg,tuple->Af
open Go.World renaming cell?_alloc_new->A7,cell?_setCell_same'->Ag,ownsRow_made->zx,ownsRow_nil->Aj
open List renaming append_nil->Ae,drop_zero->Ar,getElem?_eq_none->A9,getElem_replicate->A8,length_append->zz,length_drop->Ai,length_nil->A5,length_replicate->Ah,mem_append->Be,mem_singleton->Aq,replicate->zs,take_of_length_le->zy
open Nat renaming eq_zero_or_pos->Aw,le_of_eq->Bd,le_of_succ_le->Am,le_refl->yy,le_trans->zk,lt_succ_of_lt->Av,lt_succ_self->zw,sub_self->Bc,succ_le_of_lt->Ak,zero_add->A0,zero_le->zn
variable {n:Nat} {w:Go.World}
namespace Go.Proofs.YtbagenpobcgjnaaGreat
open Go.Proofs.Tryz
set_option maxRecDepth 100000
open Lib (hid)
open Go.RowKit
set_option linter.unusedVariables false
set_option linter.unusedSimpArgs false
theorem mP {a b:Int} (h:a=b):ze yz a=ze yz b:=by rw [h]
theorem dB {w':zf} {b:Nat} {cs:Array zi} {t:zo} {row:Option Nat} (h:l6 w b cs t) (hg:w.grownBy w' row) (hne:row≠some b):l6 w' b cs t:=(hg.block b h.lt (fun e=>hne e.symm)).trans h
theorem lR {b size:Nat} {e:zo} {v:zi} {xs:List zi} (h:w.ownsRow (b+1) e size v n xs):v.ownBlock≠some b:=fun hk=>by
 have:=aA h b hk;omega
theorem aH {base size:Nat} {e:zo} {v:zi} {xs:List zi} (h:w.ownsRow base e size v n xs) {p:zj} (hp:p.block<base) (u:zi):(w.setCell p u).ownsRow base e size v n xs:=by
 refine ⟨h.1,?_⟩;rcases h.2 with h2|⟨g,cap,cur,hv,aa,hg,hr⟩
 ·exact .inl h2
 ·exact .inr ⟨g,cap,cur,hv,aa,(Below.heap_setCell w p u g (fun e=>lf)).trans hg,hr⟩
set_option maxHeartbeats 1600000 in
theorem jR (a:Option zj) (l:List l7) (c:Nat) (w:zf) (hr:qd w (·<w) a l) (hl:l.length≤100000) :
 zh prog 40 #[oz a l.length c] w (xz w (me l)):=by
 obtain ⟨i0,hi,av,aw,ax⟩:=zp eU;obtain ⟨W1,ao⟩:∃ W1,w.alloc (yx #[yw a l.length c] 54)=W1:=⟨_,rfl⟩;obtain ⟨W2,aq⟩:∃ W2,W1.alloc (yx #[yw none 0 0] 54)=W2:=⟨_,rfl⟩;obtain ⟨wX,hwX⟩:∃ wX,W2.alloc (yx #[yw none 0 0] 54)=wX:=⟨_,rfl⟩;have hst:=yo.new w a l c hr;rw [ao] at hst;have c2:Below W1.heap.size W1 W2:=by rw [← aq];exact (Below.refl _ _).alloc (yy _) _
 have c3:Below W2.heap.size W2 wX:=by rw [← hwX];exact (Below.refl _ _).alloc (yy _) _
 have z1:W1.heap.size=w+1:=by rw [← ao];simp
 have z2:W2.heap.size=w+2:=by rw [← aq];simp [z1]
 have z3:wX.heap.size=W2+1:=by rw [← hwX];simp
 have B3:l6 W2 W1 #[yw none 0 0] 54:=by rw [← aq];exact l6.new _ _ _
 have B4:l6 wX W2 #[yw none 0 0] 54:=by rw [← hwX];exact l6.new _ _ _
 have hst:=hst.on c2;have x0:=hst.cell;have x1:=(c3.cell (p:=⟨w,0,none⟩) hst.size).trans x0;obtain ⟨n,hn⟩:∃ n,l.length=n:=⟨_,rfl⟩;rw [hn] at hl ao x0 x1 ⊢;have ar:=yv hst;have HN:=yv hn;have a5:=yv c3;have a6:=yv B4;have az:=yv B3;have a7:=yv z3;have au:=yv (show W1.heap.size<W2 by omega);have a0:=yv (show w.heap.size≤W1 by omega);clear hst c2 c3 z1 z2 z3 B3 B4 hr hn;go_enter func40,ntmps40;go_wp2;clear ao aq hwX x1
 go_loopw [4] (fun i wr=>∃ (k:Nat) (v:zi),k≤n∧i=ze yz ((n:Int) - 1 - (k:Int))∧l6 wr W2 #[v] 54∧wr.ownsRow (W2+1) 92 3 v k (l7.flat ((me l).take k))∧Below W2 W2 wr) (fun i _=>(intOf i+1).toNat)
 case atStart=>exact ⟨0,_,zn _,mP lf,a6.out,Aj _ _ _ _,a5.out⟩
 case round =>
  obtain ⟨k,v,hk,rfl,hblk,hown,hbel⟩:=hrel;by_cases hlt:k<n
  ·have hkl:k<l.length:=by rw [HN.out];exact hlt
   obtain ⟨j,hj⟩:∃ j,n - 1 - k=j:=⟨_,rfl⟩;have hjl:j<l.length:=by rw [HN.out];omega
   have hs:=sT l k hkl;rw [HN.out,hj] at hs;obtain ⟨ad,rfl,hab,q0,q1,q2⟩:=ar.out.row.at j hjl;obtain ⟨x,hx⟩:∃ x,l[j]! = x:=⟨_,rfl⟩;rw [hx] at q0 q1 q2 hs;obtain ⟨p,o,m⟩:=x;simp only [l7.back] at q0 q1 q2 hs;have ci:=vS p o m;have aj:(ad.add (j * 3)).block<W2:=by rw [show (ad.add (j * 3)).block=ad.block by unfold Addr.add;split <;> rfl];exact hab
   have fs:∀ w',Below W2 W2 w'→Below W2 W2 w'∧w' ⟨w,0,none⟩=some (yw (some ad) n c)∧w' (ad.add (j * 3))=some (ze yz p)∧w' ⟨(ad.add (j * 3)).block,(ad.add (j * 3)).off+1,none⟩=some (zg o)∧w' ⟨(ad.add (j * 3)).block,(ad.add (j * 3)).off+2,none⟩=some (zg m):=fun w' h =>
    ⟨h,(h.cell (p:=⟨w,0,none⟩) ar.out.size).trans x0,(h.cell aj).trans q0,(h.cell (p:=⟨(ad.add (j * 3)).block,(ad.add (j * 3)).off+1,none⟩) aj).trans q1,(h.cell (p:=⟨(ad.add (j * 3)).block,(ad.add (j * 3)).off+2,none⟩) aj).trans q2⟩
   obtain ⟨q,hq⟩:∃ q,(me l).take k=q:=⟨_,rfl⟩;rw [hq] at hs hown;have HS:=yv hs;have CI:=yv ci;have FS:=yv fs;have HK:=yv (show l6 wr.drew W2.heap.size #[v] 54 from hblk);have HO:=yv hown.drew;have y0:=HK.out.cell 0 _ rfl;have hjk:(n:Int) - 1 - (k:Int)=(j:Int):=lf;have b0:(0:Int)≤(j:Int):=lf;have b1:(j:Int)<(n:Int):=lf;rw [hjk];have ay:=yv hjk;clear hs ci fs hx hab aj hj hown hblk hq q0 q1 q2 hjk;go_wp2_with fail;refine Au (S:=(fun w':zf=>Below W2 W2 w'∧w' ⟨w,0,none⟩=some (yw (some ad) n c)∧w' (ad.add (j * 3))=some (ze yz p)∧w' ⟨(ad.add (j * 3)).block,(ad.add (j * 3)).off+1,none⟩=some (zg o)∧w' ⟨(ad.add (j * 3)).block,(ad.add (j * 3)).off+2,none⟩=some (zg m))) lg (FS.out _ hbel.drew) (fun hHeld=>?_);refine ly 0 ?_;refine ly 2 ?_;refine ly 3 ?_;refine ly 4 ?_;refine ly 5 ?_;refine ly 6 ?_;refine Ab (rs:=[1,7]) lg lh ?_;refine zq (by simp only [qz];rfl) (fun K hK=>?_) (zq (by simp only [qz];rfl) (fun K hK=>?_) Ad)
   ·go_simp;skip
    try go_wp2_with fail
    refine hK.out _ _ ?_ (fun hHeld=>?_)
    ·exact hHeld
    clear hK K
    try simp only [zd,mj]
    refine m8 7 fun K hK=>?_;go_simp
    (go_at_call 68;refine (CI.out _).mono ?_;rintro e w3 ⟨rfl,af⟩;have ag:=yv (hbel.drew.trans (af.mono (Below.size hbel.drew)));have ac:=yv (HK.out.onto af);have ae:=yv (bK HO.out af);have y3:=ac.out.cell 0 _ rfl;clear af)
    try go_wp2_with fail
    refine hK.out _ _ ?_ (fun hHeld=>?_)
    ·exact FS.out _ ag.out
    clear hK K
    try simp only [zd,mj]
    refine m8 8 fun K hK=>?_;go_simp;have aa:=yv (ag.out.alloc ag.out.size (yx #[ze yz p,zg m,zg o] 92));have ak:=yv (show W2.heap.size+1≤(w3.alloc (yx #[ze yz p,zg m,zg o] 92)) from zk (Ak ac.out.lt) lh)
    try go_wp2_with fail
    refine hK.out _ _ ?_ (fun hHeld=>?_)
    ·exact FS.out _ aa.out
    clear hK K
    try simp only [zd,mj]
    refine m8 9 fun K hK=>?_;refine Al _ rfl (.tmp 14) (.tmp 21) 24 rfl (W2+1) 92 i0 _ 3 40 underlying24 hi av aw ax rfl li v k (l7.flat q) rfl (ae.out.alloc _) ⟨w3,0,none⟩ 1 1 [ze yz p,zg m,zg o] rfl rfl (oX w3 _ _ _ _) (mV _ _ _) lf ln lf ak.out _ rfl ?_;intro g5 cap w6 hown' hgrow _ _;have ah:=yv (aa.out.grown hgrow aa.out.size (fun b hb=>Am (aA ae.out b hb)));have ab:=yv (dB ((ac.out.alloc _)) hgrow (lR ae.out));have al:=yv hown';have y6:=ab.out.cell 0 _ rfl;have y7:=ab.out.free 0;clear hown' hgrow;refine hK.out _ _ ?_ (fun hHeld=>?_)
    ·exact FS.out _ ah.out
    clear hK K
    try simp only [zd,mj]
    refine ly 10 ?_;refine m8 11 fun K hK=>?_;go_simp;have ai:=yv (ah.out.setCell (p:=⟨W2,0,none⟩) (yy _) (yw (some ⟨g5,0,none⟩) (k+1) cap));have am:=yv (ab.out.set 0 (yw (some ⟨g5,0,none⟩) (k+1) cap));have an:=yv (aH al.out (p:=⟨W2,0,none⟩) (zw _) (yw (some ⟨g5,0,none⟩) (k+1) cap))
    try go_wp2_with fail
    refine hK.out _ _ ?_ (fun hHeld=>?_)
    ·exact FS.out _ ai.out
    clear hK K
    try simp only [zd,mj]
    refine zt lg ?_ _;go_wp2_with fail;go_roundw
    case rel=>exact ⟨k+1,_,lf,mP (by have:=ay.out;omega),am.out,by rw [HS.out,l7.flat_app];exact an.out,ai.out⟩
    case measure=>simp [intOf]
   ·go_simp
    (go_at_call 68;refine (CI.out _).mono ?_;rintro e w3 ⟨rfl,af⟩;have ag:=yv (hbel.drew.trans (af.mono (Below.size hbel.drew)));have ac:=yv (HK.out.onto af);have ae:=yv (bK HO.out af);have y3:=ac.out.cell 0 _ rfl;clear af)
    try go_wp2_with fail
    refine hK.out _ _ ?_ (fun hHeld=>?_)
    ·exact FS.out _ ag.out
    clear hK K
    try simp only [zd,mj]
    refine Ab (rs:=[1,8]) lg lh ?_;refine zq (by simp only [qz];rfl) (fun K hK=>?_) (zq (by simp only [qz];rfl) (fun K hK=>?_) Ad)
    ·go_simp;skip
     try go_wp2_with fail
     refine hK.out _ _ ?_ (fun hHeld=>?_)
     ·exact hHeld
     clear hK K
     try simp only [zd,mj]
     refine m8 8 fun K hK=>?_;go_simp;have aa:=yv (ag.out.alloc ag.out.size (yx #[ze yz p,zg m,zg o] 92));have ak:=yv (show W2.heap.size+1≤(w3.alloc (yx #[ze yz p,zg m,zg o] 92)) from zk (Ak ac.out.lt) lh)
     try go_wp2_with fail
     refine hK.out _ _ ?_ (fun hHeld=>?_)
     ·exact FS.out _ aa.out
     clear hK K
     try simp only [zd,mj]
     refine m8 9 fun K hK=>?_;refine Al _ rfl (.tmp 14) (.tmp 21) 24 rfl (W2+1) 92 i0 _ 3 40 underlying24 hi av aw ax rfl li v k (l7.flat q) rfl (ae.out.alloc _) ⟨w3,0,none⟩ 1 1 [ze yz p,zg m,zg o] rfl rfl (oX w3 _ _ _ _) (mV _ _ _) lf ln lf ak.out _ rfl ?_;intro g5 cap w6 hown' hgrow _ _;have ah:=yv (aa.out.grown hgrow aa.out.size (fun b hb=>Am (aA ae.out b hb)));have ab:=yv (dB ((ac.out.alloc _)) hgrow (lR ae.out));have al:=yv hown';have y6:=ab.out.cell 0 _ rfl;have y7:=ab.out.free 0;clear hown' hgrow;refine hK.out _ _ ?_ (fun hHeld=>?_)
     ·exact FS.out _ ah.out
     clear hK K
     try simp only [zd,mj]
     refine ly 10 ?_;refine m8 11 fun K hK=>?_;go_simp;have ai:=yv (ah.out.setCell (p:=⟨W2,0,none⟩) (yy _) (yw (some ⟨g5,0,none⟩) (k+1) cap));have am:=yv (ab.out.set 0 (yw (some ⟨g5,0,none⟩) (k+1) cap));have an:=yv (aH al.out (p:=⟨W2,0,none⟩) (zw _) (yw (some ⟨g5,0,none⟩) (k+1) cap))
     try go_wp2_with fail
     refine hK.out _ _ ?_ (fun hHeld=>?_)
     ·exact FS.out _ ai.out
     clear hK K
     try simp only [zd,mj]
     refine zt lg ?_ _;go_wp2_with fail;go_roundw
     case rel=>exact ⟨k+1,_,lf,mP (by have:=ay.out;omega),am.out,by rw [HS.out,l7.flat_app];exact an.out,ai.out⟩
     case measure=>simp [intOf]
    ·go_simp;have aa:=yv (ag.out.alloc ag.out.size (yx #[ze yz p,zg m,zg o] 92));have ak:=yv (show W2.heap.size+1≤(w3.alloc (yx #[ze yz p,zg m,zg o] 92)) from zk (Ak ac.out.lt) lh);have y5:=(ac.out.alloc (yx #[ze yz p,zg m,zg o] 92)).cell 0 _ rfl
     try go_wp2_with fail
     refine hK.out _ _ ?_ (fun hHeld=>?_)
     ·exact FS.out _ aa.out
     clear hK K
     try simp only [zd,mj]
     refine m8 1 fun K hK=>?_;go_simp;skip
     try go_wp2_with fail
     refine hK.out _ _ ?_ (fun hHeld=>?_)
     ·exact hHeld
     clear hK K
     try simp only [zd,mj]
     refine m8 9 fun K hK=>?_;refine Al _ rfl (.tmp 14) (.tmp 21) 24 rfl (W2+1) 92 i0 _ 3 40 underlying24 hi av aw ax rfl li v k (l7.flat q) rfl (ae.out.alloc _) ⟨w3,0,none⟩ 1 1 [ze yz p,zg m,zg o] rfl rfl (oX w3 _ _ _ _) (mV _ _ _) lf ln lf ak.out _ rfl ?_;intro g5 cap w6 hown' hgrow _ _;have ah:=yv (aa.out.grown hgrow aa.out.size (fun b hb=>Am (aA ae.out b hb)));have ab:=yv (dB ((ac.out.alloc _)) hgrow (lR ae.out));have al:=yv hown';have y6:=ab.out.cell 0 _ rfl;have y7:=ab.out.free 0;clear hown' hgrow;refine hK.out _ _ ?_ (fun hHeld=>?_)
     ·exact FS.out _ ah.out
     clear hK K
     try simp only [zd,mj]
     refine ly 10 ?_;refine m8 11 fun K hK=>?_;go_simp;have ai:=yv (ah.out.setCell (p:=⟨W2,0,none⟩) (yy _) (yw (some ⟨g5,0,none⟩) (k+1) cap));have am:=yv (ab.out.set 0 (yw (some ⟨g5,0,none⟩) (k+1) cap));have an:=yv (aH al.out (p:=⟨W2,0,none⟩) (zw _) (yw (some ⟨g5,0,none⟩) (k+1) cap))
     try go_wp2_with fail
     refine hK.out _ _ ?_ (fun hHeld=>?_)
     ·exact FS.out _ ai.out
     clear hK K
     try simp only [zd,mj]
     refine zt lg ?_ _;go_wp2_with fail;go_roundw
     case rel=>exact ⟨k+1,_,lf,mP (by have:=ay.out;omega),am.out,by rw [HS.out,l7.flat_app];exact an.out,ai.out⟩
     case measure=>simp [intOf]
  ·obtain rfl:k=n:=lf;have hlen:(me l).length=k:=by rw [aD,HN.out]
   have e:(me l).take k=me l:=by rw [← HN.out];exact wC l
   rw [e] at hown;rw [← hlen] at hown;obtain ⟨a4,c4,rfl,hrow⟩:=dH hown;rw [hlen] at hblk;have y0:=hblk.cell 0 _ rfl;have x4:=az.out.below hbel au.out |>.cell 0 _ rfl
   have x5:=az.out.below hbel au.out |>.free 0
   have a8:¬ (0:Int)≤(k:Int) - 1 - (k:Int):=lf;have a9:(k:Int) - 1 - (k:Int)<0:=lf;have a1:=yv ((ar.out.below.trans (hbel.mono ar.out.below.size)).setCell (p:=⟨W1,0,none⟩) a0.out (yw a4 k c4));have a2:=yv ((hrow.set (p:=⟨W1,0,none⟩) (Av au.out) (yw a4 k c4)).mono (b2:=w.heap.size) (zk a0.out (Nat.le_of_lt (Av au.out))));have a3:=yv hlen;clear hrow hown hbel hlen e hblk;go_wp2;refine zu (v:=oz a4 k c4) (by simp [zv,results40,go_sem,x4]) rfl ?_;exact ⟨_,c4,by rw [a3.out],a2.out,a1.out⟩
end Go.Proofs.YtbagenpobcgjnaaGreat
namespace Go.Proofs.YtbagenpobcgjnaaGreat
open Go.Proofs.Tryz
set_option maxRecDepth 100000
open Lib (hid)
open Go.Shelf Go.RowKit
set_option linter.unusedVariables false
set_option maxHeartbeats 800000 in
theorem IY (n:Nat) (hn:n≤1000000) (w:zf):zh prog 158 #[yw none 0 0,ze yz n] w fun e w'=>∃ v,e=zr v∧w'.ownsRow w 54 1 v 0 []∧Below w w w':=by
 obtain ⟨i0,hi,aa,ab,ac⟩:=zp dI;rcases Aw n with rfl|hp
 ·have h:=Ax Tryz.mkGrowT none 0 0 0 w (yy _) lf lf lf;change zh prog 158 _ _ _ at h;refine h.mono ?_;rintro e w' ⟨rfl,rfl⟩;exact ⟨_,rfl,Aj _ _ _ _,Below.refl _ _⟩
 ·have h:=Ay Tryz.mkGrowT i0 _ hi aa (by rw [ab];decide) none 0 0 n [] w (yy _) lf (by rw [ac];omega) lf lh (fun _=>rfl) (fun a e=>by cases e);change zh prog 158 _ _ _ at h;refine h.mono ?_;rintro e w' ⟨rfl,rfl⟩;have hge:=grownCap_ge w (0+n) 0 (Tryz.mkGrowT_ren.t 25);have hle:=Az w (0+n) 0 (Tryz.mkGrowT_ren.t 25) ln;refine ⟨_,rfl,zx w.drew _ _ (yy _) hle ?_,((Below.refl w w).drew).alloc (yy _) _⟩;simp only [A0] at hge ⊢;simp [Builtin.zeroCells,A4];omega
set_option maxHeartbeats 1600000 in
theorem zG (r:Nat) (ps:List pa) (w:zf) (hr:r<w) (hps:∀ k,k<ps.length→w ⟨r,k,none⟩=some (ps[k]!).v) (hp:∀ k,k<ps.length→nx w ps[k]!) (hl:ps.length≤1000) (hs:qc ps≤100000) :
 zh prog 133 #[yw (some ⟨r,0,none⟩) ps.length ps.length] w (py w (qi ps)):=by
 obtain ⟨i0,hi,aj,ak,al⟩:=zp dI;obtain ⟨m,hm⟩:∃ m,ps.length=m:=⟨_,rfl⟩;rw [hm] at hl ⊢;have HM:=yv hm;have ae:=yv hps;have HP:=yv hp;have HS:=yv hs;have HR:=yv hr;clear hm hps hp hs hr;go_enter func133,ntmps133;go_wp2
 go_loop [3,11] (fun z i=>∃ k:Nat,k≤m∧i=ze yz k∧z=ze yz (qc (ps.take k):Nat)) (fun _ i=>m - (intOf i).toNat)
 case atStart=>exact ⟨0,zn _,rfl,rfl⟩
 case round =>
  obtain ⟨k,hk,rfl,rfl⟩:=hrel;have hb:=zk (dD ps k) HS.out;by_cases hlt:k<m
  ·have hkl:k<ps.length:=by rw [HM.out];exact hlt
   have q0:=ae.out k hkl;have h2:=fV ps k hkl;have am:=zk (dD ps (k+1)) HS.out;obtain ⟨x,hx⟩:∃ x,ps[k]! = x:=⟨_,rfl⟩;rw [hx] at q0 h2;obtain ⟨xa,xl,xc⟩:=x;simp only [pa.v] at q0 h2;obtain ⟨n,hn⟩:∃ n,xl.length=n:=⟨_,rfl⟩;rw [hn] at q0 h2;obtain ⟨s,hs⟩:∃ s,qc (ps.take k)=s:=⟨_,rfl⟩;rw [hs] at h2 hb ⊢;have HX:=yv h2;have aw:s+n≤100000:=lf;have b0:(0:Int)≤(k:Int):=lf;have b1:(k:Int)<(m:Int):=lf;have b2:¬ (s:Int)+(n:Int)<0:=lf;clear hx hn hs h2 am;go_wp2
   go_round
   case rel=>exact ⟨k+1,lf,by go_num,by rw [HX.out];go_num⟩
   case measure=>simp [intOf];omega
  ·obtain rfl:k=m:=lf;have hz:qc (ps.take k)=qc ps:=by rw [zy (by rw [HM.out];exact yy _)]
   rw [hz] at hb ⊢;obtain ⟨s,hs⟩:∃ s,qc ps=s:=⟨_,rfl⟩;rw [hs] at hb ⊢;have cg:=IY s lf w;have CG:=yv cg;have ax:=yv hs;clear hz hs cg;go_wp2_with fail;refine CG.out.mono ?_;rintro e w1 ⟨v,rfl,ab,aa⟩;have an:=yv aa;have HO:=yv ab;clear aa ab;go_wp2
   go_loopw [6,27] (fun v i wr=>∃ j:Nat,j≤k∧i=ze yz j∧wr.ownsRow w 54 1 v (qi (ps.take j)).length (nf (qi (ps.take j)))∧Below w w wr) (fun _ i _=>k - (intOf i).toNat)
   case atStart=>exact ⟨0,zn _,rfl,HO.out,an.out⟩
   case round =>
    obtain ⟨j,hj,rfl,hown,hbel⟩:=hrel;have hlen:=qW (ps.take j);have hle:=zk (dD ps j) HS.out;by_cases hlt:j<k
    ·have hjl:j<ps.length:=by rw [HM.out];exact hlt
     have q0:=(hbel.cell (p:=⟨r,j,none⟩) HR.out).trans (ae.out j hjl);have hp:=HP.out j hjl;have h2:=pD ps j hjl;have h3:=fV ps j hjl;have ai:=zk (dD ps (j+1)) HS.out;obtain ⟨x,hx⟩:∃ x,ps[j]! = x:=⟨_,rfl⟩;rw [hx] at q0 hp h2 h3;obtain ⟨o,ho⟩:∃ o,qi (ps.take j)=o:=⟨_,rfl⟩;rw [ho] at hown hlen h2;have hol:o.length≤100000:=lf;have hxl:o.length+x.l.length≤100000:=lf;have H2:=yv h2;have b0:(0:Int)≤(j:Int):=lf;have b1:(j:Int)<(k:Int):=lf;clear hx ho h2 h3 hlen hle ai;obtain ⟨xa,xl,xc⟩:=x;cases xa with
     | none =>
      have e0:xl=[]:=hp.len rfl;have e1:xc=0:=hp.nil rfl;subst e0;subst e1;simp only [pa.v,A5] at q0;clear hp hxl;go_wp2_with (at_builtin;refine A6 rfl _ _ 23 rfl w.heap.size 54 i0 1 underlying23 hi _ _ _ rfl hown rfl ?_);go_roundw
      case rel=>exact ⟨j+1,lf,by go_num,by rw [H2.out,Ae];exact hown,hbel⟩
      case measure=>simp [intOf];omega
     | some ad =>
      have hnews:=jW (hp.row.below (fun _ h=>h) hbel);simp only [pa.v] at q0;have hfl:=eB xl;have hofl:=iM xl;obtain ⟨n,hn⟩:∃ n,xl.length=n:=⟨_,rfl⟩;simp only [hn] at q0 hxl hfl;have ao:=yv hnews;have aq:=yv hfl;have ar:=yv hofl;have ac:=yv hn;clear hp hnews hfl hofl hn;go_wp2_with (at_builtin;refine An _ rfl _ _ 23 rfl w.heap.size 54 i0 _ 1 24 underlying23 hi aj ak al rfl li _ _ _ rfl hown ad n xc (nf xl) rfl aq.out ao.out ar.out ln lf hbel.size ?_;intro v1 w1 af ag _);have aa:Below w w w1:=hbel.grown ag hbel.size (aA hown);have ah:w1.ownsRow w 54 1 v1 (qi (ps.take (j+1))).length (nf (qi (ps.take (j+1)))):=by
       rw [H2.out,mD,zz,ac.out];exact af
      have au:=yv ah;have av:=yv aa;clear af ag hown hbel aa ah q0;go_wp2;go_roundw
      case rel=>exact ⟨j+1,lf,by go_num,au.out,av.out⟩
      case measure=>simp [intOf];omega
    ·obtain rfl:j=k:=lf;rw [zy (by rw [HM.out];exact yy _)] at hown;obtain ⟨ad,cp,rfl,hn⟩:=dV hown ((tF HP.out).later hbel);have ac:=yv hn;clear hn hown;go_wp2;go_ret;exact ⟨ad,cp,rfl,ac.out,hbel⟩
set_option maxHeartbeats 1000000 in
theorem xY (ad:zj) (l:List mo) (c:Nat) (w:zf) (hr:vb w (·<w) (some ad) l) (hl:l.length≤1000000) :
 zh prog 115 #[yw (some ad) l.length c] w fun e w'=>∃ v,e=zr v∧w'.ownsRow w 54 1 v l.length (nf l)∧v≠yw none 0 0∧Below w w w':=by
 obtain ⟨i0,hi,ae,af,ag⟩:=zp dI;have q22:∀ (w:zf) (a:Option zj) (n c n' c':Nat),(binOp .eql 23 (yw a n c) (yw none n' c')).run prog w=.ok (Aa a.isNone) w:=fun w a n c n' c'=>Lib.run_eql_slice_nil w _ _ a n c n' c' underlying23;have ab:=yv (jW hr);have aa:=yv (eB l);have ac:=yv (iM l);obtain ⟨n,hn⟩:∃ n,l.length=n:=⟨_,rfl⟩;rw [hn] at hl aa ⊢;obtain ⟨F,hF⟩:∃ F,nf l=F:=⟨_,rfl⟩;rw [hF] at ab aa ac ⊢;clear hr hn hF;go_enter func115,ntmps115;go_wp2_with (at_builtin;refine An _ rfl _ _ 23 rfl w.heap.size 54 i0 _ 1 24 underlying23 hi ae af ag rfl li _ _ _ rfl (zx w #[] 0 (yy _) (zn _) lh) ad n c F rfl aa.out (fun j u hj=>Lib.cell?_alloc_some _ (ab.out j u hj)) ac.out ln lf lh ?_);intro v' w1 hown hgrow hnil;go_wp2;go_ret;refine ⟨v',rfl,by simpa using hown,?_,?_⟩
 ·exact hnil
 ·exact ((Below.refl _ w).alloc (yy _) _).grown hgrow lh (by intro k hk;simp [Ao] at hk;omega)
theorem EJ (w:zf):zh prog 115 #[yw none 0 0] w fun e w'=>e=zr (yw none 0 0)∧w'=w:=by
 have h:=AnyE.slices_Clone_nil Tryz.mkCloneT 0 0 w;change zh prog 115 _ _ _ at h;exact h
set_option maxHeartbeats 800000 in
theorem JH (n:Nat) (hn:n≤1000000) (w:zf):zh prog 216 #[yw none 0 0,ze yz n] w fun e w'=>∃ v,e=zr v∧w'.ownsRow w 54 1 v 0 []∧Below w w w':=by
 obtain ⟨i0,hi,aa,ab,ac⟩:=zp dI;rcases Aw n with rfl|hp
 ·have h:=Ax Tryz.mkGrowS none 0 0 0 w (yy _) lf lf lf;change zh prog 216 _ _ _ at h;refine h.mono ?_;rintro e w' ⟨rfl,rfl⟩;exact ⟨_,rfl,Aj _ _ _ _,Below.refl _ _⟩
 ·have h:=Ay Tryz.mkGrowS i0 _ hi aa (by rw [ab];decide) none 0 0 n [] w (yy _) lf (by rw [ac];omega) lf lh (fun _=>rfl) (fun a e=>by cases e);change zh prog 216 _ _ _ at h;refine h.mono ?_;rintro e w' ⟨rfl,rfl⟩;have hge:=grownCap_ge w (0+n) 0 (Tryz.mkGrowS_ren.t 25);have hle:=Az w (0+n) 0 (Tryz.mkGrowS_ren.t 25) ln;refine ⟨_,rfl,zx w.drew _ _ (yy _) hle ?_,((Below.refl w w).drew).alloc (yy _) _⟩;simp only [A0] at hge ⊢;simp [Builtin.zeroCells,A4];omega
set_option maxHeartbeats 1600000 in
theorem yE (r:Nat) (ps:List pa) (w:zf) (hr:r<w) (hps:∀ k,k<ps.length→w ⟨r,k,none⟩=some (ps[k]!).v) (hp:∀ k,k<ps.length→nx w ps[k]!) (hl:ps.length≤1000) (hs:qc ps≤100000) :
 zh prog 215 #[yw (some ⟨r,0,none⟩) ps.length ps.length] w (py w (qi ps)):=by
 obtain ⟨i0,hi,aj,ak,al⟩:=zp dI;obtain ⟨m,hm⟩:∃ m,ps.length=m:=⟨_,rfl⟩;rw [hm] at hl ⊢;have HM:=yv hm;have ae:=yv hps;have HP:=yv hp;have HS:=yv hs;have HR:=yv hr;clear hm hps hp hs hr;go_enter func215,ntmps215;go_wp2
 go_loop [3,11] (fun z i=>∃ k:Nat,k≤m∧i=ze yz k∧z=ze yz (qc (ps.take k):Nat)) (fun _ i=>m - (intOf i).toNat)
 case atStart=>exact ⟨0,zn _,rfl,rfl⟩
 case round =>
  obtain ⟨k,hk,rfl,rfl⟩:=hrel;have hb:=zk (dD ps k) HS.out;by_cases hlt:k<m
  ·have hkl:k<ps.length:=by rw [HM.out];exact hlt
   have q0:=ae.out k hkl;have h2:=fV ps k hkl;have am:=zk (dD ps (k+1)) HS.out;obtain ⟨x,hx⟩:∃ x,ps[k]! = x:=⟨_,rfl⟩;rw [hx] at q0 h2;obtain ⟨xa,xl,xc⟩:=x;simp only [pa.v] at q0 h2;obtain ⟨n,hn⟩:∃ n,xl.length=n:=⟨_,rfl⟩;rw [hn] at q0 h2;obtain ⟨s,hs⟩:∃ s,qc (ps.take k)=s:=⟨_,rfl⟩;rw [hs] at h2 hb ⊢;have HX:=yv h2;have aw:s+n≤100000:=lf;have b0:(0:Int)≤(k:Int):=lf;have b1:(k:Int)<(m:Int):=lf;have b2:¬ (s:Int)+(n:Int)<0:=lf;clear hx hn hs h2 am;go_wp2
   go_round
   case rel=>exact ⟨k+1,lf,by go_num,by rw [HX.out];go_num⟩
   case measure=>simp [intOf];omega
  ·obtain rfl:k=m:=lf;have hz:qc (ps.take k)=qc ps:=by rw [zy (by rw [HM.out];exact yy _)]
   rw [hz] at hb ⊢;obtain ⟨s,hs⟩:∃ s,qc ps=s:=⟨_,rfl⟩;rw [hs] at hb ⊢;have cg:=JH s lf w;have CG:=yv cg;have ax:=yv hs;clear hz hs cg;go_wp2_with fail;refine CG.out.mono ?_;rintro e w1 ⟨v,rfl,ab,aa⟩;have an:=yv aa;have HO:=yv ab;clear aa ab;go_wp2
   go_loopw [6,27] (fun v i wr=>∃ j:Nat,j≤k∧i=ze yz j∧wr.ownsRow w 54 1 v (qi (ps.take j)).length (nf (qi (ps.take j)))∧Below w w wr) (fun _ i _=>k - (intOf i).toNat)
   case atStart=>exact ⟨0,zn _,rfl,HO.out,an.out⟩
   case round =>
    obtain ⟨j,hj,rfl,hown,hbel⟩:=hrel;have hlen:=qW (ps.take j);have hle:=zk (dD ps j) HS.out;by_cases hlt:j<k
    ·have hjl:j<ps.length:=by rw [HM.out];exact hlt
     have q0:=(hbel.cell (p:=⟨r,j,none⟩) HR.out).trans (ae.out j hjl);have hp:=HP.out j hjl;have h2:=pD ps j hjl;have h3:=fV ps j hjl;have ai:=zk (dD ps (j+1)) HS.out;obtain ⟨x,hx⟩:∃ x,ps[j]! = x:=⟨_,rfl⟩;rw [hx] at q0 hp h2 h3;obtain ⟨o,ho⟩:∃ o,qi (ps.take j)=o:=⟨_,rfl⟩;rw [ho] at hown hlen h2;have hol:o.length≤100000:=lf;have hxl:o.length+x.l.length≤100000:=lf;have H2:=yv h2;have b0:(0:Int)≤(j:Int):=lf;have b1:(j:Int)<(k:Int):=lf;clear hx ho h2 h3 hlen hle ai;obtain ⟨xa,xl,xc⟩:=x;cases xa with
     | none =>
      have e0:xl=[]:=hp.len rfl;have e1:xc=0:=hp.nil rfl;subst e0;subst e1;simp only [pa.v,A5] at q0;clear hp hxl;go_wp2_with (at_builtin;refine A6 rfl _ _ 166 rfl w.heap.size 54 i0 1 underlying166 hi _ _ _ rfl hown rfl ?_);go_roundw
      case rel=>exact ⟨j+1,lf,by go_num,by rw [H2.out,Ae];exact hown,hbel⟩
      case measure=>simp [intOf];omega
     | some ad =>
      have hnews:=jW (hp.row.below (fun _ h=>h) hbel);simp only [pa.v] at q0;have hfl:=eB xl;have hofl:=iM xl;obtain ⟨n,hn⟩:∃ n,xl.length=n:=⟨_,rfl⟩;simp only [hn] at q0 hxl hfl;have ao:=yv hnews;have aq:=yv hfl;have ar:=yv hofl;have ac:=yv hn;clear hp hnews hfl hofl hn;go_wp2_with (at_builtin;refine An _ rfl _ _ 166 rfl w.heap.size 54 i0 _ 1 24 underlying166 hi aj ak al rfl li _ _ _ rfl hown ad n xc (nf xl) rfl aq.out ao.out ar.out ln lf hbel.size ?_;intro v1 w1 af ag _);have aa:Below w w w1:=hbel.grown ag hbel.size (aA hown);have ah:w1.ownsRow w 54 1 v1 (qi (ps.take (j+1))).length (nf (qi (ps.take (j+1)))):=by
       rw [H2.out,mD,zz,ac.out];exact af
      have au:=yv ah;have av:=yv aa;clear af ag hown hbel aa ah q0;go_wp2;go_roundw
      case rel=>exact ⟨j+1,lf,by go_num,au.out,av.out⟩
      case measure=>simp [intOf];omega
    ·obtain rfl:j=k:=lf;rw [zy (by rw [HM.out];exact yy _)] at hown;obtain ⟨ad,cp,rfl,hn⟩:=dV hown ((tF HP.out).later hbel);have ac:=yv hn;clear hn hown;go_wp2;go_ret;exact ⟨ad,cp,rfl,ac.out,hbel⟩
theorem scat2 {W:zf} {p q:pa} (i j:Nat) (hp:nx W p) (hq:nx W q) (hi:p.l.length=i) (hj:q.l.length=j) (hs:i+j≤1000) (t:zo) :
 zh prog 215 #[yw (some ⟨W,0,none⟩) 2 2] (W.alloc (yx #[yw p.a i p.c,yw q.a j q.c] t)) (py (W.alloc (yx #[yw p.a i p.c,yw q.a j q.c] t)) (p.l++q.l)):=by
 have hb:Below W W (W.alloc (yx #[yw p.a i p.c,yw q.a j q.c] t)):=(Below.refl W W).alloc (yy _) _;have h:=yE W [p,q] (W.alloc (yx #[yw p.a i p.c,yw q.a j q.c] t)) lh (fun k hk=>by
  match k,hk with
  | 0,_=>simp [A7,pa.v,hi]
  | 1,_=>simp [A7,pa.v,hj]) (fun k hk=>by
  match k,hk with
  | 0,_=>exact hp.later hb
  | 1,_=>exact hq.later hb) lh (by simp [qc];omega)
 have e:qi [p,q]=p.l++q.l:=by simp [qi]
 rw [e] at h;exact h
end Go.Proofs.YtbagenpobcgjnaaGreat
namespace Go.Proofs.YtbagenpobcgjnaaGreat
open Go.Proofs.Tryz
set_option maxRecDepth 100000
open Lib (hid)
open Go.RowKit
set_option linter.unusedVariables false
set_option linter.unusedSimpArgs false
set_option maxHeartbeats 800000 in
theorem uK (a:Option zj) (c:Nat) (w:zf) :
 zh prog 131 #[yw a 0 c] w fun e w'=>e=zr (Af #[yw none 0 0,oz none 0 0,Aa false])∧Below w w w':=by
 have aa:Below w w ((w.alloc (yx #[yw none 0 0] 54)).alloc (yx #[yw none 0 0] 54)).drew:=(((Below.refl w w).alloc (yy _) _).alloc lh _).drew;have HB:=yv aa;clear aa;go_enter func131,ntmps131;go_wp2;go_region
 all_goals go_wp2
 all_goals
  refine zu (v:=Af #[yw none 0 0,oz none 0 0,Aa false]) (by simp [zv,results131,go_sem]) rfl ?_;exact ⟨rfl,HB.out⟩
set_option maxHeartbeats 800000 in
theorem vP (ad:zj) (c k:Nat) (y:mo) (w:zf) (hc:w (ad.add k)=some y.v) (hkc:k+1≤c) (hcm:c≤zm) :
 zh prog 131 #[yw (some ad) (k+1:Nat) c] w fun e w'=>e=zr (Af #[yw (some ad) k c,oz y.a y.l.length y.c,Aa true])∧Below w w w':=by
 obtain ⟨ya,yl,yc⟩:=y;simp only [mo.v] at hc ⊢;unfold zm at hcm;obtain ⟨n,hn⟩:∃ n,yl.length=n:=⟨_,rfl⟩;rw [hn] at hc ⊢;have hlt:=World.block_lt_of_cell? w _ hc;rw [aI] at hlt;obtain ⟨W,hW⟩:∃ W,w.alloc (yx #[yw none 0 0] 54)=W:=⟨_,rfl⟩;have aa:Below w w W:=by rw [← hW];exact (Below.refl w w).alloc (yy _) _
 have B:=l6.new w #[yw none 0 0] 54;rw [hW] at B;have q1:W.drew (ad.add k)=some (yw ya n yc):=(aa.cell (p:=ad.add k) (by rw [aI];exact hlt)).trans hc;have q2:W.drew ⟨w,0,none⟩=some (yw none 0 0):=B.cell 0 _ rfl;have q3:W.drew.frozen? ⟨w,0,none⟩=false:=B.free 0;have ab:k≤c:=lf;have HB:=yv (aa.drew.setCell (p:=⟨w,0,none⟩) (yy _) (yw ya n yc));have q4:(W.setCell ⟨w,0,none⟩ (yw ya n yc)) ⟨w,0,none⟩=some (yw ya n yc):=Ag _ _ _ (by rw [show W ⟨w,0,none⟩=_ from q2];rfl);clear hn hlt aa B hc;go_enter func131,ntmps131;go_wp2;go_region
 all_goals go_wp2
 all_goals
  refine zu (v:=Af #[yw (some ad) k c,oz ya n yc,Aa true]) (by simp [zv,results131,go_sem,q4]) rfl ?_;exact ⟨rfl,HB.out⟩
set_option maxHeartbeats 800000 in
theorem zO (a:Option zj) (l:List l7) (c:Nat) (w:zf) (hp:o4 w ⟨a,l,c⟩) (hl:l.length≤1000000) :
 zh prog 205 #[oz a l.length c] w (xz w l):=by
 obtain ⟨W1,aa⟩:∃ W1,w.alloc (yx #[yw a l.length c] 54)=W1:=⟨_,rfl⟩;obtain ⟨wX,hwX⟩:∃ wX,W1.alloc (yx #[yw none 0 0] 54)=wX:=⟨_,rfl⟩;have b1:Below w w W1:=by rw [← aa];exact (Below.refl _ _).alloc (yy _) _
 have z1:W1.heap.size=w+1:=by rw [← aa];simp
 have z3:wX.heap.size=w+2:=by rw [← hwX];simp [z1]
 have c3:Below W1.heap.size W1 wX:=by rw [← hwX];exact (Below.refl _ _).alloc (yy _) _
 have B1:l6 W1 w #[yw a l.length c] 54:=by rw [← aa];exact l6.new _ _ _
 have B3:l6 wX W1 #[yw none 0 0] 54:=by rw [← hwX];exact l6.new _ _ _
 have B1:l6 wX w #[yw a l.length c] 54:=B1.onto c3;have ab:Below w w wX:=b1.trans (c3.mono lf);have x0:=B1.cell 0 _ rfl;have x4:=B3.cell 0 _ rfl;have x5:=B3.free 0;have hpX:o4 wX ⟨a,l,c⟩:=hp.later ab;cases a with
 | none =>
  have e0:l=[]:=hp.len rfl;have e1:c=0:=hp.nil rfl;subst e0;subst e1;have HB:=yv (ab.setCell (p:=⟨W1,0,none⟩) (by show w.heap.size≤W1;omega) (yw none 0 0));have aa:w.alloc (yx #[yw none 0 0] 54)=W1:=aa;have x0:wX ⟨w,0,none⟩=some (yw none 0 0):=x0;have q4:(wX.setCell ⟨W1,0,none⟩ (yw none 0 0)) ⟨W1,0,none⟩=some (yw none 0 0):=Ag _ _ _ (by rw [x4];rfl);clear hp hpX ab B1 B3 c3 b1 hl z1 z3;show zh prog 205 #[.agg #[yw none 0 0]] w _;go_enter func205,ntmps205;go_wp2_with fail;refine (pJ _).mono ?_;rintro e w2 ⟨rfl,rfl⟩;go_wp2;refine zu (v:=oz none 0 0) (by simp [zv,results205,go_sem,q4]) rfl ?_;exact ⟨none,0,rfl,rm.empty _ _,HB.out⟩
 | some ad =>
  have cc:=nN ad l c wX hpX.row hl;obtain ⟨n,hn⟩:∃ n,l.length=n:=⟨_,rfl⟩;have CC:=yv cc;have HN:=yv hn;have ac:=yv ab;have ae:=yv (show W1.heap.size<wX by omega);have af:=yv (show w.heap.size≤W1 by omega);rw [hn] at aa x0 CC ⊢;clear hp hpX ab B1 B3 c3 b1 hl z1 z3 cc hn;show zh prog 205 #[.agg #[yw (some ad) n c]] w _;go_enter func205,ntmps205;go_wp2_with fail;refine CC.out.mono ?_;rintro e w2 ⟨v,rfl,hown,-,hb⟩;have hown:w2.ownsRow wX 92 3 v l.length (l7.flat l):=by rw [HN.out];exact hown
  obtain ⟨a2,c2,ev,hrow⟩:=dH hown;rw [HN.out] at ev;subst ev;have y4:=(hb.cell (p:=⟨W1,0,none⟩) ae.out).trans x4;have y5:=(hb.frozen (p:=⟨W1,0,none⟩) ae.out).trans x5;have HB:=yv ((ac.out.trans (hb.mono ac.out.size)).setCell (p:=⟨W1,0,none⟩) af.out (yw a2 n c2));have HR:=yv ((hrow.set (p:=⟨W1,0,none⟩) ae.out (yw a2 n c2)).mono ac.out.size);have q4:(w2.setCell ⟨W1,0,none⟩ (yw a2 n c2)) ⟨W1,0,none⟩=some (yw a2 n c2):=Ag _ _ _ (by rw [y4];rfl);clear hown hrow hb;go_wp2;refine zu (v:=oz a2 n c2) (by simp [zv,results205,go_sem,q4]) rfl ?_;exact ⟨a2,c2,by rw [HN.out],HR.out,HB.out⟩
theorem JC (a:Option zj) (n c:Nat) (w:zf) :
 zh prog 108 #[oz a n c] w fun e w'=>e=zr (oz a n c)∧Below w w w':=by
 obtain ⟨W1,aa⟩:∃ W1,w.alloc (yx #[yw a n c] 54)=W1:=⟨_,rfl⟩;obtain ⟨wX,hwX⟩:∃ wX,W1.alloc (yx #[yw none 0 0] 54)=wX:=⟨_,rfl⟩;have b1:Below w w W1:=by rw [← aa];exact (Below.refl _ _).alloc (yy _) _
 have z1:W1.heap.size=w+1:=by rw [← aa];simp
 have c3:Below W1.heap.size W1 wX:=by rw [← hwX];exact (Below.refl _ _).alloc (yy _) _
 have B1:l6 W1 w #[yw a n c] 54:=by rw [← aa];exact l6.new _ _ _
 have B3:l6 wX W1 #[yw none 0 0] 54:=by rw [← hwX];exact l6.new _ _ _
 have B1:l6 wX w #[yw a n c] 54:=B1.onto c3;have HB:=yv ((b1.trans (c3.mono lf)).setCell (p:=⟨W1,0,none⟩) (by show w.heap.size≤W1;omega) (yw a n c));have x0:=B1.cell 0 _ rfl;have x4:=B3.cell 0 _ rfl;have x5:=B3.free 0;have q4:(wX.setCell ⟨W1,0,none⟩ (yw a n c)) ⟨W1,0,none⟩=some (yw a n c):=Ag _ _ _ (by rw [x4];rfl);clear b1 c3 B1 B3 z1;show zh prog 108 #[.agg #[yw a n c]] w _;go_enter func108,ntmps108;go_wp2;refine zu (v:=oz a n c) (by simp [zv,results108,go_sem,q4]) rfl ?_;exact ⟨rfl,HB.out⟩
def ww:mo:=⟨none,[],0⟩
theorem smade (n:Nat):(Ap #[yw none 0 0] (n * 1)).toList=nf (zs n ww):=by
 refine List.ext_getElem? fun j=>?_;rcases Nat.lt_or_ge j n with g|g
 ·rw [fP _ _ (by rw [Ah];exact g),og (by rw [Ah];exact g),A8];unfold Ap;simp [g,Nat.mod_one];rfl
 ·rw [A9 (by simp [Ap];exact g),A9 (by rw [eB,Ah];omega)]
theorem rY (l:List mo) (k:Nat) (x:mo):(nf l).set k x.v=nf (l.set k x):=by
 unfold nf;rw [List.map_set]
def xv (w:zf) (L:List (List l7)) (e:Ending) (w':zf):Prop:=∃ a c l,e=zr (yw a l.length c)∧mf l=L∧sf w' w ⟨a,l,c⟩∧(∃ g,a=some ⟨g,0,none⟩∧w.heap.size≤g∧∀ x∈l,rm w' (g+1) x)∧w'.ownsRow w 54 1 (yw a l.length c) l.length (nf l)∧Below w w w'
theorem oD {base b2 size:Nat} {e:zo} {v:zi} {xs:List zi} (h:w.ownsRow base e size v n xs) (hb:b2≤base):w.ownsRow b2 e size v n xs:=by
 refine ⟨h.1,?_⟩;rcases h.2 with h2|⟨g,cap,cur,hv,aa,hr⟩
 ·exact .inl h2
 ·exact .inr ⟨g,cap,cur,hv,zk hb aa,hr⟩
set_option maxHeartbeats 1600000 in
theorem xJ (a:Option zj) (l:List mo) (c:Nat) (w:zf) (hp:nx w ⟨a,l,c⟩) (hl:l.length≤1000) (hb:∀ x∈l,x.l.length≤1000000) :
 zh prog 204 #[yw a l.length c,.func (.func 205) #[] #[]] w (xv w (mf l)):=by
 obtain ⟨i0,hi,ai,aj,ak⟩:=zp dI;obtain ⟨n,hn⟩:∃ n,l.length=n:=⟨_,rfl⟩;obtain ⟨wM,hrun,hown,hgrow⟩:=run_make_full (P:=prog) w w 166 54 i0 _ 1 underlying166 hi ai aj yz yz n (by rw [ak];omega) ln (yy _);have hbM:Below w w wM:=(Below.refl _ _).grown hgrow (yy _) (fun k hk=>by cases hk);have hown:wM.ownsRow w 54 1 (yw (some ⟨w,0,none⟩) n n) n (nf ([]++zs (n - 0) ww)):=by
  rw [List.nil_append,Nat.sub_zero,← smade];exact hown
 obtain ⟨g,hg⟩:∃ g,w.heap.size=g:=⟨_,rfl⟩;rw [hn] at hl ⊢;have HG:=yv hg;have HP:=yv hp;have HN:=yv hn;have ao:=yv hown;have ar:=yv hbM;have au:=yv hb;rw [hg] at hrun;clear hn hown hgrow hbM hg hi ai aj ak hp hb;go_enter func204,ntmps204;go_wp2;clear hrun
 go_loopw [13] (fun i wr=>∃ (k:Nat) (qs:List mo),k≤n∧i=ze yz k∧qs.length=k∧wr.ownsRow w 54 1 (yw (some ⟨g,0,none⟩) n n) n (nf (qs++zs (n - k) ww))∧mf qs=(mf l).take k∧(∀ x∈qs,rm wr (g+1) x)∧Below w w wr) (fun i _=>n - (intOf i).toNat)
 case atStart=>exact ⟨0,[],zn _,rfl,rfl,by rw [← HG.out];exact ao.out,rfl,fun x hx=>absurd hx lh,ar.out⟩
 case round =>
  obtain ⟨k,qs,hk,rfl,hqk,hown,hqs,hall,hbel⟩:=hrel;by_cases hlt:k<n
  ·have hkl:k<l.length:=by rw [HN.out];exact hlt
   have hpr:=HP.out.later hbel;obtain ⟨ad,rfl,hab,q0⟩:=hpr.row k hkl;have af:=hpr.all.at k hkl;have ab:=au.out (l[k]!) (by rw [og hkl];exact List.getElem_mem hkl);have ac:mf qs++[(l[k]!).l]=(mf l).take (k+1):=by rw [ltake (by rw [aC];exact hkl),hqs,cJ l k hkl]
   obtain ⟨x,hx⟩:∃ x,l[k]! = x:=⟨_,rfl⟩;rw [hx] at q0 af ab ac;obtain ⟨xa,xl,xc⟩:=x;simp only [mo.v] at q0 ab ac;have hgl:g<wr:=(hown.lt _ rfl).2;have hbx:Below wr wr (wr.alloc (yx #[yw xa xl.length xc] 54)):=(Below.refl _ _).alloc (yy _) _;have co:=zO xa xl xc _ (af.later hbx) ab;obtain ⟨m,hm⟩:∃ m,xl.length=m:=⟨_,rfl⟩;have CO:=yv co;have HO:=yv hown;have HM:=yv hm;have av:=yv ac;have aa:=yv hall;have ag:=yv hbx;have aw:=yv hgl;have HQ:=yv hqk;rw [hm] at q0 CO ag;have b0:(0:Int)≤(k:Int):=lf;have b1:(k:Int)<(n:Int):=lf;clear co hown hm hx af ab ac hall hbx hgl hab hpr hqs hqk;go_wp2_with fail;refine CO.out.mono ?_;rintro e w3 ⟨a3,c3,rfl,al,am⟩;rw [HM.out];have ae:Below wr wr w3:=ag.out.trans (am.mono ag.out.size);have ah:=yv (bK HO.out ae);have ax:=yv (hbel.trans (ae.mono hbel.size));have f0:=ah.out.frozenAt k;have hkq:k<(qs++zs (n - k) ww).length:=by rw [zz,Ah,HQ.out];omega
   have q3:=(ah.out.cellAt k lf).trans (fP _ k hkq);rw [show (qs++zs (n - k) ww)[k]! = ww by rw [og hkq,List.getElem_append_right (by rw [HQ.out];exact yy _),A8]] at q3;have q3:w3 ⟨g,k,none⟩=some (yw none 0 0):=q3;have ay:=yv (ah.out.stored k (yw a3 xl.length c3)).1;have HE:nf ((qs++zs (n - k) ww).set k ⟨a3,xl,c3⟩)=nf ((qs++[⟨a3,xl,c3⟩])++zs (n - (k+1)) ww):=by
    rw [List.set_append_right _ _ (by rw [HQ.out];exact yy _),HQ.out,Bc,show n - k=(n - (k+1))+1 by omega,List.replicate_succ,List.set_cons_zero,List.append_assoc];rfl
   have HS:=yv ((rY (qs++zs (n - k) ww) k ⟨a3,xl,c3⟩).trans HE);have az:=yv (ax.out.setCell (p:=⟨g,k,none⟩) (Bd HG.out) (yw a3 m c3));have a0:=yv ((al.mono (b2:=g+1) (by have:=aw.out;simp;omega)).set (p:=⟨g,k,none⟩) (zw g) (yw a3 m c3));have a1:=yv (fun x hx=>((aa.out x hx).below ae).set (p:=⟨g,k,none⟩) (zw g) (yw a3 m c3));clear al am ae hbel q0 HE hkq;go_wp2;go_roundw
   case rel =>
    refine ⟨k+1,qs++[⟨a3,xl,c3⟩],lf,by go_num,by rw [zz,HQ.out];rfl,?_,by rw [eX];exact av.out,?_,az.out⟩
    ·have h:=ay.out;have hS:=HS.out;simp only [mo.v] at hS;rw [hS,HM.out] at h;exact h
    ·intro x hx;rcases Be.1 hx with hx|hx
     ·exact a1.out x hx
     ·obtain rfl:=Aq.1 hx;exact a0.out
   case measure=>simp [intOf];omega
  ·obtain rfl:k=n:=lf;rw [Bc,List.replicate_zero,Ae] at hown;have hown:wr.ownsRow w 54 1 (yw (some ⟨g,0,none⟩) k k) qs.length (nf qs):=by rw [hqk];exact hown
   obtain ⟨a4,c4,ev,hrow⟩:=dV hown (fun x hx=>(hall x hx).in);rw [hqk] at ev;injection ev with e1 e2 e3;subst e1;subst e3;have an:mf qs=mf l:=by rw [hqs,zy (by rw [aC,HN.out];exact yy _)]
   have aq:=yv hrow;have HQ:=yv hqk;have a2:=yv (show wr.ownsRow w.heap.size 54 1 (yw (some ⟨g,0,none⟩) qs.length k) qs.length (nf qs) by have h:=hown;rw [hqk] at h ⊢;exact h);have a5:=yv an;have aa:=yv hall;clear hrow hown hqk hqs hall an;go_wp2;go_ret;exact ⟨_,k,qs,by rw [HQ.out];rfl,a5.out,aq.out,⟨g,rfl,Bd HG.out,aa.out⟩,a2.out,hbel⟩
def xw (w:zf) (size:Nat) (y:zi) (m:Nat) (news:List zi):Prop:=
 (y=yw none 0 0∧m=0∧news=[])∨∃ ad c,y=yw (some ad) m c∧news.length=m * size∧(∀ j u,news[j]? = some u→w (ad.add j)=some u)∧∀ u∈news,u.oneCell'=true
theorem QY {a:Option zj} {l:List mo} {c:Nat} (h:nx w ⟨a,l,c⟩):xw w 1 (yw a l.length c) l.length (nf l):=by
 cases a with
 | none =>
  have e0:l=[]:=h.len rfl;have e1:c=0:=h.nil rfl;subst e0;subst e1;exact .inl ⟨rfl,rfl,rfl⟩
 | some ad=>exact .inr ⟨ad,c,rfl,eB l,jW h.row,iM l⟩
theorem qI {b:Nat} {a:Option zj} {c:Nat} {t:zo} (h:l6 w b #[yw a n c] t):xw w 1 (yw (some ⟨b,0,none⟩) 1 1) 1 [yw a n c]:=
 .inr ⟨⟨b,0,none⟩,1,rfl,rfl,fun j u hj=>by
  match j,hj with
  | 0,hj=>simp at hj;subst hj;exact h.cell 0 _ rfl,fun u hu=>by
  obtain rfl:=Aq.1 hu;rfl⟩
theorem aJ {P:Program} (w:zf) {ops:Array Oper} {o:Oper} {a:Act} {K:Act→zf→Prop} {Q:Exit→Act→zf→Prop} {E:Prop} (hw:Region.wanted o (yielded ops a.tmps)=true) (s x:Operand) (t:zo)
 (ho:o.op=.call { callee:=.builtin .append,args:=#[s,x],argTypes:=#[t,t] })
 (base:Nat) (e:zo) (i:TypeInfo) (z:zi) (size bytes:Nat) (ht:P.underlying t=some (.slice e)) (hi:P.info? e=some i) (hz:i.zero=some z)
 (hsize:i.size=size) (hby:i.bytes=bytes) (hzs:z.cells.size=size) (hsz:0<size)
 (v:zi) (n:Nat) (xs:List zi) (hs:a.eval s=v) (hown:w.ownsRow base e size v n xs)
 (y:zi) (m:Nat) (news:List zi) (hx:a.eval x=y) (hsrc:xw w size y m news)
 (h63:n+m≤zm) (hbytes:(n+m) * bytes≤140737488355328) (hbase:base≤w)
 (h:∀ v' w',w'.ownsRow base e size v' (n+m) (xs++news)→w.grownBy w' v.ownBlock→K (a.put o.dst v') w') :
 if Region.wanted o (yielded ops a.tmps)=true then Oper.wp P o a w K Q else E:=by
 rw [if_pos hw];rcases hsrc with ⟨rfl,rfl,rfl⟩|⟨ad,c,rfl,hl,hnews,h1⟩
 ·have hrun:=run_append_owned_none (P:=P) (w:=w) base t o.type e i size ht hi v n xs hown;unfold Oper.wp;simp [execOp,ho,resolve,invoke,builtin,hs,hx,hrun,Result.andThen];exact h v w (by rw [Ae];exact hown) (World.grownBy.refl _ _)
 ·exact wp_append_own w s x t ho base e i z size bytes ht hi hz hsize hby hzs hsz v n xs hs hown ad m c news hx hl hnews h1 h63 hbytes hbase fun v' w' h2 h3 _=>h v' w' h2 h3
theorem sf.drop {base:Nat} {ad:zj} {l:List mo} {c:Nat} (h:sf w base ⟨some ad,l,c⟩) (n:Nat):sf w base ⟨some (ad.add n),l.drop n,c - n⟩:=
 ⟨vb.drop h.row n,fun x hx=>h.all x (List.mem_of_mem_drop hx),fun e=>(by cases e),by have h2:l.length≤c:=h.le;show (l.drop n).length≤c - n;rw [Ai];omega,by have h2:c≤zm:=h.cap;show c - n≤zm;omega⟩
set_option maxHeartbeats 3200000 in
theorem eY (a:Option zj) (l:List mo) (c:Nat) (y:mo) (w:zf) (hp:nx w ⟨a,l,c⟩) (hy:o4 w y) (hl:l.length≤900) :
 zh prog 76 #[yw a l.length c,oz y.a y.l.length y.c] w (py w ((l++[y]).drop (l.length+1 - 16))):=by
 obtain ⟨i0,hi,ar,au,av⟩:=zp dI;obtain ⟨ya,yl,yc⟩:=y;obtain ⟨n,hn⟩:∃ n,l.length=n:=⟨_,rfl⟩;obtain ⟨m,hm⟩:∃ n,yl.length=n:=⟨_,rfl⟩;simp only [hm];obtain ⟨W1,a2⟩:∃ W1,w.alloc (yx #[yw ya m yc] 54)=W1:=⟨_,rfl⟩;have b1:Below w w W1:=by rw [← a2];exact (Below.refl _ _).alloc (yy _) _
 have B1:=l6.new w #[yw ya m yc] 54;rw [a2] at B1;obtain ⟨L,hL⟩:∃ L,l++[(⟨ya,yl,yc⟩:mo)]=L:=⟨_,rfl⟩;have hLL:L.length=n+1:=by rw [← hL,zz,hn];rfl
 have hFL:nf L=nf l++[yw ya m yc]:=by rw [← hL,mD,← hm];rfl
 have hAL:∀ w',Below W1 W1 w'→we w' L:=fun w' hb x hx=>by
  rw [← hL] at hx;have a4:Below w w w':=b1.trans (hb.mono b1.size);rcases Be.1 hx with h|h
  ·exact (hp.later a4).all x h
  ·obtain rfl:=Aq.1 h;exact hy.later a4
 have hsr:∀ w',Below W1 W1 w'→xw w' 1 (yw a n c) n (nf l):=fun w' hb=>by
  have h:=QY (hp.later (b1.trans (hb.mono b1.size)));rw [hn] at h;exact h
 have fs:∀ w',Below W1 W1 w'→Below W1 W1 w'∧w' ⟨w,0,none⟩=some (yw ya m yc):=fun w' h=>⟨h,(B1.onto h).cell 0 _ rfl⟩;rw [hL,hn];rw [hn] at hl;have ab:=yv hLL;have aw:=yv hFL;have ax:=yv hAL;have ay:=yv hsr;have FS:=yv fs;have ae:=yv b1;obtain ⟨Q,hQ⟩:∃ Q,L.drop (n+1 - 16)=Q:=⟨_,rfl⟩;rw [hQ];have K1:=yv hQ;clear hLL hFL hAL hsr fs b1 B1 hL hp hy hm hQ hn;go_enter func76,ntmps76;go_wp2_with fail;clear a2;refine Au (S:=(fun w':zf=>Below W1 W1 w'∧w' ⟨w,0,none⟩=some (yw ya m yc))) lg (FS.out _ (Below.refl W1 W1).drew) (fun hHeld=>?_);refine ly 1 ?_;refine ly 3 ?_;refine Ab (rs:=[0,4]) lg lh ?_;refine zq (by simp only [qz];rfl) (fun K hK=>?_) (zq (by simp only [qz];rfl) (fun K hK=>?_) Ad)
 ·go_simp;have aa:=yv ((Below.refl W1 W1).drew.alloc (Below.refl W1 W1).drew.size (yx #[] 54));have af:=yv (show (W1.drew.alloc (yx #[] 54)).ownsRow W1.heap.size 54 1 (yw (some ⟨W1.drew,0,none⟩) 0 0) 0 [] from zx W1.drew #[] 0 (Below.refl W1 W1).drew.size (zn _) lh)
  try go_wp2_with fail
  refine hK.out _ _ ?_ (fun hHeld=>?_)
  ·exact FS.out _ aa.out
  clear hK K
  try simp only [zd,mj]
  refine Ab (rs:=[2,4]) lg lh ?_;refine zq (by simp only [qz];rfl) (fun K hK=>?_) (zq (by simp only [qz];rfl) (fun K hK=>?_) Ad)
  ·refine aJ _ lj (.tmp 6) (.tmp 7) 23 rfl W1.heap.size 54 i0 _ 1 24 underlying23 hi ar au av rfl li (yw (some ⟨W1,0,none⟩) 0 0) 0 ([]) rfl af.out (yw a n c) n (nf l) rfl (ay.out _ aa.out) ln lf aa.out.size ?_;intro v8 w6 az ao;have ad:=yv (aa.out.grown ao aa.out.size (aA af.out));have ai:=yv (show w6.ownsRow W1.heap.size 54 1 v8 n (nf l) by simpa using az);skip;refine hK.out _ _ ?_ (fun hHeld=>?_)
   ·exact FS.out _ ad.out
   clear hK K
   try simp only [zd,mj]
   refine m8 4 fun K hK=>?_;go_simp;have a6:=yv (l6.new w6 #[yw ya m yc] 54);have a0:=yv (ad.out.alloc ad.out.size (yx #[yw ya m yc] 54));have a5:=yv (ai.out.alloc (yx #[yw ya m yc] 54))
   try go_wp2_with fail
   refine hK.out _ _ ?_ (fun hHeld=>?_)
   ·exact FS.out _ a0.out
   clear hK K
   try simp only [zd,mj]
   refine m8 5 fun K hK=>?_;refine aJ _ lj (.tmp 8) (.tmp 10) 23 rfl W1.heap.size 54 i0 _ 1 24 underlying23 hi ar au av rfl li v8 n (nf l) rfl a5.out (yw (some ⟨w6,0,none⟩) 1 1) 1 [yw ya m yc] rfl (qI a6.out) ln lf (a0.out).size ?_;intro v9 w8 aj ak;have ag:=yv ((a0.out).grown ak (a0.out).size (aA (a5.out)));have al:w8.ownsRow W1 54 1 v9 L.length (nf L):=by rw [ab.out,aw.out];exact aj
   obtain ⟨a8,c8,ev,am⟩:=dV al (ax.out _ ag.out);rw [ab.out] at ev;subst ev;have ac:=yv am;clear am aj al ak;refine hK.out _ _ ?_ (fun hHeld=>?_)
   ·exact FS.out _ ag.out
   clear hK K
   try simp only [zd,mj]
   refine ly 6 ?_;refine zt lg ?_ _;clear ax aw ay ai FS;obtain ⟨ad8,e8,-⟩:=ac.out.row 0 (by show 0<L.length;rw [ab.out];omega);have e8:a8=some ad8:=e8;subst e8;have hle:n+1≤c8:=by have h:L.length≤c8:=ac.out.le;rw [ab.out] at h;exact h
   have hcm:c8≤9223372036854775807:=by have h:c8≤zm:=ac.out.cap;unfold zm at h;omega
   have ah:=yv (ae.out.trans (ag.out.mono ae.out.size));by_cases g:n+1≤16
   ·have g2:(n:Int)+1≤16:=lf;have e0:L=Q:=by rw [← K1.out,show n+1 - 16=0 by omega,Ar]
    subst e0;go_wp2;go_ret;exact ⟨some ad8,c8,by rw [ab.out];rfl,ac.out.mono ae.out.size,ah.out⟩
   ·obtain ⟨j,hj⟩:∃ j,n+1 - 16=j:=⟨_,rfl⟩;have g2:(16:Int)<(n:Int)+1:=lf;have g3:(n:Int)+1 - 16=(j:Int):=lf;have g4:(0:Int)≤(j:Int):=lf;have g5:(j:Int)≤(n:Int)+1:=lf;have g6:¬ c8=j:=lf;have hq:Q.length=n+1 - j:=by rw [← K1.out,Ai,ab.out,hj]
    have an:=yv ((ac.out.drop j).mono ae.out.size);rw [show L.drop j=Q by rw [← K1.out,hj]] at an;have HQ:=yv hq;clear hj hq;go_wp2;go_ret;exact ⟨some (ad8.add j),c8 - j,by rw [HQ.out];rfl,an.out,ah.out⟩
  ·go_simp;have aq:=yv (l6.new (W1.drew.alloc (yx #[] 54)) #[yw ya m yc] 54);replace aq:=yv (show l6 _ (W1+1) _ _ by have h:=aq.out;simpa using h);replace aa:=yv (aa.out.alloc aa.out.size (yx #[yw ya m yc] 54));replace af:=yv (af.out.alloc (yx #[yw ya m yc] 54))
   try go_wp2_with fail
   refine hK.out _ _ ?_ (fun hHeld=>?_)
   ·exact FS.out _ aa.out
   clear hK K
   try simp only [zd,mj]
   refine m8 2 fun K hK=>?_;refine aJ _ lj (.tmp 6) (.tmp 7) 23 rfl W1.heap.size 54 i0 _ 1 24 underlying23 hi ar au av rfl li (yw (some ⟨W1,0,none⟩) 0 0) 0 ([]) rfl af.out (yw a n c) n (nf l) rfl (ay.out _ aa.out) ln lf aa.out.size ?_;intro v8 w6 az ao;have ad:=yv (aa.out.grown ao aa.out.size (aA af.out));have ai:=yv (show w6.ownsRow W1.heap.size 54 1 v8 n (nf l) by simpa using az);have a3:=yv (dB aq.out ao (by simp [Ao]));refine hK.out _ _ ?_ (fun hHeld=>?_)
   ·exact FS.out _ ad.out
   clear hK K
   try simp only [zd,mj]
   refine m8 5 fun K hK=>?_;refine aJ _ lj (.tmp 8) (.tmp 10) 23 rfl W1.heap.size 54 i0 _ 1 24 underlying23 hi ar au av rfl li v8 n (nf l) rfl ai.out (yw (some ⟨(W1.heap.size+1),0,none⟩) 1 1) 1 [yw ya m yc] rfl (qI a3.out) ln lf (ad.out).size ?_;intro v9 w8 aj ak;have ag:=yv ((ad.out).grown ak (ad.out).size (aA (ai.out)));have al:w8.ownsRow W1 54 1 v9 L.length (nf L):=by rw [ab.out,aw.out];exact aj
   obtain ⟨a8,c8,ev,am⟩:=dV al (ax.out _ ag.out);rw [ab.out] at ev;subst ev;have ac:=yv am;clear am aj al ak;refine hK.out _ _ ?_ (fun hHeld=>?_)
   ·exact FS.out _ ag.out
   clear hK K
   try simp only [zd,mj]
   refine ly 6 ?_;refine zt lg ?_ _;clear ax aw ay ai FS;obtain ⟨ad8,e8,-⟩:=ac.out.row 0 (by show 0<L.length;rw [ab.out];omega);have e8:a8=some ad8:=e8;subst e8;have hle:n+1≤c8:=by have h:L.length≤c8:=ac.out.le;rw [ab.out] at h;exact h
   have hcm:c8≤9223372036854775807:=by have h:c8≤zm:=ac.out.cap;unfold zm at h;omega
   have ah:=yv (ae.out.trans (ag.out.mono ae.out.size));by_cases g:n+1≤16
   ·have g2:(n:Int)+1≤16:=lf;have e0:L=Q:=by rw [← K1.out,show n+1 - 16=0 by omega,Ar]
    subst e0;go_wp2;go_ret;exact ⟨some ad8,c8,by rw [ab.out];rfl,ac.out.mono ae.out.size,ah.out⟩
   ·obtain ⟨j,hj⟩:∃ j,n+1 - 16=j:=⟨_,rfl⟩;have g2:(16:Int)<(n:Int)+1:=lf;have g3:(n:Int)+1 - 16=(j:Int):=lf;have g4:(0:Int)≤(j:Int):=lf;have g5:(j:Int)≤(n:Int)+1:=lf;have g6:¬ c8=j:=lf;have hq:Q.length=n+1 - j:=by rw [← K1.out,Ai,ab.out,hj]
    have an:=yv ((ac.out.drop j).mono ae.out.size);rw [show L.drop j=Q by rw [← K1.out,hj]] at an;have HQ:=yv hq;clear hj hq;go_wp2;go_ret;exact ⟨some (ad8.add j),c8 - j,by rw [HQ.out];rfl,an.out,ah.out⟩
 ·go_simp;have aq:=yv (l6.new W1.drew #[yw ya m yc] 54);have a1:=yv ((Below.refl W1 W1).drew.alloc (yy _) (yx #[yw ya m yc] 54))
  try go_wp2_with fail
  refine hK.out _ _ ?_ (fun hHeld=>?_)
  ·exact FS.out _ a1.out
  clear hK K
  try simp only [zd,mj]
  refine m8 0 fun K hK=>?_;go_simp;have aa:=yv (a1.out.alloc a1.out.size (yx #[] 54));have af:=yv (show ((W1.drew.alloc (yx #[yw ya m yc] 54)).alloc (yx #[] 54)).ownsRow W1.heap.size 54 1 (yw (some ⟨(W1.drew.alloc (yx #[yw ya m yc] 54)),0,none⟩) 0 0) 0 [] from zx (W1.drew.alloc (yx #[yw ya m yc] 54)) #[] 0 a1.out.size (zn _) lh);replace af:=yv (show World.ownsRow _ _ _ _ (yw (some ⟨W1+1,0,none⟩) 0 0) _ _ by have h:=af.out;simpa using h);replace aq:=yv (aq.out.alloc (yx #[] 54))
  try go_wp2_with fail
  refine hK.out _ _ ?_ (fun hHeld=>?_)
  ·exact FS.out _ aa.out
  clear hK K
  try simp only [zd,mj]
  refine m8 2 fun K hK=>?_;refine aJ _ lj (.tmp 6) (.tmp 7) 23 rfl W1.heap.size 54 i0 _ 1 24 underlying23 hi ar au av rfl li (yw (some ⟨W1+1,0,none⟩) 0 0) 0 ([]) rfl af.out (yw a n c) n (nf l) rfl (ay.out _ aa.out) ln lf aa.out.size ?_;intro v8 w6 az ao;have ad:=yv (aa.out.grown ao aa.out.size (aA af.out));have ai:=yv (show w6.ownsRow W1.heap.size 54 1 v8 n (nf l) by simpa using az);have a3:=yv (dB aq.out ao (by simp [Ao]));refine hK.out _ _ ?_ (fun hHeld=>?_)
  ·exact FS.out _ ad.out
  clear hK K
  try simp only [zd,mj]
  refine m8 5 fun K hK=>?_;refine aJ _ lj (.tmp 8) (.tmp 10) 23 rfl W1.heap.size 54 i0 _ 1 24 underlying23 hi ar au av rfl li v8 n (nf l) rfl ai.out (yw (some ⟨W1.drew,0,none⟩) 1 1) 1 [yw ya m yc] rfl (qI a3.out) ln lf (ad.out).size ?_;intro v9 w8 aj ak;have ag:=yv ((ad.out).grown ak (ad.out).size (aA (ai.out)));have al:w8.ownsRow W1 54 1 v9 L.length (nf L):=by rw [ab.out,aw.out];exact aj
  obtain ⟨a8,c8,ev,am⟩:=dV al (ax.out _ ag.out);rw [ab.out] at ev;subst ev;have ac:=yv am;clear am aj al ak;refine hK.out _ _ ?_ (fun hHeld=>?_)
  ·exact FS.out _ ag.out
  clear hK K
  try simp only [zd,mj]
  refine ly 6 ?_;refine zt lg ?_ _;clear ax aw ay ai FS;obtain ⟨ad8,e8,-⟩:=ac.out.row 0 (by show 0<L.length;rw [ab.out];omega);have e8:a8=some ad8:=e8;subst e8;have hle:n+1≤c8:=by have h:L.length≤c8:=ac.out.le;rw [ab.out] at h;exact h
  have hcm:c8≤9223372036854775807:=by have h:c8≤zm:=ac.out.cap;unfold zm at h;omega
  have ah:=yv (ae.out.trans (ag.out.mono ae.out.size));by_cases g:n+1≤16
  ·have g2:(n:Int)+1≤16:=lf;have e0:L=Q:=by rw [← K1.out,show n+1 - 16=0 by omega,Ar]
   subst e0;go_wp2;go_ret;exact ⟨some ad8,c8,by rw [ab.out];rfl,ac.out.mono ae.out.size,ah.out⟩
  ·obtain ⟨j,hj⟩:∃ j,n+1 - 16=j:=⟨_,rfl⟩;have g2:(16:Int)<(n:Int)+1:=lf;have g3:(n:Int)+1 - 16=(j:Int):=lf;have g4:(0:Int)≤(j:Int):=lf;have g5:(j:Int)≤(n:Int)+1:=lf;have g6:¬ c8=j:=lf;have hq:Q.length=n+1 - j:=by rw [← K1.out,Ai,ab.out,hj]
   have an:=yv ((ac.out.drop j).mono ae.out.size);rw [show L.drop j=Q by rw [← K1.out,hj]] at an;have HQ:=yv hq;clear hj hq;go_wp2;go_ret;exact ⟨some (ad8.add j),c8 - j,by rw [HQ.out];rfl,an.out,ah.out⟩
end Go.Proofs.YtbagenpobcgjnaaGreat
