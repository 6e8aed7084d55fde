/-
  Joined: StepRef2, StaCat, StkCat, StkDev, StkDev2, StkRef.
-/
import Derived.Test.YtbagenpobcgjnaaGreatJSq
import Derived.Test.YtbagenpobcgjnaaGreatJStkRow
import Derived.Test.YtbagenpobcgjnaaGreatStateShelf
import Derived.Test.YtbagenpobcgjnaaGreatStackShelf
open Go renaming Addr->zx,Calls->zv,TypeId->Ab,Value->zw,World->zt,bodyPost_ret->Ai,grownCap_le_maxLen->Bg,info_parts->Ad,madeCells->A6,maxLen->zz,results->Aj,step_append_lies->A0,wpAnyH_done->Ah,wpAnyH_ready->Ap,wpList_append_own->A4,wpList_append_own_none->Bl,wp_region_held_drew->A9
open Go.Act renaming put->zq
open Go.AllReadyH renaming cons->Ae,nil->Aq
open Go.Ending renaming returned->Af
open Go.IntKind renaming i64->zp
open Go.Lib renaming hid->zk
open Go.Obj renaming cells->zn
open Go.Proofs.Any8 renaming slices_Grow_grow->Bf,slices_Grow_room->Be
open Go.Value renaming bool->Ao,cells->Bj,int->zr,ownBlock->A5,slice->zm,string->zu,tuple->Au
open Go.World renaming cell?_alloc_new->Bm,cell?_setCell_same'->Av,ownsRow_made->Al,ownsRow_nil->Ay
open List renaming append_nil->Ar,drop_zero->A8,getElem?_eq_none->Bo,getElem_replicate->Bn,length_append->An,length_drop->Ax,length_nil->Bk,length_replicate->Aw,mem_append->Br,mem_singleton->A7,replicate->Ag,take_of_length_le->Am
open Nat renaming eq_zero_or_pos->Bd,le_of_eq->Bq,le_of_succ_le->A3,le_refl->zo,le_trans->zy,lt_succ_of_lt->Bc,lt_succ_self->Ak,sub_self->Bp,succ_le_of_lt->Az,zero_add->Bh,zero_le->Aa
variable {n:Nat} {w:Go.World}
namespace Go.Proofs.YtbagenpobcgjnaaGreat
open Go.Proofs.Tryz
set_option maxRecDepth 100000
open Lib (hid)
open Go.RowKit
set_option linter.unusedVariables false
set_option linter.unusedSimpArgs false
theorem nJ {a b:Int} (h:a=b):zr zp a=zr zp b:=by rw [h]
theorem dP {w':zt} {b:Nat} {cs:Array zw} {t:Ab} {row:Option Nat} (h:l6 w b cs t) (hg:w.grownBy w' row) (hne:row≠some b):l6 w' b cs t:=(hg.block b h.lt (fun e=>hne e.symm)).trans h
theorem mC {b size:Nat} {e:Ab} {v:zw} {xs:List zw} (h:w.ownsRow (b+1) e size v n xs):v.ownBlock≠some b:=fun hk=>by
 have:=aB h b hk;omega
theorem aK {base size:Nat} {e:Ab} {v:zw} {xs:List zw} (h:w.ownsRow base e size v n xs) {p:zx} (hp:p.block<base) (u:zw):(w.setCell p u).ownsRow base e size v n xs:=by
 refine ⟨h.1,?_⟩;rcases h.2 with h2|⟨g,cap,cur,hv,aa,hg,hr⟩
 ·exact .inl h2
 ·exact .inr ⟨g,cap,cur,hv,aa,(Below.heap_setCell w p u g (fun e=>lg)).trans hg,hr⟩
set_option maxHeartbeats 1600000 in
theorem lD (a:Option zx) (l:List l8) (c:Nat) (w:zt) (hr:qf w (·<w) a l) (hl:l.length≤100000) :
 zv prog 40 #[oy a l.length c] w (ym w (md l)):=by
 obtain ⟨i0,hi,av,aw,ax⟩:=Ad eW;obtain ⟨W1,ao⟩:∃ W1,w.alloc (zn #[zm a l.length c] 54)=W1:=⟨_,rfl⟩;obtain ⟨W2,aq⟩:∃ W2,W1.alloc (zn #[zm none 0 0] 54)=W2:=⟨_,rfl⟩;obtain ⟨wX,hwX⟩:∃ wX,W2.alloc (zn #[zm none 0 0] 54)=wX:=⟨_,rfl⟩;have hst:=zf.new w a l c hr;rw [ao] at hst;have c2:Below W1.heap.size W1 W2:=by rw [← aq];exact (Below.refl _ _).alloc (zo _) _
 have c3:Below W2.heap.size W2 wX:=by rw [← hwX];exact (Below.refl _ _).alloc (zo _) _
 have z1:W1.heap.size=w+1:=by rw [← ao];simp
 have z2:W2.heap.size=w+2:=by rw [← aq];simp [z1]
 have z3:wX.heap.size=W2+1:=by rw [← hwX];simp
 have B3:l6 W2 W1 #[zm none 0 0] 54:=by rw [← aq];exact l6.new _ _ _
 have B4:l6 wX W2 #[zm none 0 0] 54:=by rw [← hwX];exact l6.new _ _ _
 have hst:=hst.on c2;have x0:=hst.cell;have x1:=(c3.cell (p:=⟨w,0,none⟩) hst.size).trans x0;obtain ⟨n,hn⟩:∃ n,l.length=n:=⟨_,rfl⟩;rw [hn] at hl ao x0 x1 ⊢;have ar:=zk hst;have HN:=zk hn;have a5:=zk c3;have a6:=zk B4;have az:=zk B3;have a7:=zk z3;have au:=zk (show W1.heap.size<W2 by omega);have a0:=zk (show w.heap.size≤W1 by omega);clear hst c2 c3 z1 z2 z3 B3 B4 hr hn;go_enter func40,ntmps40;go_wp2;clear ao aq hwX x1
 go_loopw [4] (fun i wr=>∃ (k:Nat) (v:zw),k≤n∧i=zr zp ((n:Int) - 1 - (k:Int))∧l6 wr W2 #[v] 54∧wr.ownsRow (W2+1) 92 3 v k (l8.flat ((md l).take k))∧Below W2 W2 wr) (fun i _=>(intOf i+1).toNat)
 case atStart=>exact ⟨0,_,Aa _,nJ lg,a6.out,Ay _ _ _ _,a5.out⟩
 case round =>
  obtain ⟨k,v,hk,rfl,hblk,hown,hbel⟩:=hrel;by_cases hlt:k<n
  ·have hkl:k<l.length:=by rw [HN.out];exact hlt
   obtain ⟨j,hj⟩:∃ j,n - 1 - k=j:=⟨_,rfl⟩;have hjl:j<l.length:=by rw [HN.out];omega
   have hs:=tR l k hkl;rw [HN.out,hj] at hs;obtain ⟨ad,rfl,hab,q0,q1,q2⟩:=ar.out.row.at j hjl;obtain ⟨x,hx⟩:∃ x,l[j]! = x:=⟨_,rfl⟩;rw [hx] at q0 q1 q2 hs;obtain ⟨p,o,m⟩:=x;simp only [l8.back] at q0 q1 q2 hs;have ci:=yO p o m;have aj:(ad.add (j * 3)).block<W2:=by rw [show (ad.add (j * 3)).block=ad.block by unfold Addr.add;split <;> rfl];exact hab
   have fs:∀ w',Below W2 W2 w'→Below W2 W2 w'∧w' ⟨w,0,none⟩=some (zm (some ad) n c)∧w' (ad.add (j * 3))=some (zr zp p)∧w' ⟨(ad.add (j * 3)).block,(ad.add (j * 3)).off+1,none⟩=some (zu o)∧w' ⟨(ad.add (j * 3)).block,(ad.add (j * 3)).off+2,none⟩=some (zu m):=fun w' h =>
    ⟨h,(h.cell (p:=⟨w,0,none⟩) ar.out.size).trans x0,(h.cell aj).trans q0,(h.cell (p:=⟨(ad.add (j * 3)).block,(ad.add (j * 3)).off+1,none⟩) aj).trans q1,(h.cell (p:=⟨(ad.add (j * 3)).block,(ad.add (j * 3)).off+2,none⟩) aj).trans q2⟩
   obtain ⟨q,hq⟩:∃ q,(md l).take k=q:=⟨_,rfl⟩;rw [hq] at hs hown;have HS:=zk hs;have CI:=zk ci;have FS:=zk fs;have HK:=zk (show l6 wr.drew W2.heap.size #[v] 54 from hblk);have HO:=zk hown.drew;have y0:=HK.out.cell 0 _ rfl;have hjk:(n:Int) - 1 - (k:Int)=(j:Int):=lg;have b0:(0:Int)≤(j:Int):=lg;have b1:(j:Int)<(n:Int):=lg;rw [hjk];have ay:=zk hjk;clear hs ci fs hx hab aj hj hown hblk hq q0 q1 q2 hjk;go_wp2_with fail;refine A9 (S:=(fun w':zt=>Below W2 W2 w'∧w' ⟨w,0,none⟩=some (zm (some ad) n c)∧w' (ad.add (j * 3))=some (zr zp p)∧w' ⟨(ad.add (j * 3)).block,(ad.add (j * 3)).off+1,none⟩=some (zu o)∧w' ⟨(ad.add (j * 3)).block,(ad.add (j * 3)).off+2,none⟩=some (zu m))) lh (FS.out _ hbel.drew) (fun hHeld=>?_);refine lz 0 ?_;refine lz 2 ?_;refine lz 3 ?_;refine lz 4 ?_;refine lz 5 ?_;refine lz 6 ?_;refine Ap (rs:=[1,7]) lh li ?_;refine Ae (by simp only [rg];rfl) (fun K hK=>?_) (Ae (by simp only [rg];rfl) (fun K hK=>?_) Aq)
   ·go_simp;skip
    try go_wp2_with fail
    refine hK.out _ _ ?_ (fun hHeld=>?_)
    ·exact hHeld
    clear hK K
    try simp only [zq,mj]
    refine m8 7 fun K hK=>?_;go_simp
    (go_at_call 68;refine (CI.out _).mono ?_;rintro e w3 ⟨rfl,af⟩;have ag:=zk (hbel.drew.trans (af.mono (Below.size hbel.drew)));have ac:=zk (HK.out.onto af);have ae:=zk (bN HO.out af);have y3:=ac.out.cell 0 _ rfl;clear af)
    try go_wp2_with fail
    refine hK.out _ _ ?_ (fun hHeld=>?_)
    ·exact FS.out _ ag.out
    clear hK K
    try simp only [zq,mj]
    refine m8 8 fun K hK=>?_;go_simp;have aa:=zk (ag.out.alloc ag.out.size (zn #[zr zp p,zu m,zu o] 92));have ak:=zk (show W2.heap.size+1≤(w3.alloc (zn #[zr zp p,zu m,zu o] 92)) from zy (Az ac.out.lt) li)
    try go_wp2_with fail
    refine hK.out _ _ ?_ (fun hHeld=>?_)
    ·exact FS.out _ aa.out
    clear hK K
    try simp only [zq,mj]
    refine m8 9 fun K hK=>?_;refine A0 _ rfl (.tmp 14) (.tmp 21) 24 rfl (W2+1) 92 i0 _ 3 40 underlying24 hi av aw ax rfl lj v k (l8.flat q) rfl (ae.out.alloc _) ⟨w3,0,none⟩ 1 1 [zr zp p,zu m,zu o] rfl rfl (pO w3 _ _ _ _) (nP _ _ _) lg lq lg ak.out _ rfl ?_;intro g5 cap w6 hown' hgrow _ _;have ah:=zk (aa.out.grown hgrow aa.out.size (fun b hb=>A3 (aB ae.out b hb)));have ab:=zk (dP ((ac.out.alloc _)) hgrow (mC ae.out));have al:=zk hown';have y6:=ab.out.cell 0 _ rfl;have y7:=ab.out.free 0;clear hown' hgrow;refine hK.out _ _ ?_ (fun hHeld=>?_)
    ·exact FS.out _ ah.out
    clear hK K
    try simp only [zq,mj]
    refine lz 10 ?_;refine m8 11 fun K hK=>?_;go_simp;have ai:=zk (ah.out.setCell (p:=⟨W2,0,none⟩) (zo _) (zm (some ⟨g5,0,none⟩) (k+1) cap));have am:=zk (ab.out.set 0 (zm (some ⟨g5,0,none⟩) (k+1) cap));have an:=zk (aK al.out (p:=⟨W2,0,none⟩) (Ak _) (zm (some ⟨g5,0,none⟩) (k+1) cap))
    try go_wp2_with fail
    refine hK.out _ _ ?_ (fun hHeld=>?_)
    ·exact FS.out _ ai.out
    clear hK K
    try simp only [zq,mj]
    refine Ah lh ?_ _;go_wp2_with fail;go_roundw
    case rel=>exact ⟨k+1,_,lg,nJ (by have:=ay.out;omega),am.out,by rw [HS.out,l8.flat_app];exact an.out,ai.out⟩
    case measure=>simp [intOf]
   ·go_simp
    (go_at_call 68;refine (CI.out _).mono ?_;rintro e w3 ⟨rfl,af⟩;have ag:=zk (hbel.drew.trans (af.mono (Below.size hbel.drew)));have ac:=zk (HK.out.onto af);have ae:=zk (bN HO.out af);have y3:=ac.out.cell 0 _ rfl;clear af)
    try go_wp2_with fail
    refine hK.out _ _ ?_ (fun hHeld=>?_)
    ·exact FS.out _ ag.out
    clear hK K
    try simp only [zq,mj]
    refine Ap (rs:=[1,8]) lh li ?_;refine Ae (by simp only [rg];rfl) (fun K hK=>?_) (Ae (by simp only [rg];rfl) (fun K hK=>?_) Aq)
    ·go_simp;skip
     try go_wp2_with fail
     refine hK.out _ _ ?_ (fun hHeld=>?_)
     ·exact hHeld
     clear hK K
     try simp only [zq,mj]
     refine m8 8 fun K hK=>?_;go_simp;have aa:=zk (ag.out.alloc ag.out.size (zn #[zr zp p,zu m,zu o] 92));have ak:=zk (show W2.heap.size+1≤(w3.alloc (zn #[zr zp p,zu m,zu o] 92)) from zy (Az ac.out.lt) li)
     try go_wp2_with fail
     refine hK.out _ _ ?_ (fun hHeld=>?_)
     ·exact FS.out _ aa.out
     clear hK K
     try simp only [zq,mj]
     refine m8 9 fun K hK=>?_;refine A0 _ rfl (.tmp 14) (.tmp 21) 24 rfl (W2+1) 92 i0 _ 3 40 underlying24 hi av aw ax rfl lj v k (l8.flat q) rfl (ae.out.alloc _) ⟨w3,0,none⟩ 1 1 [zr zp p,zu m,zu o] rfl rfl (pO w3 _ _ _ _) (nP _ _ _) lg lq lg ak.out _ rfl ?_;intro g5 cap w6 hown' hgrow _ _;have ah:=zk (aa.out.grown hgrow aa.out.size (fun b hb=>A3 (aB ae.out b hb)));have ab:=zk (dP ((ac.out.alloc _)) hgrow (mC ae.out));have al:=zk hown';have y6:=ab.out.cell 0 _ rfl;have y7:=ab.out.free 0;clear hown' hgrow;refine hK.out _ _ ?_ (fun hHeld=>?_)
     ·exact FS.out _ ah.out
     clear hK K
     try simp only [zq,mj]
     refine lz 10 ?_;refine m8 11 fun K hK=>?_;go_simp;have ai:=zk (ah.out.setCell (p:=⟨W2,0,none⟩) (zo _) (zm (some ⟨g5,0,none⟩) (k+1) cap));have am:=zk (ab.out.set 0 (zm (some ⟨g5,0,none⟩) (k+1) cap));have an:=zk (aK al.out (p:=⟨W2,0,none⟩) (Ak _) (zm (some ⟨g5,0,none⟩) (k+1) cap))
     try go_wp2_with fail
     refine hK.out _ _ ?_ (fun hHeld=>?_)
     ·exact FS.out _ ai.out
     clear hK K
     try simp only [zq,mj]
     refine Ah lh ?_ _;go_wp2_with fail;go_roundw
     case rel=>exact ⟨k+1,_,lg,nJ (by have:=ay.out;omega),am.out,by rw [HS.out,l8.flat_app];exact an.out,ai.out⟩
     case measure=>simp [intOf]
    ·go_simp;have aa:=zk (ag.out.alloc ag.out.size (zn #[zr zp p,zu m,zu o] 92));have ak:=zk (show W2.heap.size+1≤(w3.alloc (zn #[zr zp p,zu m,zu o] 92)) from zy (Az ac.out.lt) li);have y5:=(ac.out.alloc (zn #[zr zp p,zu m,zu o] 92)).cell 0 _ rfl
     try go_wp2_with fail
     refine hK.out _ _ ?_ (fun hHeld=>?_)
     ·exact FS.out _ aa.out
     clear hK K
     try simp only [zq,mj]
     refine m8 1 fun K hK=>?_;go_simp;skip
     try go_wp2_with fail
     refine hK.out _ _ ?_ (fun hHeld=>?_)
     ·exact hHeld
     clear hK K
     try simp only [zq,mj]
     refine m8 9 fun K hK=>?_;refine A0 _ rfl (.tmp 14) (.tmp 21) 24 rfl (W2+1) 92 i0 _ 3 40 underlying24 hi av aw ax rfl lj v k (l8.flat q) rfl (ae.out.alloc _) ⟨w3,0,none⟩ 1 1 [zr zp p,zu m,zu o] rfl rfl (pO w3 _ _ _ _) (nP _ _ _) lg lq lg ak.out _ rfl ?_;intro g5 cap w6 hown' hgrow _ _;have ah:=zk (aa.out.grown hgrow aa.out.size (fun b hb=>A3 (aB ae.out b hb)));have ab:=zk (dP ((ac.out.alloc _)) hgrow (mC ae.out));have al:=zk hown';have y6:=ab.out.cell 0 _ rfl;have y7:=ab.out.free 0;clear hown' hgrow;refine hK.out _ _ ?_ (fun hHeld=>?_)
     ·exact FS.out _ ah.out
     clear hK K
     try simp only [zq,mj]
     refine lz 10 ?_;refine m8 11 fun K hK=>?_;go_simp;have ai:=zk (ah.out.setCell (p:=⟨W2,0,none⟩) (zo _) (zm (some ⟨g5,0,none⟩) (k+1) cap));have am:=zk (ab.out.set 0 (zm (some ⟨g5,0,none⟩) (k+1) cap));have an:=zk (aK al.out (p:=⟨W2,0,none⟩) (Ak _) (zm (some ⟨g5,0,none⟩) (k+1) cap))
     try go_wp2_with fail
     refine hK.out _ _ ?_ (fun hHeld=>?_)
     ·exact FS.out _ ai.out
     clear hK K
     try simp only [zq,mj]
     refine Ah lh ?_ _;go_wp2_with fail;go_roundw
     case rel=>exact ⟨k+1,_,lg,nJ (by have:=ay.out;omega),am.out,by rw [HS.out,l8.flat_app];exact an.out,ai.out⟩
     case measure=>simp [intOf]
  ·obtain rfl:k=n:=lg;have hlen:(md l).length=k:=by rw [aF,HN.out]
   have e:(md l).take k=md l:=by rw [← HN.out];exact yH l
   rw [e] at hown;rw [← hlen] at hown;obtain ⟨a4,c4,rfl,hrow⟩:=dV hown;rw [hlen] at hblk;have y0:=hblk.cell 0 _ rfl;have x4:=az.out.below hbel au.out |>.cell 0 _ rfl
   have x5:=az.out.below hbel au.out |>.free 0
   have a8:¬ (0:Int)≤(k:Int) - 1 - (k:Int):=lg;have a9:(k:Int) - 1 - (k:Int)<0:=lg;have a1:=zk ((ar.out.below.trans (hbel.mono ar.out.below.size)).setCell (p:=⟨W1,0,none⟩) a0.out (zm a4 k c4));have a2:=zk ((hrow.set (p:=⟨W1,0,none⟩) (Bc au.out) (zm a4 k c4)).mono (b2:=w.heap.size) (zy a0.out (Nat.le_of_lt (Bc au.out))));have a3:=zk hlen;clear hrow hown hbel hlen e hblk;go_wp2;refine Ai (v:=oy a4 k c4) (by simp [Aj,results40,go_sem,x4]) rfl ?_;exact ⟨_,c4,by rw [a3.out],a2.out,a1.out⟩
end Go.Proofs.YtbagenpobcgjnaaGreat
namespace Go.Proofs.YtbagenpobcgjnaaGreat
open Go.Proofs.Tryz
set_option maxRecDepth 100000
open Lib (hid)
open Go.Shelf Go.RowKit
set_option linter.unusedVariables false
set_option maxHeartbeats 800000 in
theorem JJ (n:Nat) (hn:n≤1000000) (w:zt):zv prog 158 #[zm none 0 0,zr zp n] w fun e w'=>∃ v,e=Af v∧w'.ownsRow w 54 1 v 0 []∧Below w w w':=by
 obtain ⟨i0,hi,aa,ab,ac⟩:=Ad dL;rcases Bd n with rfl|hp
 ·have h:=Be Tryz.mkGrowT none 0 0 0 w (zo _) lg lg lg;change zv prog 158 _ _ _ at h;refine h.mono ?_;rintro e w' ⟨rfl,rfl⟩;exact ⟨_,rfl,Ay _ _ _ _,Below.refl _ _⟩
 ·have h:=Bf Tryz.mkGrowT i0 _ hi aa (by rw [ab];decide) none 0 0 n [] w (zo _) lg (by rw [ac];omega) lg li (fun _=>rfl) (fun a e=>by cases e);change zv prog 158 _ _ _ at h;refine h.mono ?_;rintro e w' ⟨rfl,rfl⟩;have hge:=grownCap_ge w (0+n) 0 (Tryz.mkGrowT_ren.t 25);have hle:=Bg w (0+n) 0 (Tryz.mkGrowT_ren.t 25) lq;refine ⟨_,rfl,Al w.drew _ _ (zo _) hle ?_,((Below.refl w w).drew).alloc (zo _) _⟩;simp only [Bh] at hge ⊢;simp [Builtin.zeroCells,Bj];omega
set_option maxHeartbeats 1600000 in
theorem zE (r:Nat) (ps:List o7) (w:zt) (hr:r<w) (hps:∀ k,k<ps.length→w ⟨r,k,none⟩=some (ps[k]!).v) (hp:∀ k,k<ps.length→nz w ps[k]!) (hl:ps.length≤1000) (hs:qd ps≤100000) :
 zv prog 133 #[zm (some ⟨r,0,none⟩) ps.length ps.length] w (pw w (qj ps)):=by
 obtain ⟨i0,hi,aj,ak,al⟩:=Ad dL;obtain ⟨m,hm⟩:∃ m,ps.length=m:=⟨_,rfl⟩;rw [hm] at hl ⊢;have HM:=zk hm;have ae:=zk hps;have HP:=zk hp;have HS:=zk hs;have HR:=zk hr;clear hm hps hp hs hr;go_enter func133,ntmps133;go_wp2
 go_loop [3,11] (fun z i=>∃ k:Nat,k≤m∧i=zr zp k∧z=zr zp (qd (ps.take k):Nat)) (fun _ i=>m - (intOf i).toNat)
 case atStart=>exact ⟨0,Aa _,rfl,rfl⟩
 case round =>
  obtain ⟨k,hk,rfl,rfl⟩:=hrel;have hb:=zy (dS ps k) HS.out;by_cases hlt:k<m
  ·have hkl:k<ps.length:=by rw [HM.out];exact hlt
   have q0:=ae.out k hkl;have h2:=gL ps k hkl;have am:=zy (dS ps (k+1)) HS.out;obtain ⟨x,hx⟩:∃ x,ps[k]! = x:=⟨_,rfl⟩;rw [hx] at q0 h2;obtain ⟨xa,xl,xc⟩:=x;simp only [o7.v] at q0 h2;obtain ⟨n,hn⟩:∃ n,xl.length=n:=⟨_,rfl⟩;rw [hn] at q0 h2;obtain ⟨s,hs⟩:∃ s,qd (ps.take k)=s:=⟨_,rfl⟩;rw [hs] at h2 hb ⊢;have HX:=zk h2;have aw:s+n≤100000:=lg;have b0:(0:Int)≤(k:Int):=lg;have b1:(k:Int)<(m:Int):=lg;have b2:¬ (s:Int)+(n:Int)<0:=lg;clear hx hn hs h2 am;go_wp2
   go_round
   case rel=>exact ⟨k+1,lg,by go_num,by rw [HX.out];go_num⟩
   case measure=>simp [intOf];omega
  ·obtain rfl:k=m:=lg;have hz:qd (ps.take k)=qd ps:=by rw [Am (by rw [HM.out];exact zo _)]
   rw [hz] at hb ⊢;obtain ⟨s,hs⟩:∃ s,qd ps=s:=⟨_,rfl⟩;rw [hs] at hb ⊢;have cg:=JJ s lg w;have CG:=zk cg;have ax:=zk hs;clear hz hs cg;go_wp2_with fail;refine CG.out.mono ?_;rintro e w1 ⟨v,rfl,ab,aa⟩;have an:=zk aa;have HO:=zk ab;clear aa ab;go_wp2
   go_loopw [6,27] (fun v i wr=>∃ j:Nat,j≤k∧i=zr zp j∧wr.ownsRow w 54 1 v (qj (ps.take j)).length (nb (qj (ps.take j)))∧Below w w wr) (fun _ i _=>k - (intOf i).toNat)
   case atStart=>exact ⟨0,Aa _,rfl,HO.out,an.out⟩
   case round =>
    obtain ⟨j,hj,rfl,hown,hbel⟩:=hrel;have hlen:=tZ (ps.take j);have hle:=zy (dS ps j) HS.out;by_cases hlt:j<k
    ·have hjl:j<ps.length:=by rw [HM.out];exact hlt
     have q0:=(hbel.cell (p:=⟨r,j,none⟩) HR.out).trans (ae.out j hjl);have hp:=HP.out j hjl;have h2:=qB ps j hjl;have h3:=gL ps j hjl;have ai:=zy (dS ps (j+1)) HS.out;obtain ⟨x,hx⟩:∃ x,ps[j]! = x:=⟨_,rfl⟩;rw [hx] at q0 hp h2 h3;obtain ⟨o,ho⟩:∃ o,qj (ps.take j)=o:=⟨_,rfl⟩;rw [ho] at hown hlen h2;have hol:o.length≤100000:=lg;have hxl:o.length+x.l.length≤100000:=lg;have H2:=zk h2;have b0:(0:Int)≤(j:Int):=lg;have b1:(j:Int)<(k:Int):=lg;clear hx ho h2 h3 hlen hle ai;obtain ⟨xa,xl,xc⟩:=x;cases xa with
     | none =>
      have e0:xl=[]:=hp.len rfl;have e1:xc=0:=hp.nil rfl;subst e0;subst e1;simp only [o7.v,Bk] at q0;clear hp hxl;go_wp2_with (at_builtin;refine Bl rfl _ _ 23 rfl w.heap.size 54 i0 1 underlying23 hi _ _ _ rfl hown rfl ?_);go_roundw
      case rel=>exact ⟨j+1,lg,by go_num,by rw [H2.out,Ar];exact hown,hbel⟩
      case measure=>simp [intOf];omega
     | some ad =>
      have hnews:=kN (hp.row.below (fun _ h=>h) hbel);simp only [o7.v] at q0;have hfl:=eN xl;have hofl:=iZ xl;obtain ⟨n,hn⟩:∃ n,xl.length=n:=⟨_,rfl⟩;simp only [hn] at q0 hxl hfl;have ao:=zk hnews;have aq:=zk hfl;have ar:=zk hofl;have ac:=zk hn;clear hp hnews hfl hofl hn;go_wp2_with (at_builtin;refine A4 _ rfl _ _ 23 rfl w.heap.size 54 i0 _ 1 24 underlying23 hi aj ak al rfl lj _ _ _ rfl hown ad n xc (nb xl) rfl aq.out ao.out ar.out lq lg hbel.size ?_;intro v1 w1 af ag _);have aa:Below w w w1:=hbel.grown ag hbel.size (aB hown);have ah:w1.ownsRow w 54 1 v1 (qj (ps.take (j+1))).length (nb (qj (ps.take (j+1)))):=by
       rw [H2.out,lV,An,ac.out];exact af
      have au:=zk ah;have av:=zk aa;clear af ag hown hbel aa ah q0;go_wp2;go_roundw
      case rel=>exact ⟨j+1,lg,by go_num,au.out,av.out⟩
      case measure=>simp [intOf];omega
    ·obtain rfl:j=k:=lg;rw [Am (by rw [HM.out];exact zo _)] at hown;obtain ⟨ad,cp,rfl,hn⟩:=eG hown ((tH HP.out).later hbel);have ac:=zk hn;clear hn hown;go_wp2;go_ret;exact ⟨ad,cp,rfl,ac.out,hbel⟩
set_option maxHeartbeats 1000000 in
theorem AM (ad:zx) (l:List mo) (c:Nat) (w:zt) (hr:vj w (·<w) (some ad) l) (hl:l.length≤1000000) :
 zv prog 115 #[zm (some ad) l.length c] w fun e w'=>∃ v,e=Af v∧w'.ownsRow w 54 1 v l.length (nb l)∧v≠zm none 0 0∧Below w w w':=by
 obtain ⟨i0,hi,ae,af,ag⟩:=Ad dL;have q22:∀ (w:zt) (a:Option zx) (n c n' c':Nat),(binOp .eql 23 (zm a n c) (zm none n' c')).run prog w=.ok (Ao a.isNone) w:=fun w a n c n' c'=>Lib.run_eql_slice_nil w _ _ a n c n' c' underlying23;have ab:=zk (kN hr);have aa:=zk (eN l);have ac:=zk (iZ l);obtain ⟨n,hn⟩:∃ n,l.length=n:=⟨_,rfl⟩;rw [hn] at hl aa ⊢;obtain ⟨F,hF⟩:∃ F,nb l=F:=⟨_,rfl⟩;rw [hF] at ab aa ac ⊢;clear hr hn hF;go_enter func115,ntmps115;go_wp2_with (at_builtin;refine A4 _ rfl _ _ 23 rfl w.heap.size 54 i0 _ 1 24 underlying23 hi ae af ag rfl lj _ _ _ rfl (Al w #[] 0 (zo _) (Aa _) li) ad n c F rfl aa.out (fun j u hj=>Lib.cell?_alloc_some _ (ab.out j u hj)) ac.out lq lg li ?_);intro v' w1 hown hgrow hnil;go_wp2;go_ret;refine ⟨v',rfl,by simpa using hown,?_,?_⟩
 ·exact hnil
 ·exact ((Below.refl _ w).alloc (zo _) _).grown hgrow li (by intro k hk;simp [A5] at hk;omega)
theorem ET (w:zt):zv prog 115 #[zm none 0 0] w fun e w'=>e=Af (zm none 0 0)∧w'=w:=by
 have h:=AnyE.slices_Clone_nil Tryz.mkCloneT 0 0 w;change zv prog 115 _ _ _ at h;exact h
set_option maxHeartbeats 800000 in
theorem JX (n:Nat) (hn:n≤1000000) (w:zt):zv prog 216 #[zm none 0 0,zr zp n] w fun e w'=>∃ v,e=Af v∧w'.ownsRow w 54 1 v 0 []∧Below w w w':=by
 obtain ⟨i0,hi,aa,ab,ac⟩:=Ad dL;rcases Bd n with rfl|hp
 ·have h:=Be Tryz.mkGrowS none 0 0 0 w (zo _) lg lg lg;change zv prog 216 _ _ _ at h;refine h.mono ?_;rintro e w' ⟨rfl,rfl⟩;exact ⟨_,rfl,Ay _ _ _ _,Below.refl _ _⟩
 ·have h:=Bf Tryz.mkGrowS i0 _ hi aa (by rw [ab];decide) none 0 0 n [] w (zo _) lg (by rw [ac];omega) lg li (fun _=>rfl) (fun a e=>by cases e);change zv prog 216 _ _ _ at h;refine h.mono ?_;rintro e w' ⟨rfl,rfl⟩;have hge:=grownCap_ge w (0+n) 0 (Tryz.mkGrowS_ren.t 25);have hle:=Bg w (0+n) 0 (Tryz.mkGrowS_ren.t 25) lq;refine ⟨_,rfl,Al w.drew _ _ (zo _) hle ?_,((Below.refl w w).drew).alloc (zo _) _⟩;simp only [Bh] at hge ⊢;simp [Builtin.zeroCells,Bj];omega
set_option maxHeartbeats 1600000 in
theorem zR (r:Nat) (ps:List o7) (w:zt) (hr:r<w) (hps:∀ k,k<ps.length→w ⟨r,k,none⟩=some (ps[k]!).v) (hp:∀ k,k<ps.length→nz w ps[k]!) (hl:ps.length≤1000) (hs:qd ps≤100000) :
 zv prog 215 #[zm (some ⟨r,0,none⟩) ps.length ps.length] w (pw w (qj ps)):=by
 obtain ⟨i0,hi,aj,ak,al⟩:=Ad dL;obtain ⟨m,hm⟩:∃ m,ps.length=m:=⟨_,rfl⟩;rw [hm] at hl ⊢;have HM:=zk hm;have ae:=zk hps;have HP:=zk hp;have HS:=zk hs;have HR:=zk hr;clear hm hps hp hs hr;go_enter func215,ntmps215;go_wp2
 go_loop [3,11] (fun z i=>∃ k:Nat,k≤m∧i=zr zp k∧z=zr zp (qd (ps.take k):Nat)) (fun _ i=>m - (intOf i).toNat)
 case atStart=>exact ⟨0,Aa _,rfl,rfl⟩
 case round =>
  obtain ⟨k,hk,rfl,rfl⟩:=hrel;have hb:=zy (dS ps k) HS.out;by_cases hlt:k<m
  ·have hkl:k<ps.length:=by rw [HM.out];exact hlt
   have q0:=ae.out k hkl;have h2:=gL ps k hkl;have am:=zy (dS ps (k+1)) HS.out;obtain ⟨x,hx⟩:∃ x,ps[k]! = x:=⟨_,rfl⟩;rw [hx] at q0 h2;obtain ⟨xa,xl,xc⟩:=x;simp only [o7.v] at q0 h2;obtain ⟨n,hn⟩:∃ n,xl.length=n:=⟨_,rfl⟩;rw [hn] at q0 h2;obtain ⟨s,hs⟩:∃ s,qd (ps.take k)=s:=⟨_,rfl⟩;rw [hs] at h2 hb ⊢;have HX:=zk h2;have aw:s+n≤100000:=lg;have b0:(0:Int)≤(k:Int):=lg;have b1:(k:Int)<(m:Int):=lg;have b2:¬ (s:Int)+(n:Int)<0:=lg;clear hx hn hs h2 am;go_wp2
   go_round
   case rel=>exact ⟨k+1,lg,by go_num,by rw [HX.out];go_num⟩
   case measure=>simp [intOf];omega
  ·obtain rfl:k=m:=lg;have hz:qd (ps.take k)=qd ps:=by rw [Am (by rw [HM.out];exact zo _)]
   rw [hz] at hb ⊢;obtain ⟨s,hs⟩:∃ s,qd ps=s:=⟨_,rfl⟩;rw [hs] at hb ⊢;have cg:=JX s lg w;have CG:=zk cg;have ax:=zk hs;clear hz hs cg;go_wp2_with fail;refine CG.out.mono ?_;rintro e w1 ⟨v,rfl,ab,aa⟩;have an:=zk aa;have HO:=zk ab;clear aa ab;go_wp2
   go_loopw [6,27] (fun v i wr=>∃ j:Nat,j≤k∧i=zr zp j∧wr.ownsRow w 54 1 v (qj (ps.take j)).length (nb (qj (ps.take j)))∧Below w w wr) (fun _ i _=>k - (intOf i).toNat)
   case atStart=>exact ⟨0,Aa _,rfl,HO.out,an.out⟩
   case round =>
    obtain ⟨j,hj,rfl,hown,hbel⟩:=hrel;have hlen:=tZ (ps.take j);have hle:=zy (dS ps j) HS.out;by_cases hlt:j<k
    ·have hjl:j<ps.length:=by rw [HM.out];exact hlt
     have q0:=(hbel.cell (p:=⟨r,j,none⟩) HR.out).trans (ae.out j hjl);have hp:=HP.out j hjl;have h2:=qB ps j hjl;have h3:=gL ps j hjl;have ai:=zy (dS ps (j+1)) HS.out;obtain ⟨x,hx⟩:∃ x,ps[j]! = x:=⟨_,rfl⟩;rw [hx] at q0 hp h2 h3;obtain ⟨o,ho⟩:∃ o,qj (ps.take j)=o:=⟨_,rfl⟩;rw [ho] at hown hlen h2;have hol:o.length≤100000:=lg;have hxl:o.length+x.l.length≤100000:=lg;have H2:=zk h2;have b0:(0:Int)≤(j:Int):=lg;have b1:(j:Int)<(k:Int):=lg;clear hx ho h2 h3 hlen hle ai;obtain ⟨xa,xl,xc⟩:=x;cases xa with
     | none =>
      have e0:xl=[]:=hp.len rfl;have e1:xc=0:=hp.nil rfl;subst e0;subst e1;simp only [o7.v,Bk] at q0;clear hp hxl;go_wp2_with (at_builtin;refine Bl rfl _ _ 166 rfl w.heap.size 54 i0 1 underlying166 hi _ _ _ rfl hown rfl ?_);go_roundw
      case rel=>exact ⟨j+1,lg,by go_num,by rw [H2.out,Ar];exact hown,hbel⟩
      case measure=>simp [intOf];omega
     | some ad =>
      have hnews:=kN (hp.row.below (fun _ h=>h) hbel);simp only [o7.v] at q0;have hfl:=eN xl;have hofl:=iZ xl;obtain ⟨n,hn⟩:∃ n,xl.length=n:=⟨_,rfl⟩;simp only [hn] at q0 hxl hfl;have ao:=zk hnews;have aq:=zk hfl;have ar:=zk hofl;have ac:=zk hn;clear hp hnews hfl hofl hn;go_wp2_with (at_builtin;refine A4 _ rfl _ _ 166 rfl w.heap.size 54 i0 _ 1 24 underlying166 hi aj ak al rfl lj _ _ _ rfl hown ad n xc (nb xl) rfl aq.out ao.out ar.out lq lg hbel.size ?_;intro v1 w1 af ag _);have aa:Below w w w1:=hbel.grown ag hbel.size (aB hown);have ah:w1.ownsRow w 54 1 v1 (qj (ps.take (j+1))).length (nb (qj (ps.take (j+1)))):=by
       rw [H2.out,lV,An,ac.out];exact af
      have au:=zk ah;have av:=zk aa;clear af ag hown hbel aa ah q0;go_wp2;go_roundw
      case rel=>exact ⟨j+1,lg,by go_num,au.out,av.out⟩
      case measure=>simp [intOf];omega
    ·obtain rfl:j=k:=lg;rw [Am (by rw [HM.out];exact zo _)] at hown;obtain ⟨ad,cp,rfl,hn⟩:=eG hown ((tH HP.out).later hbel);have ac:=zk hn;clear hn hown;go_wp2;go_ret;exact ⟨ad,cp,rfl,ac.out,hbel⟩
theorem scat2 {W:zt} {p q:o7} (i j:Nat) (hp:nz W p) (hq:nz W q) (hi:p.l.length=i) (hj:q.l.length=j) (hs:i+j≤1000) (t:Ab) :
 zv prog 215 #[zm (some ⟨W,0,none⟩) 2 2] (W.alloc (zn #[zm p.a i p.c,zm q.a j q.c] t)) (pw (W.alloc (zn #[zm p.a i p.c,zm q.a j q.c] t)) (p.l++q.l)):=by
 have hb:Below W W (W.alloc (zn #[zm p.a i p.c,zm q.a j q.c] t)):=(Below.refl W W).alloc (zo _) _;have h:=zR W [p,q] (W.alloc (zn #[zm p.a i p.c,zm q.a j q.c] t)) li (fun k hk=>by
  match k,hk with
  | 0,_=>simp [Bm,o7.v,hi]
  | 1,_=>simp [Bm,o7.v,hj]) (fun k hk=>by
  match k,hk with
  | 0,_=>exact hp.later hb
  | 1,_=>exact hq.later hb) li (by simp [qd];omega)
 have e:qj [p,q]=p.l++q.l:=by simp [qj]
 rw [e] at h;exact h
end Go.Proofs.YtbagenpobcgjnaaGreat
namespace Go.Proofs.YtbagenpobcgjnaaGreat
open Go.Proofs.Tryz
set_option maxRecDepth 100000
open Lib (hid)
open Go.RowKit
set_option linter.unusedVariables false
set_option linter.unusedSimpArgs false
set_option maxHeartbeats 800000 in
theorem xW (a:Option zx) (c:Nat) (w:zt) :
 zv prog 131 #[zm a 0 c] w fun e w'=>e=Af (Au #[zm none 0 0,oy none 0 0,Ao false])∧Below w w w':=by
 have aa:Below w w ((w.alloc (zn #[zm none 0 0] 54)).alloc (zn #[zm none 0 0] 54)).drew:=(((Below.refl w w).alloc (zo _) _).alloc li _).drew;have HB:=zk aa;clear aa;go_enter func131,ntmps131;go_wp2;go_region
 all_goals go_wp2
 all_goals
  refine Ai (v:=Au #[zm none 0 0,oy none 0 0,Ao false]) (by simp [Aj,results131,go_sem]) rfl ?_;exact ⟨rfl,HB.out⟩
set_option maxHeartbeats 800000 in
theorem xY (ad:zx) (c k:Nat) (y:mo) (w:zt) (hc:w (ad.add k)=some y.v) (hkc:k+1≤c) (hcm:c≤zz) :
 zv prog 131 #[zm (some ad) (k+1:Nat) c] w fun e w'=>e=Af (Au #[zm (some ad) k c,oy y.a y.l.length y.c,Ao true])∧Below w w w':=by
 obtain ⟨ya,yl,yc⟩:=y;simp only [mo.v] at hc ⊢;unfold zz at hcm;obtain ⟨n,hn⟩:∃ n,yl.length=n:=⟨_,rfl⟩;rw [hn] at hc ⊢;have hlt:=World.block_lt_of_cell? w _ hc;rw [aX] at hlt;obtain ⟨W,hW⟩:∃ W,w.alloc (zn #[zm none 0 0] 54)=W:=⟨_,rfl⟩;have aa:Below w w W:=by rw [← hW];exact (Below.refl w w).alloc (zo _) _
 have B:=l6.new w #[zm none 0 0] 54;rw [hW] at B;have q1:W.drew (ad.add k)=some (zm ya n yc):=(aa.cell (p:=ad.add k) (by rw [aX];exact hlt)).trans hc;have q2:W.drew ⟨w,0,none⟩=some (zm none 0 0):=B.cell 0 _ rfl;have q3:W.drew.frozen? ⟨w,0,none⟩=false:=B.free 0;have ab:k≤c:=lg;have HB:=zk (aa.drew.setCell (p:=⟨w,0,none⟩) (zo _) (zm ya n yc));have q4:(W.setCell ⟨w,0,none⟩ (zm ya n yc)) ⟨w,0,none⟩=some (zm ya n yc):=Av _ _ _ (by rw [show W ⟨w,0,none⟩=_ from q2];rfl);clear hn hlt aa B hc;go_enter func131,ntmps131;go_wp2;go_region
 all_goals go_wp2
 all_goals
  refine Ai (v:=Au #[zm (some ad) k c,oy ya n yc,Ao true]) (by simp [Aj,results131,go_sem,q4]) rfl ?_;exact ⟨rfl,HB.out⟩
set_option maxHeartbeats 800000 in
theorem BP (a:Option zx) (l:List l8) (c:Nat) (w:zt) (hp:o0 w ⟨a,l,c⟩) (hl:l.length≤1000000) :
 zv prog 205 #[oy a l.length c] w (ym w l):=by
 obtain ⟨W1,aa⟩:∃ W1,w.alloc (zn #[zm a l.length c] 54)=W1:=⟨_,rfl⟩;obtain ⟨wX,hwX⟩:∃ wX,W1.alloc (zn #[zm none 0 0] 54)=wX:=⟨_,rfl⟩;have b1:Below w w W1:=by rw [← aa];exact (Below.refl _ _).alloc (zo _) _
 have z1:W1.heap.size=w+1:=by rw [← aa];simp
 have z3:wX.heap.size=w+2:=by rw [← hwX];simp [z1]
 have c3:Below W1.heap.size W1 wX:=by rw [← hwX];exact (Below.refl _ _).alloc (zo _) _
 have B1:l6 W1 w #[zm a l.length c] 54:=by rw [← aa];exact l6.new _ _ _
 have B3:l6 wX W1 #[zm none 0 0] 54:=by rw [← hwX];exact l6.new _ _ _
 have B1:l6 wX w #[zm a l.length c] 54:=B1.onto c3;have ab:Below w w wX:=b1.trans (c3.mono lg);have x0:=B1.cell 0 _ rfl;have x4:=B3.cell 0 _ rfl;have x5:=B3.free 0;have hpX:o0 wX ⟨a,l,c⟩:=hp.later ab;cases a with
 | none =>
  have e0:l=[]:=hp.len rfl;have e1:c=0:=hp.nil rfl;subst e0;subst e1;have HB:=zk (ab.setCell (p:=⟨W1,0,none⟩) (by show w.heap.size≤W1;omega) (zm none 0 0));have aa:w.alloc (zn #[zm none 0 0] 54)=W1:=aa;have x0:wX ⟨w,0,none⟩=some (zm none 0 0):=x0;have q4:(wX.setCell ⟨W1,0,none⟩ (zm none 0 0)) ⟨W1,0,none⟩=some (zm none 0 0):=Av _ _ _ (by rw [x4];rfl);clear hp hpX ab B1 B3 c3 b1 hl z1 z3;show zv prog 205 #[.agg #[zm none 0 0]] w _;go_enter func205,ntmps205;go_wp2_with fail;refine (qG _).mono ?_;rintro e w2 ⟨rfl,rfl⟩;go_wp2;refine Ai (v:=oy none 0 0) (by simp [Aj,results205,go_sem,q4]) rfl ?_;exact ⟨none,0,rfl,rp.empty _ _,HB.out⟩
 | some ad =>
  have cc:=oI ad l c wX hpX.row hl;obtain ⟨n,hn⟩:∃ n,l.length=n:=⟨_,rfl⟩;have CC:=zk cc;have HN:=zk hn;have ac:=zk ab;have ae:=zk (show W1.heap.size<wX by omega);have af:=zk (show w.heap.size≤W1 by omega);rw [hn] at aa x0 CC ⊢;clear hp hpX ab B1 B3 c3 b1 hl z1 z3 cc hn;show zv prog 205 #[.agg #[zm (some ad) n c]] w _;go_enter func205,ntmps205;go_wp2_with fail;refine CC.out.mono ?_;rintro e w2 ⟨v,rfl,hown,-,hb⟩;have hown:w2.ownsRow wX 92 3 v l.length (l8.flat l):=by rw [HN.out];exact hown
  obtain ⟨a2,c2,ev,hrow⟩:=dV hown;rw [HN.out] at ev;subst ev;have y4:=(hb.cell (p:=⟨W1,0,none⟩) ae.out).trans x4;have y5:=(hb.frozen (p:=⟨W1,0,none⟩) ae.out).trans x5;have HB:=zk ((ac.out.trans (hb.mono ac.out.size)).setCell (p:=⟨W1,0,none⟩) af.out (zm a2 n c2));have HR:=zk ((hrow.set (p:=⟨W1,0,none⟩) ae.out (zm a2 n c2)).mono ac.out.size);have q4:(w2.setCell ⟨W1,0,none⟩ (zm a2 n c2)) ⟨W1,0,none⟩=some (zm a2 n c2):=Av _ _ _ (by rw [y4];rfl);clear hown hrow hb;go_wp2;refine Ai (v:=oy a2 n c2) (by simp [Aj,results205,go_sem,q4]) rfl ?_;exact ⟨a2,c2,by rw [HN.out],HR.out,HB.out⟩
theorem MC (a:Option zx) (n c:Nat) (w:zt) :
 zv prog 108 #[oy a n c] w fun e w'=>e=Af (oy a n c)∧Below w w w':=by
 obtain ⟨W1,aa⟩:∃ W1,w.alloc (zn #[zm a n c] 54)=W1:=⟨_,rfl⟩;obtain ⟨wX,hwX⟩:∃ wX,W1.alloc (zn #[zm none 0 0] 54)=wX:=⟨_,rfl⟩;have b1:Below w w W1:=by rw [← aa];exact (Below.refl _ _).alloc (zo _) _
 have z1:W1.heap.size=w+1:=by rw [← aa];simp
 have c3:Below W1.heap.size W1 wX:=by rw [← hwX];exact (Below.refl _ _).alloc (zo _) _
 have B1:l6 W1 w #[zm a n c] 54:=by rw [← aa];exact l6.new _ _ _
 have B3:l6 wX W1 #[zm none 0 0] 54:=by rw [← hwX];exact l6.new _ _ _
 have B1:l6 wX w #[zm a n c] 54:=B1.onto c3;have HB:=zk ((b1.trans (c3.mono lg)).setCell (p:=⟨W1,0,none⟩) (by show w.heap.size≤W1;omega) (zm a n c));have x0:=B1.cell 0 _ rfl;have x4:=B3.cell 0 _ rfl;have x5:=B3.free 0;have q4:(wX.setCell ⟨W1,0,none⟩ (zm a n c)) ⟨W1,0,none⟩=some (zm a n c):=Av _ _ _ (by rw [x4];rfl);clear b1 c3 B1 B3 z1;show zv prog 108 #[.agg #[zm a n c]] w _;go_enter func108,ntmps108;go_wp2;refine Ai (v:=oy a n c) (by simp [Aj,results108,go_sem,q4]) rfl ?_;exact ⟨rfl,HB.out⟩
def xu:mo:=⟨none,[],0⟩
theorem smade (n:Nat):(A6 #[zm none 0 0] (n * 1)).toList=nb (Ag n xu):=by
 refine List.ext_getElem? fun j=>?_;rcases Nat.lt_or_ge j n with g|g
 ·rw [fZ _ _ (by rw [Aw];exact g),og (by rw [Aw];exact g),Bn];unfold A6;simp [g,Nat.mod_one];rfl
 ·rw [Bo (by simp [A6];exact g),Bo (by rw [eN,Aw];omega)]
theorem uH (l:List mo) (k:Nat) (x:mo):(nb l).set k x.v=nb (l.set k x):=by
 unfold nb;rw [List.map_set]
def yg (w:zt) (L:List (List l8)) (e:Ending) (w':zt):Prop:=∃ a c l,e=Af (zm a l.length c)∧mf l=L∧sg w' w ⟨a,l,c⟩∧(∃ g,a=some ⟨g,0,none⟩∧w.heap.size≤g∧∀ x∈l,rp w' (g+1) x)∧w'.ownsRow w 54 1 (zm a l.length c) l.length (nb l)∧Below w w w'
theorem oW {base b2 size:Nat} {e:Ab} {v:zw} {xs:List zw} (h:w.ownsRow base e size v n xs) (hb:b2≤base):w.ownsRow b2 e size v n xs:=by
 refine ⟨h.1,?_⟩;rcases h.2 with h2|⟨g,cap,cur,hv,aa,hr⟩
 ·exact .inl h2
 ·exact .inr ⟨g,cap,cur,hv,zy hb aa,hr⟩
set_option maxHeartbeats 1600000 in
theorem wL (a:Option zx) (l:List mo) (c:Nat) (w:zt) (hp:nz w ⟨a,l,c⟩) (hl:l.length≤1000) (hb:∀ x∈l,x.l.length≤1000000) :
 zv prog 204 #[zm a l.length c,.func (.func 205) #[] #[]] w (yg w (mf l)):=by
 obtain ⟨i0,hi,ai,aj,ak⟩:=Ad dL;obtain ⟨n,hn⟩:∃ n,l.length=n:=⟨_,rfl⟩;obtain ⟨wM,hrun,hown,hgrow⟩:=run_make_full (P:=prog) w w 166 54 i0 _ 1 underlying166 hi ai aj zp zp n (by rw [ak];omega) lq (zo _);have hbM:Below w w wM:=(Below.refl _ _).grown hgrow (zo _) (fun k hk=>by cases hk);have hown:wM.ownsRow w 54 1 (zm (some ⟨w,0,none⟩) n n) n (nb ([]++Ag (n - 0) xu)):=by
  rw [List.nil_append,Nat.sub_zero,← smade];exact hown
 obtain ⟨g,hg⟩:∃ g,w.heap.size=g:=⟨_,rfl⟩;rw [hn] at hl ⊢;have HG:=zk hg;have HP:=zk hp;have HN:=zk hn;have ao:=zk hown;have ar:=zk hbM;have au:=zk hb;rw [hg] at hrun;clear hn hown hgrow hbM hg hi ai aj ak hp hb;go_enter func204,ntmps204;go_wp2;clear hrun
 go_loopw [13] (fun i wr=>∃ (k:Nat) (qs:List mo),k≤n∧i=zr zp k∧qs.length=k∧wr.ownsRow w 54 1 (zm (some ⟨g,0,none⟩) n n) n (nb (qs++Ag (n - k) xu))∧mf qs=(mf l).take k∧(∀ x∈qs,rp wr (g+1) x)∧Below w w wr) (fun i _=>n - (intOf i).toNat)
 case atStart=>exact ⟨0,[],Aa _,rfl,rfl,by rw [← HG.out];exact ao.out,rfl,fun x hx=>absurd hx li,ar.out⟩
 case round =>
  obtain ⟨k,qs,hk,rfl,hqk,hown,hqs,hall,hbel⟩:=hrel;by_cases hlt:k<n
  ·have hkl:k<l.length:=by rw [HN.out];exact hlt
   have hpr:=HP.out.later hbel;obtain ⟨ad,rfl,hab,q0⟩:=hpr.row k hkl;have af:=hpr.all.at k hkl;have ab:=au.out (l[k]!) (by rw [og hkl];exact List.getElem_mem hkl);have ac:mf qs++[(l[k]!).l]=(mf l).take (k+1):=by rw [ltake (by rw [aD];exact hkl),hqs,cO l k hkl]
   obtain ⟨x,hx⟩:∃ x,l[k]! = x:=⟨_,rfl⟩;rw [hx] at q0 af ab ac;obtain ⟨xa,xl,xc⟩:=x;simp only [mo.v] at q0 ab ac;have hgl:g<wr:=(hown.lt _ rfl).2;have hbx:Below wr wr (wr.alloc (zn #[zm xa xl.length xc] 54)):=(Below.refl _ _).alloc (zo _) _;have co:=BP xa xl xc _ (af.later hbx) ab;obtain ⟨m,hm⟩:∃ m,xl.length=m:=⟨_,rfl⟩;have CO:=zk co;have HO:=zk hown;have HM:=zk hm;have av:=zk ac;have aa:=zk hall;have ag:=zk hbx;have aw:=zk hgl;have HQ:=zk hqk;rw [hm] at q0 CO ag;have b0:(0:Int)≤(k:Int):=lg;have b1:(k:Int)<(n:Int):=lg;clear co hown hm hx af ab ac hall hbx hgl hab hpr hqs hqk;go_wp2_with fail;refine CO.out.mono ?_;rintro e w3 ⟨a3,c3,rfl,al,am⟩;rw [HM.out];have ae:Below wr wr w3:=ag.out.trans (am.mono ag.out.size);have ah:=zk (bN HO.out ae);have ax:=zk (hbel.trans (ae.mono hbel.size));have f0:=ah.out.frozenAt k;have hkq:k<(qs++Ag (n - k) xu).length:=by rw [An,Aw,HQ.out];omega
   have q3:=(ah.out.cellAt k lg).trans (fZ _ k hkq);rw [show (qs++Ag (n - k) xu)[k]! = xu by rw [og hkq,List.getElem_append_right (by rw [HQ.out];exact zo _),Bn]] at q3;have q3:w3 ⟨g,k,none⟩=some (zm none 0 0):=q3;have ay:=zk (ah.out.stored k (zm a3 xl.length c3)).1;have HE:nb ((qs++Ag (n - k) xu).set k ⟨a3,xl,c3⟩)=nb ((qs++[⟨a3,xl,c3⟩])++Ag (n - (k+1)) xu):=by
    rw [List.set_append_right _ _ (by rw [HQ.out];exact zo _),HQ.out,Bp,show n - k=(n - (k+1))+1 by omega,List.replicate_succ,List.set_cons_zero,List.append_assoc];rfl
   have HS:=zk ((uH (qs++Ag (n - k) xu) k ⟨a3,xl,c3⟩).trans HE);have az:=zk (ax.out.setCell (p:=⟨g,k,none⟩) (Bq HG.out) (zm a3 m c3));have a0:=zk ((al.mono (b2:=g+1) (by have:=aw.out;simp;omega)).set (p:=⟨g,k,none⟩) (Ak g) (zm a3 m c3));have a1:=zk (fun x hx=>((aa.out x hx).below ae).set (p:=⟨g,k,none⟩) (Ak g) (zm a3 m c3));clear al am ae hbel q0 HE hkq;go_wp2;go_roundw
   case rel =>
    refine ⟨k+1,qs++[⟨a3,xl,c3⟩],lg,by go_num,by rw [An,HQ.out];rfl,?_,by rw [fK];exact av.out,?_,az.out⟩
    ·have h:=ay.out;have hS:=HS.out;simp only [mo.v] at hS;rw [hS,HM.out] at h;exact h
    ·intro x hx;rcases Br.1 hx with hx|hx
     ·exact a1.out x hx
     ·obtain rfl:=A7.1 hx;exact a0.out
   case measure=>simp [intOf];omega
  ·obtain rfl:k=n:=lg;rw [Bp,List.replicate_zero,Ar] at hown;have hown:wr.ownsRow w 54 1 (zm (some ⟨g,0,none⟩) k k) qs.length (nb qs):=by rw [hqk];exact hown
   obtain ⟨a4,c4,ev,hrow⟩:=eG hown (fun x hx=>(hall x hx).in);rw [hqk] at ev;injection ev with e1 e2 e3;subst e1;subst e3;have an:mf qs=mf l:=by rw [hqs,Am (by rw [aD,HN.out];exact zo _)]
   have aq:=zk hrow;have HQ:=zk hqk;have a2:=zk (show wr.ownsRow w.heap.size 54 1 (zm (some ⟨g,0,none⟩) qs.length k) qs.length (nb qs) by have h:=hown;rw [hqk] at h ⊢;exact h);have a5:=zk an;have aa:=zk hall;clear hrow hown hqk hqs hall an;go_wp2;go_ret;exact ⟨_,k,qs,by rw [HQ.out];rfl,a5.out,aq.out,⟨g,rfl,Bq HG.out,aa.out⟩,a2.out,hbel⟩
def yh (w:zt) (size:Nat) (y:zw) (m:Nat) (news:List zw):Prop:=
 (y=zm none 0 0∧m=0∧news=[])∨∃ ad c,y=zm (some ad) m c∧news.length=m * size∧(∀ j u,news[j]? = some u→w (ad.add j)=some u)∧∀ u∈news,u.oneCell'=true
theorem UO {a:Option zx} {l:List mo} {c:Nat} (h:nz w ⟨a,l,c⟩):yh w 1 (zm a l.length c) l.length (nb l):=by
 cases a with
 | none =>
  have e0:l=[]:=h.len rfl;have e1:c=0:=h.nil rfl;subst e0;subst e1;exact .inl ⟨rfl,rfl,rfl⟩
 | some ad=>exact .inr ⟨ad,c,rfl,eN l,kN h.row,iZ l⟩
theorem rB {b:Nat} {a:Option zx} {c:Nat} {t:Ab} (h:l6 w b #[zm a n c] t):yh w 1 (zm (some ⟨b,0,none⟩) 1 1) 1 [zm a n c]:=
 .inr ⟨⟨b,0,none⟩,1,rfl,rfl,fun j u hj=>by
  match j,hj with
  | 0,hj=>simp at hj;subst hj;exact h.cell 0 _ rfl,fun u hu=>by
  obtain rfl:=A7.1 hu;rfl⟩
theorem aL {P:Program} (w:zt) {ops:Array Oper} {o:Oper} {a:Act} {K:Act→zt→Prop} {Q:Exit→Act→zt→Prop} {E:Prop} (hw:Region.wanted o (yielded ops a.tmps)=true) (s x:Operand) (t:Ab)
 (ho:o.op=.call { callee:=.builtin .append,args:=#[s,x],argTypes:=#[t,t] })
 (base:Nat) (e:Ab) (i:TypeInfo) (z:zw) (size bytes:Nat) (ht:P.underlying t=some (.slice e)) (hi:P.info? e=some i) (hz:i.zero=some z)
 (hsize:i.size=size) (hby:i.bytes=bytes) (hzs:z.cells.size=size) (hsz:0<size)
 (v:zw) (n:Nat) (xs:List zw) (hs:a.eval s=v) (hown:w.ownsRow base e size v n xs)
 (y:zw) (m:Nat) (news:List zw) (hx:a.eval x=y) (hsrc:yh w size y m news)
 (h63:n+m≤zz) (hbytes:(n+m) * bytes≤140737488355328) (hbase:base≤w)
 (h:∀ v' w',w'.ownsRow base e size v' (n+m) (xs++news)→w.grownBy w' v.ownBlock→K (a.put o.dst v') w') :
 if Region.wanted o (yielded ops a.tmps)=true then Oper.wp P o a w K Q else E:=by
 rw [if_pos hw];rcases hsrc with ⟨rfl,rfl,rfl⟩|⟨ad,c,rfl,hl,hnews,h1⟩
 ·have hrun:=run_append_owned_none (P:=P) (w:=w) base t o.type e i size ht hi v n xs hown;unfold Oper.wp;simp [execOp,ho,resolve,invoke,builtin,hs,hx,hrun,Result.andThen];exact h v w (by rw [Ar];exact hown) (World.grownBy.refl _ _)
 ·exact wp_append_own w s x t ho base e i z size bytes ht hi hz hsize hby hzs hsz v n xs hs hown ad m c news hx hl hnews h1 h63 hbytes hbase fun v' w' h2 h3 _=>h v' w' h2 h3
theorem sg.drop {base:Nat} {ad:zx} {l:List mo} {c:Nat} (h:sg w base ⟨some ad,l,c⟩) (n:Nat):sg w base ⟨some (ad.add n),l.drop n,c - n⟩:=
 ⟨vj.drop h.row n,fun x hx=>h.all x (List.mem_of_mem_drop hx),fun e=>(by cases e),by have h2:l.length≤c:=h.le;show (l.drop n).length≤c - n;rw [Ax];omega,by have h2:c≤zz:=h.cap;show c - n≤zz;omega⟩
set_option maxHeartbeats 3200000 in
theorem fR (a:Option zx) (l:List mo) (c:Nat) (y:mo) (w:zt) (hp:nz w ⟨a,l,c⟩) (hy:o0 w y) (hl:l.length≤900) :
 zv prog 76 #[zm a l.length c,oy y.a y.l.length y.c] w (pw w ((l++[y]).drop (l.length+1 - 16))):=by
 obtain ⟨i0,hi,ar,au,av⟩:=Ad dL;obtain ⟨ya,yl,yc⟩:=y;obtain ⟨n,hn⟩:∃ n,l.length=n:=⟨_,rfl⟩;obtain ⟨m,hm⟩:∃ n,yl.length=n:=⟨_,rfl⟩;simp only [hm];obtain ⟨W1,a2⟩:∃ W1,w.alloc (zn #[zm ya m yc] 54)=W1:=⟨_,rfl⟩;have b1:Below w w W1:=by rw [← a2];exact (Below.refl _ _).alloc (zo _) _
 have B1:=l6.new w #[zm ya m yc] 54;rw [a2] at B1;obtain ⟨L,hL⟩:∃ L,l++[(⟨ya,yl,yc⟩:mo)]=L:=⟨_,rfl⟩;have hLL:L.length=n+1:=by rw [← hL,An,hn];rfl
 have hFL:nb L=nb l++[zm ya m yc]:=by rw [← hL,lV,← hm];rfl
 have hAL:∀ w',Below W1 W1 w'→ws w' L:=fun w' hb x hx=>by
  rw [← hL] at hx;have a4:Below w w w':=b1.trans (hb.mono b1.size);rcases Br.1 hx with h|h
  ·exact (hp.later a4).all x h
  ·obtain rfl:=A7.1 h;exact hy.later a4
 have hsr:∀ w',Below W1 W1 w'→yh w' 1 (zm a n c) n (nb l):=fun w' hb=>by
  have h:=UO (hp.later (b1.trans (hb.mono b1.size)));rw [hn] at h;exact h
 have fs:∀ w',Below W1 W1 w'→Below W1 W1 w'∧w' ⟨w,0,none⟩=some (zm ya m yc):=fun w' h=>⟨h,(B1.onto h).cell 0 _ rfl⟩;rw [hL,hn];rw [hn] at hl;have ab:=zk hLL;have aw:=zk hFL;have ax:=zk hAL;have ay:=zk hsr;have FS:=zk fs;have ae:=zk b1;obtain ⟨Q,hQ⟩:∃ Q,L.drop (n+1 - 16)=Q:=⟨_,rfl⟩;rw [hQ];have K1:=zk hQ;clear hLL hFL hAL hsr fs b1 B1 hL hp hy hm hQ hn;go_enter func76,ntmps76;go_wp2_with fail;clear a2;refine A9 (S:=(fun w':zt=>Below W1 W1 w'∧w' ⟨w,0,none⟩=some (zm ya m yc))) lh (FS.out _ (Below.refl W1 W1).drew) (fun hHeld=>?_);refine lz 1 ?_;refine lz 3 ?_;refine Ap (rs:=[0,4]) lh li ?_;refine Ae (by simp only [rg];rfl) (fun K hK=>?_) (Ae (by simp only [rg];rfl) (fun K hK=>?_) Aq)
 ·go_simp;have aa:=zk ((Below.refl W1 W1).drew.alloc (Below.refl W1 W1).drew.size (zn #[] 54));have af:=zk (show (W1.drew.alloc (zn #[] 54)).ownsRow W1.heap.size 54 1 (zm (some ⟨W1.drew,0,none⟩) 0 0) 0 [] from Al W1.drew #[] 0 (Below.refl W1 W1).drew.size (Aa _) li)
  try go_wp2_with fail
  refine hK.out _ _ ?_ (fun hHeld=>?_)
  ·exact FS.out _ aa.out
  clear hK K
  try simp only [zq,mj]
  refine Ap (rs:=[2,4]) lh li ?_;refine Ae (by simp only [rg];rfl) (fun K hK=>?_) (Ae (by simp only [rg];rfl) (fun K hK=>?_) Aq)
  ·refine aL _ lm (.tmp 6) (.tmp 7) 23 rfl W1.heap.size 54 i0 _ 1 24 underlying23 hi ar au av rfl lj (zm (some ⟨W1,0,none⟩) 0 0) 0 ([]) rfl af.out (zm a n c) n (nb l) rfl (ay.out _ aa.out) lq lg aa.out.size ?_;intro v8 w6 az ao;have ad:=zk (aa.out.grown ao aa.out.size (aB af.out));have ai:=zk (show w6.ownsRow W1.heap.size 54 1 v8 n (nb l) by simpa using az);skip;refine hK.out _ _ ?_ (fun hHeld=>?_)
   ·exact FS.out _ ad.out
   clear hK K
   try simp only [zq,mj]
   refine m8 4 fun K hK=>?_;go_simp;have a6:=zk (l6.new w6 #[zm ya m yc] 54);have a0:=zk (ad.out.alloc ad.out.size (zn #[zm ya m yc] 54));have a5:=zk (ai.out.alloc (zn #[zm ya m yc] 54))
   try go_wp2_with fail
   refine hK.out _ _ ?_ (fun hHeld=>?_)
   ·exact FS.out _ a0.out
   clear hK K
   try simp only [zq,mj]
   refine m8 5 fun K hK=>?_;refine aL _ lm (.tmp 8) (.tmp 10) 23 rfl W1.heap.size 54 i0 _ 1 24 underlying23 hi ar au av rfl lj v8 n (nb l) rfl a5.out (zm (some ⟨w6,0,none⟩) 1 1) 1 [zm ya m yc] rfl (rB a6.out) lq lg (a0.out).size ?_;intro v9 w8 aj ak;have ag:=zk ((a0.out).grown ak (a0.out).size (aB (a5.out)));have al:w8.ownsRow W1 54 1 v9 L.length (nb L):=by rw [ab.out,aw.out];exact aj
   obtain ⟨a8,c8,ev,am⟩:=eG al (ax.out _ ag.out);rw [ab.out] at ev;subst ev;have ac:=zk am;clear am aj al ak;refine hK.out _ _ ?_ (fun hHeld=>?_)
   ·exact FS.out _ ag.out
   clear hK K
   try simp only [zq,mj]
   refine lz 6 ?_;refine Ah lh ?_ _;clear ax aw ay ai FS;obtain ⟨ad8,e8,-⟩:=ac.out.row 0 (by show 0<L.length;rw [ab.out];omega);have e8:a8=some ad8:=e8;subst e8;have hle:n+1≤c8:=by have h:L.length≤c8:=ac.out.le;rw [ab.out] at h;exact h
   have hcm:c8≤9223372036854775807:=by have h:c8≤zz:=ac.out.cap;unfold zz at h;omega
   have ah:=zk (ae.out.trans (ag.out.mono ae.out.size));by_cases g:n+1≤16
   ·have g2:(n:Int)+1≤16:=lg;have e0:L=Q:=by rw [← K1.out,show n+1 - 16=0 by omega,A8]
    subst e0;go_wp2;go_ret;exact ⟨some ad8,c8,by rw [ab.out];rfl,ac.out.mono ae.out.size,ah.out⟩
   ·obtain ⟨j,hj⟩:∃ j,n+1 - 16=j:=⟨_,rfl⟩;have g2:(16:Int)<(n:Int)+1:=lg;have g3:(n:Int)+1 - 16=(j:Int):=lg;have g4:(0:Int)≤(j:Int):=lg;have g5:(j:Int)≤(n:Int)+1:=lg;have g6:¬ c8=j:=lg;have hq:Q.length=n+1 - j:=by rw [← K1.out,Ax,ab.out,hj]
    have an:=zk ((ac.out.drop j).mono ae.out.size);rw [show L.drop j=Q by rw [← K1.out,hj]] at an;have HQ:=zk hq;clear hj hq;go_wp2;go_ret;exact ⟨some (ad8.add j),c8 - j,by rw [HQ.out];rfl,an.out,ah.out⟩
  ·go_simp;have aq:=zk (l6.new (W1.drew.alloc (zn #[] 54)) #[zm ya m yc] 54);replace aq:=zk (show l6 _ (W1+1) _ _ by have h:=aq.out;simpa using h);replace aa:=zk (aa.out.alloc aa.out.size (zn #[zm ya m yc] 54));replace af:=zk (af.out.alloc (zn #[zm ya m yc] 54))
   try go_wp2_with fail
   refine hK.out _ _ ?_ (fun hHeld=>?_)
   ·exact FS.out _ aa.out
   clear hK K
   try simp only [zq,mj]
   refine m8 2 fun K hK=>?_;refine aL _ lm (.tmp 6) (.tmp 7) 23 rfl W1.heap.size 54 i0 _ 1 24 underlying23 hi ar au av rfl lj (zm (some ⟨W1,0,none⟩) 0 0) 0 ([]) rfl af.out (zm a n c) n (nb l) rfl (ay.out _ aa.out) lq lg aa.out.size ?_;intro v8 w6 az ao;have ad:=zk (aa.out.grown ao aa.out.size (aB af.out));have ai:=zk (show w6.ownsRow W1.heap.size 54 1 v8 n (nb l) by simpa using az);have a3:=zk (dP aq.out ao (by simp [A5]));refine hK.out _ _ ?_ (fun hHeld=>?_)
   ·exact FS.out _ ad.out
   clear hK K
   try simp only [zq,mj]
   refine m8 5 fun K hK=>?_;refine aL _ lm (.tmp 8) (.tmp 10) 23 rfl W1.heap.size 54 i0 _ 1 24 underlying23 hi ar au av rfl lj v8 n (nb l) rfl ai.out (zm (some ⟨(W1.heap.size+1),0,none⟩) 1 1) 1 [zm ya m yc] rfl (rB a3.out) lq lg (ad.out).size ?_;intro v9 w8 aj ak;have ag:=zk ((ad.out).grown ak (ad.out).size (aB (ai.out)));have al:w8.ownsRow W1 54 1 v9 L.length (nb L):=by rw [ab.out,aw.out];exact aj
   obtain ⟨a8,c8,ev,am⟩:=eG al (ax.out _ ag.out);rw [ab.out] at ev;subst ev;have ac:=zk am;clear am aj al ak;refine hK.out _ _ ?_ (fun hHeld=>?_)
   ·exact FS.out _ ag.out
   clear hK K
   try simp only [zq,mj]
   refine lz 6 ?_;refine Ah lh ?_ _;clear ax aw ay ai FS;obtain ⟨ad8,e8,-⟩:=ac.out.row 0 (by show 0<L.length;rw [ab.out];omega);have e8:a8=some ad8:=e8;subst e8;have hle:n+1≤c8:=by have h:L.length≤c8:=ac.out.le;rw [ab.out] at h;exact h
   have hcm:c8≤9223372036854775807:=by have h:c8≤zz:=ac.out.cap;unfold zz at h;omega
   have ah:=zk (ae.out.trans (ag.out.mono ae.out.size));by_cases g:n+1≤16
   ·have g2:(n:Int)+1≤16:=lg;have e0:L=Q:=by rw [← K1.out,show n+1 - 16=0 by omega,A8]
    subst e0;go_wp2;go_ret;exact ⟨some ad8,c8,by rw [ab.out];rfl,ac.out.mono ae.out.size,ah.out⟩
   ·obtain ⟨j,hj⟩:∃ j,n+1 - 16=j:=⟨_,rfl⟩;have g2:(16:Int)<(n:Int)+1:=lg;have g3:(n:Int)+1 - 16=(j:Int):=lg;have g4:(0:Int)≤(j:Int):=lg;have g5:(j:Int)≤(n:Int)+1:=lg;have g6:¬ c8=j:=lg;have hq:Q.length=n+1 - j:=by rw [← K1.out,Ax,ab.out,hj]
    have an:=zk ((ac.out.drop j).mono ae.out.size);rw [show L.drop j=Q by rw [← K1.out,hj]] at an;have HQ:=zk hq;clear hj hq;go_wp2;go_ret;exact ⟨some (ad8.add j),c8 - j,by rw [HQ.out];rfl,an.out,ah.out⟩
 ·go_simp;have aq:=zk (l6.new W1.drew #[zm ya m yc] 54);have a1:=zk ((Below.refl W1 W1).drew.alloc (zo _) (zn #[zm ya m yc] 54))
  try go_wp2_with fail
  refine hK.out _ _ ?_ (fun hHeld=>?_)
  ·exact FS.out _ a1.out
  clear hK K
  try simp only [zq,mj]
  refine m8 0 fun K hK=>?_;go_simp;have aa:=zk (a1.out.alloc a1.out.size (zn #[] 54));have af:=zk (show ((W1.drew.alloc (zn #[zm ya m yc] 54)).alloc (zn #[] 54)).ownsRow W1.heap.size 54 1 (zm (some ⟨(W1.drew.alloc (zn #[zm ya m yc] 54)),0,none⟩) 0 0) 0 [] from Al (W1.drew.alloc (zn #[zm ya m yc] 54)) #[] 0 a1.out.size (Aa _) li);replace af:=zk (show World.ownsRow _ _ _ _ (zm (some ⟨W1+1,0,none⟩) 0 0) _ _ by have h:=af.out;simpa using h);replace aq:=zk (aq.out.alloc (zn #[] 54))
  try go_wp2_with fail
  refine hK.out _ _ ?_ (fun hHeld=>?_)
  ·exact FS.out _ aa.out
  clear hK K
  try simp only [zq,mj]
  refine m8 2 fun K hK=>?_;refine aL _ lm (.tmp 6) (.tmp 7) 23 rfl W1.heap.size 54 i0 _ 1 24 underlying23 hi ar au av rfl lj (zm (some ⟨W1+1,0,none⟩) 0 0) 0 ([]) rfl af.out (zm a n c) n (nb l) rfl (ay.out _ aa.out) lq lg aa.out.size ?_;intro v8 w6 az ao;have ad:=zk (aa.out.grown ao aa.out.size (aB af.out));have ai:=zk (show w6.ownsRow W1.heap.size 54 1 v8 n (nb l) by simpa using az);have a3:=zk (dP aq.out ao (by simp [A5]));refine hK.out _ _ ?_ (fun hHeld=>?_)
  ·exact FS.out _ ad.out
  clear hK K
  try simp only [zq,mj]
  refine m8 5 fun K hK=>?_;refine aL _ lm (.tmp 8) (.tmp 10) 23 rfl W1.heap.size 54 i0 _ 1 24 underlying23 hi ar au av rfl lj v8 n (nb l) rfl ai.out (zm (some ⟨W1.drew,0,none⟩) 1 1) 1 [zm ya m yc] rfl (rB a3.out) lq lg (ad.out).size ?_;intro v9 w8 aj ak;have ag:=zk ((ad.out).grown ak (ad.out).size (aB (ai.out)));have al:w8.ownsRow W1 54 1 v9 L.length (nb L):=by rw [ab.out,aw.out];exact aj
  obtain ⟨a8,c8,ev,am⟩:=eG al (ax.out _ ag.out);rw [ab.out] at ev;subst ev;have ac:=zk am;clear am aj al ak;refine hK.out _ _ ?_ (fun hHeld=>?_)
  ·exact FS.out _ ag.out
  clear hK K
  try simp only [zq,mj]
  refine lz 6 ?_;refine Ah lh ?_ _;clear ax aw ay ai FS;obtain ⟨ad8,e8,-⟩:=ac.out.row 0 (by show 0<L.length;rw [ab.out];omega);have e8:a8=some ad8:=e8;subst e8;have hle:n+1≤c8:=by have h:L.length≤c8:=ac.out.le;rw [ab.out] at h;exact h
  have hcm:c8≤9223372036854775807:=by have h:c8≤zz:=ac.out.cap;unfold zz at h;omega
  have ah:=zk (ae.out.trans (ag.out.mono ae.out.size));by_cases g:n+1≤16
  ·have g2:(n:Int)+1≤16:=lg;have e0:L=Q:=by rw [← K1.out,show n+1 - 16=0 by omega,A8]
   subst e0;go_wp2;go_ret;exact ⟨some ad8,c8,by rw [ab.out];rfl,ac.out.mono ae.out.size,ah.out⟩
  ·obtain ⟨j,hj⟩:∃ j,n+1 - 16=j:=⟨_,rfl⟩;have g2:(16:Int)<(n:Int)+1:=lg;have g3:(n:Int)+1 - 16=(j:Int):=lg;have g4:(0:Int)≤(j:Int):=lg;have g5:(j:Int)≤(n:Int)+1:=lg;have g6:¬ c8=j:=lg;have hq:Q.length=n+1 - j:=by rw [← K1.out,Ax,ab.out,hj]
   have an:=zk ((ac.out.drop j).mono ae.out.size);rw [show L.drop j=Q by rw [← K1.out,hj]] at an;have HQ:=zk hq;clear hj hq;go_wp2;go_ret;exact ⟨some (ad8.add j),c8 - j,by rw [HQ.out];rfl,an.out,ah.out⟩
end Go.Proofs.YtbagenpobcgjnaaGreat
