/-
  Joined: StkRef2, StkDev3, StkDev4, StkDev5.
-/
import Derived.Test.YtbagenpobcgjnaaGreatJStkRow
import Derived.Test.YtbagenpobcgjnaaGreatJStepRef2
import Derived.Deep.RegionWith
import Derived.Test.YtbagenpobcgjnaaGreatJStepRef
namespace Go.Proofs.YtbagenpobcgjnaaGreat
open Go.Proofs.Tryz
set_option maxRecDepth 100000
open Lib (hid)
open Go.RowKit
set_option linter.unusedVariables false
set_option linter.unusedSimpArgs false
theorem zF {a b:List EPc} {k:Nat} (h:∀ j,j<k→(a[j]!).l=(b[j]!).l):(a[k]!).l=(b[k]!).l→∀ j,j<k+1→(a[j]!).l=(b[j]!).l:=fun e j hj=>by
 rcases Nat.lt_or_ge j k with g|g
 ·exact h j g
 ·obtain rfl:j=k:=by omega
  exact e
theorem EG {a b:List EPc} (hl:a.length=b.length) (h:∀ j,j<a.length→(a[j]!).l=(b[j]!).l):lsP a=lsP b:=by
 refine List.ext_getElem (by rw [aG,aG,hl]) fun j h1 h2=>?_
 have g1:j<a.length:=by rwa [aG] at h1
 have:=h j g1
 rw [epget g1,epget (by omega)] at this
 simpa [lsP] using this
theorem IR {a b:List EPc} {k:Nat} (ha:k<a.length) (hb:k<b.length) (h:lsP a=lsP b):(a[k]!).l=(b[k]!).l:=by
 rw [← eI a k ha,← eI b k hb,h]
set_option maxHeartbeats 1600000 in
theorem jV (a b:Option Addr) (la lb:List EPc) (c d:Nat) (w:World) (ha:SPcs w ⟨a,la,c⟩) (hb:SPcs w ⟨b,lb,d⟩) (h1:∀ x∈la,x.l.length≤1000000) (h2:∀ x∈lb,x.l.length≤1000000) :
 Calls prog 24 #[.slice a la.length c,.slice b lb.length d] w fun e w'=>e=.returned (.bool (decide (lsP la=lsP lb)))∧Below w.heap.size w w':=by
 by_cases hne:la.length=lb.length
 case neg =>
  have h0:decide (lsP la=lsP lb)=false:=decide_eq_false fun e=>hne (by rw [← aG la,e,aG])
  rw [h0]
  have ab:la.length≤maxLen:=Nat.le_trans ha.le ha.cap
  have aj:lb.length≤maxLen:=Nat.le_trans hb.le hb.cap
  unfold maxLen at ab aj
  obtain ⟨n,hn⟩:∃ n,la.length=n:=⟨_,rfl⟩
  obtain ⟨m,hm⟩:∃ n,lb.length=n:=⟨_,rfl⟩
  rw [hn] at hne ab ⊢
  rw [hm] at hne aj ⊢
  clear hn hm ha hb h1 h2
  have ak:¬ (n:Int)=(m:Int):=by omega
  go_enter func24,ntmps24
  go_wp2
  go_ret
  exact ⟨rfl,Below.refl _ _⟩
 have HE:=hid hne
 have ab:la.length≤maxLen:=Nat.le_trans ha.le ha.cap
 unfold maxLen at ab
 rw [← hne]
 obtain ⟨n,hn⟩:∃ n,la.length=n:=⟨_,rfl⟩
 obtain ⟨r,hfr⟩:∃ r,decide (lsP la=lsP lb)=r:=⟨_,rfl⟩
 rw [hfr]
 rw [hn] at ab ⊢
 have HN:=hid hn;have HA:=hid ha;have HB:=hid hb;have H1:=hid h1;have H2:=hid h2;have HF:=hid hfr
 clear hn ha hb h1 h2 hfr hne
 go_enter func24,ntmps24
 go_wp2
 go_loopw [5] (fun i wr=>∃ k:Nat,k≤n∧i=.int .i64 k∧(∀ j,j<k→(la[j]!).l=(lb[j]!).l)∧Below w.heap.size w wr) (fun i _=>n - (intOf i).toNat)
 case atStart=>exact ⟨0,Nat.zero_le _,rfl,fun j hj=>absurd hj (Nat.not_lt_zero _),Below.refl _ _⟩
 case round =>
  obtain ⟨k,hk,rfl,hall,hbel⟩:=hrel
  by_cases hlt:k<n
  ·have hkl:k<la.length:=by rw [HN.out];exact hlt
   have aa:k<lb.length:=by rw [← HE.out];exact hkl
   have hpa:=HA.out.later hbel
   have hpb:=HB.out.later hbel
   obtain ⟨ad,rfl,hab,q0⟩:=hpa.row k hkl
   obtain ⟨bd,rfl,hbb,r0⟩:=hpb.row k aa
   have ag:=hpa.all.at k hkl
   have ah:=hpb.all.at k aa
   have ae:=H1.out (la[k]!) (by rw [epget hkl];exact List.getElem_mem hkl)
   have af:=H2.out (lb[k]!) (by rw [epget aa];exact List.getElem_mem aa)
   have hyes:=zF (a:=la) (b:=lb) hall
   have hno:¬ (la[k]!).l=(lb[k]!).l→decide (lsP la=lsP lb)=false:=fun h=>decide_eq_false fun e=>h (IR hkl aa e)
   obtain ⟨x,hx⟩:∃ x,la[k]! = x:=⟨_,rfl⟩
   obtain ⟨y,hy⟩:∃ x,lb[k]! = x:=⟨_,rfl⟩
   rw [hx] at q0 ag ae hyes hno
   rw [hy] at r0 ah af hyes hno
   obtain ⟨xa,xl,xc⟩:=x
   obtain ⟨ya,yl,yc⟩:=y
   simp only [EPc.v] at q0 r0 ae af hyes hno
   have cs:=mJ xa ya xl yl xc yc wr.drew (by exact ag.row) (by exact ah.row) ae af
   obtain ⟨p,hp⟩:∃ p,xl.length=p:=⟨_,rfl⟩
   obtain ⟨q,hq⟩:∃ p,yl.length=p:=⟨_,rfl⟩
   rw [hp] at q0 cs
   rw [hq] at r0 cs
   have b0:(0:Int)≤(k:Int):=by omega
   have b1:(k:Int)<(n:Int):=by omega
   have q1:wr.drew.cell? (ad.add k)=some (.slice xa p xc):=q0
   have r1:wr.drew.cell? (bd.add k)=some (.slice ya q yc):=r0
   clear hall hx hy hab hbb hpa hpb ag ah ae af hp hq
   by_cases he:xl=yl
   ·rw [decide_eq_true he] at cs
    have HY:=hid (hyes he);have CS:=hid cs
    clear hyes hno cs
    go_wp2_with fail
    go_region_with (go_at_call 25;refine CS.out.mono ?_;rintro e w1 ⟨rfl,ac⟩)
    all_goals
     have ai:=hid (hbel.trans (((Below.refl wr.heap.size wr).drew.trans ac).mono hbel.size))
     clear ac q0 q1 r0 r1
     go_wp2
     go_roundw
     case rel=>exact ⟨k+1,by omega,by go_num,HY.out,ai.out⟩
     case measure=>simp [intOf];omega
   ·rw [decide_eq_false he] at cs
    have h0:=hno he
    rw [HF.out] at h0
    subst h0
    have CS:=hid cs
    clear hyes hno cs
    go_wp2_with fail
    go_region_with (go_at_call 25;refine CS.out.mono ?_;rintro e w1 ⟨rfl,ac⟩)
    all_goals
     have ai:=hid (hbel.trans (((Below.refl wr.heap.size wr).drew.trans ac).mono hbel.size))
     clear ac q0 q1 r0 r1
     go_wp2
     go_ret
     exact ⟨rfl,ai.out⟩
  ·obtain rfl:k=n:=by omega
   have h0:r=true:=by
    rw [← HF.out]
    exact decide_eq_true (EG HE.out (by rw [HN.out];exact hall))
   subst h0
   clear hall
   go_wp2
   go_ret
   exact ⟨rfl,hbel⟩
set_option maxHeartbeats 1600000 in
theorem FK (ad:Addr) (l:List EPc) (c:Nat) (y:EPc) (w:World) (hp:SPcs w ⟨some ad,l,c⟩) (hy:EPcs w y) (hl:l.length≤900) :
 Calls prog 206 #[.slice (some ad) l.length c,stpV y.a y.l.length y.c,.int .i64 16] w (RetSRow w ((l++[y]).drop (l.length+1 - 16))):=by
 obtain ⟨ya,yl,yc⟩:=y
 obtain ⟨n,hn⟩:∃ n,l.length=n:=⟨_,rfl⟩
 obtain ⟨m,hm⟩:∃ n,yl.length=n:=⟨_,rfl⟩
 simp only [hm]
 obtain ⟨W1,aa⟩:∃ W1,w.alloc (.cells #[.slice ya m yc] 54)=W1:=⟨_,rfl⟩
 have b1:Below w.heap.size w W1:=by rw [← aa];exact (Below.refl _ _).alloc (Nat.le_refl _) _
 have B1:=Blk.new w #[.slice ya m yc] 54
 rw [aa] at B1
 have x0:W1.drew.cell? ⟨w.heap.size,0,none⟩=some (.slice ya m yc):=B1.cell 0 _ rfl
 have hcm:c≤maxLen:=hp.cap
 have hnc:l.length≤c:=hp.le
 rw [hn] at hnc hl ⊢
 unfold maxLen at hcm
 obtain ⟨j,hj⟩:∃ j,n+1 - 16=j:=⟨_,rfl⟩
 have ab:IntKind.i64.wrap ((n:Int)+1)=(n:Int)+1:=IntWalk.i64_in _ (by omega)
 have ac:IntKind.i64.wrap ((n:Int)+1 - 16)=(n:Int)+1 - 16:=IntWalk.i64_in _ (by omega)
 have hM:max 0 ((n:Int)+1 - 16)=(j:Int):=by omega
 have ae:(0:Int)≤(j:Int):=by omega
 have af:(j:Int)≤(n:Int):=by omega
 have hA:(if c=j then some ad else some (ad.add j))=some (ad.add j):=by
  split
  ·rw [show j=0 by omega];rfl
  ·rfl
 have e0:(l++[(⟨ya,yl,yc⟩:EPc)]).drop (n+1 - 16)=l.drop j++[⟨ya,yl,yc⟩]:=by rw [hj,List.drop_append_of_le_length (by omega)]
 rw [e0]
 obtain ⟨W,hW⟩:∃ W,W1.drew.alloc (.cells #[.slice ya m yc] 54)=W:=⟨_,rfl⟩
 have b2:Below W1.heap.size W1 W:=by rw [← hW];exact ((Below.refl W1.heap.size W1).drew).alloc (Nat.le_refl _) _
 have B2:Blk W W1.heap.size #[.slice ya m yc] 54:=by rw [← hW];exact Blk.new W1.drew _ _
 have z2:W.heap.size=W1.heap.size+1:=by rw [← hW];simp
 have hpW:=(hp.later (b1.trans (b2.mono b1.size))).drop j
 have hyW:=hy.later (b1.trans (b2.mono b1.size))
 have hq:SPcs W ⟨some ⟨W1.heap.size,0,none⟩,[⟨ya,yl,yc⟩],1⟩:=⟨fun k hk=>by
  match k,hk with
  | 0,_=>exact ⟨_,rfl,by show W1.heap.size<W.heap.size;omega,by rw [← hm] at B2;exact B2.cell 0 _ rfl⟩,fun x hx=>by obtain rfl:=List.mem_singleton.1 hx;exact hyW,fun e=>(by cases e),Nat.le_refl _,by show 1≤maxLen;decide⟩
 have cc:=scat2 (n - j) 1 hpW hq (by rw [List.length_drop,hn]) rfl (by omega) 166
 simp only at cc
 rw [← hW,show (W1.drew.alloc (.cells #[.slice ya m yc] 54)).heap.size=W1.heap.size+1 by simp] at cc
 have hfin:∀ (L:List EPc) (e:Ending) (w':World),RetSRow ((W1.drew.alloc (.cells #[.slice ya m yc] 54)).alloc (.cells #[.slice (some (ad.add j)) (n - j) (c - j),.slice (some ⟨W1.heap.size,0,none⟩) 1 1] 166)) L e w'→RetSRow w L e w':=fun L e w' ⟨a',c',he,hr,hb⟩=>by
  have z:w.heap.size≤((W1.drew.alloc (.cells #[.slice ya m yc] 54)).alloc (.cells #[.slice (some (ad.add j)) (n - j) (c - j),.slice (some ⟨W1.heap.size,0,none⟩) 1 1] 166)).heap.size:=by have:=b1.size;simp;omega
  refine ⟨a',c',he,hr.mono z,?_⟩
  exact (((b1.drew).alloc b1.size _).alloc (by have:=b1.size;simp;omega) _).trans (hb.mono z)
 obtain ⟨L,hL⟩:∃ L,l.drop j++[(⟨ya,yl,yc⟩:EPc)]=L:=⟨_,rfl⟩
 rw [hL] at cc ⊢
 have cc:Calls prog 215 #[.slice (some ⟨W1.heap.size+1,0,none⟩) 2 2] ((W1.alloc (.cells #[.slice ya m yc] 54)).alloc (.cells #[.slice (some (ad.add j)) (n - j) (c - j),.slice (some ⟨W1.heap.size,0,none⟩) 1 1] 166)).drew (RetSRow ((W1.drew.alloc (.cells #[.slice ya m yc] 54)).alloc (.cells #[.slice (some (ad.add j)) (n - j) (c - j),.slice (some ⟨W1.heap.size,0,none⟩) 1 1] 166)) L):=cc
 have CC:=hid cc;have HF:=hid (hfin L)
 clear cc hfin hq hyW hpW B2 b2 z2 hW hp hy hn hm b1 B1 e0 hj hL
 go_enter func206,ntmps206
 go_wp2
 go_region_with (go_at_call 215;refine CC.out.mono ?_;intro e w2 hr;have HR:=hid (HF.out _ _ hr);obtain ⟨a2,c2,rfl,-,-⟩:=hr)
 all_goals go_wp2
 all_goals go_ret
 all_goals exact HR.out
set_option maxHeartbeats 1600000 in
theorem BS (y:EPc) (w:World) (hy:EPcs w y) :
 Calls prog 206 #[.slice none 0 0,stpV y.a y.l.length y.c,.int .i64 16] w (RetSRow w [y]):=by
 obtain ⟨ya,yl,yc⟩:=y
 obtain ⟨m,hm⟩:∃ n,yl.length=n:=⟨_,rfl⟩
 simp only [hm]
 obtain ⟨W1,aa⟩:∃ W1,w.alloc (.cells #[.slice ya m yc] 54)=W1:=⟨_,rfl⟩
 have b1:Below w.heap.size w W1:=by rw [← aa];exact (Below.refl _ _).alloc (Nat.le_refl _) _
 have B1:=Blk.new w #[.slice ya m yc] 54
 rw [aa] at B1
 have x0:W1.drew.cell? ⟨w.heap.size,0,none⟩=some (.slice ya m yc):=B1.cell 0 _ rfl
 obtain ⟨W,hW⟩:∃ W,W1.drew.alloc (.cells #[.slice ya m yc] 54)=W:=⟨_,rfl⟩
 have b2:Below W1.heap.size W1 W:=by rw [← hW];exact ((Below.refl W1.heap.size W1).drew).alloc (Nat.le_refl _) _
 have B2:Blk W W1.heap.size #[.slice ya m yc] 54:=by rw [← hW];exact Blk.new W1.drew _ _
 have z2:W.heap.size=W1.heap.size+1:=by rw [← hW];simp
 have hyW:=hy.later (b1.trans (b2.mono b1.size))
 have hq:SPcs W ⟨some ⟨W1.heap.size,0,none⟩,[⟨ya,yl,yc⟩],1⟩:=⟨fun k hk=>by
  match k,hk with
  | 0,_=>exact ⟨_,rfl,by show W1.heap.size<W.heap.size;omega,by rw [← hm] at B2;exact B2.cell 0 _ rfl⟩,fun x hx=>by obtain rfl:=List.mem_singleton.1 hx;exact hyW,fun e=>(by cases e),Nat.le_refl _,by show 1≤maxLen;decide⟩
 have cc:=scat2 0 1 (SPcs.empty W) hq rfl rfl (by omega) 166
 simp only [List.nil_append] at cc
 rw [← hW,show (W1.drew.alloc (.cells #[.slice ya m yc] 54)).heap.size=W1.heap.size+1 by simp] at cc
 have hfin:∀ (L:List EPc) (e:Ending) (w':World),RetSRow ((W1.drew.alloc (.cells #[.slice ya m yc] 54)).alloc (.cells #[.slice none 0 0,.slice (some ⟨W1.heap.size,0,none⟩) 1 1] 166)) L e w'→RetSRow w L e w':=fun L e w' ⟨a',c',he,hr,hb⟩=>by
  have z:w.heap.size≤((W1.drew.alloc (.cells #[.slice ya m yc] 54)).alloc (.cells #[.slice none 0 0,.slice (some ⟨W1.heap.size,0,none⟩) 1 1] 166)).heap.size:=by have:=b1.size;simp;omega
  refine ⟨a',c',he,hr.mono z,?_⟩
  exact (((b1.drew).alloc b1.size _).alloc (by have:=b1.size;simp;omega) _).trans (hb.mono z)
 obtain ⟨L,hL⟩:∃ L,[(⟨ya,yl,yc⟩:EPc)]=L:=⟨_,rfl⟩
 rw [hL] at cc ⊢
 have cc:Calls prog 215 #[.slice (some ⟨W1.heap.size+1,0,none⟩) 2 2] ((W1.alloc (.cells #[.slice ya m yc] 54)).alloc (.cells #[.slice none 0 0,.slice (some ⟨W1.heap.size,0,none⟩) 1 1] 166)).drew (RetSRow ((W1.drew.alloc (.cells #[.slice ya m yc] 54)).alloc (.cells #[.slice none 0 0,.slice (some ⟨W1.heap.size,0,none⟩) 1 1] 166)) L):=cc
 have CC:=hid cc;have HF:=hid (hfin L)
 clear cc hfin hq hyW B2 b2 z2 hW hy hm b1 B1 hL
 go_enter func206,ntmps206
 go_wp2
 go_region_with (go_at_call 215;refine CC.out.mono ?_;intro e w2 hr;have HR:=hid (HF.out _ _ hr);obtain ⟨a2,c2,rfl,-,-⟩:=hr)
 all_goals go_wp2
 all_goals go_ret
 all_goals exact HR.out
theorem KG (a:Option Addr) (l:List EPc) (c:Nat) (y:EPc) (w:World) (hp:SPcs w ⟨a,l,c⟩) (hy:EPcs w y) (hl:l.length≤900) :
 Calls prog 206 #[.slice a l.length c,stpV y.a y.l.length y.c,.int .i64 16] w (RetSRow w ((l++[y]).drop (l.length+1 - 16))):=by
 cases a with
 | some ad=>exact FK ad l c y w hp hy hl
 | none =>
  have e0:l=[]:=hp.len rfl
  have e1:c=0:=hp.nil rfl
  subst e0
  subst e1
  exact BS y w hy
set_option maxHeartbeats 1600000 in
theorem fX (a:Option Addr) (l:List EPc) (c:Nat) (y:EPc) (w:World) (hp:SPcs w ⟨a,l,c⟩) (hy:EPcs w y) (hl:l.length≤900) (hb:∀ x∈l,x.l.length≤1000000) (hb2:y.l.length≤1000000) :
 Calls prog 184 #[.slice a l.length c,stpV y.a y.l.length y.c] w (RetStk w (pushL (lsP l) y.l)):=by
 obtain ⟨ya,yl,yc⟩:=y
 simp only at hb2
 obtain ⟨W1,ab⟩:∃ W1,w.alloc (.cells #[.slice ya yl.length yc] 54)=W1:=⟨_,rfl⟩
 have b1:Below w.heap.size w W1:=by rw [← ab];exact (Below.refl _ _).alloc (Nat.le_refl _) _
 have B1:=Blk.new w #[.slice ya yl.length yc] 54
 rw [ab] at B1
 have x0:W1.cell? ⟨w.heap.size,0,none⟩=some (.slice ya yl.length yc):=B1.cell 0 _ rfl
 have cp:=KG a l c ⟨ya,yl,yc⟩ W1 (hp.later b1) (hy.later b1) hl
 have he:lsP ((l++[(⟨ya,yl,yc⟩:EPc)]).drop (l.length+1 - 16))=pushL (lsP l) yl:=by
  unfold pushL
  rw [GU,pH,aG]
  rfl
 have hlen:((l++[(⟨ya,yl,yc⟩:EPc)]).drop (l.length+1 - 16)).length≤1000:=by rw [List.length_drop,List.length_append];simp;omega
 have hbb:∀ x∈(l++[(⟨ya,yl,yc⟩:EPc)]).drop (l.length+1 - 16),x.l.length≤1000000:=fun x hx=>by
  rcases List.mem_append.1 (List.mem_of_mem_drop hx) with h|h
  ·exact hb x h
  ·obtain rfl:=List.mem_singleton.1 h
   exact hb2
 obtain ⟨n,hn⟩:∃ n,l.length=n:=⟨_,rfl⟩
 obtain ⟨m,hm⟩:∃ n,yl.length=n:=⟨_,rfl⟩
 rw [hn] at cp he hlen hbb
 obtain ⟨Q,hQ⟩:∃ Q,(l++[(⟨ya,yl,yc⟩:EPc)]).drop (n+1 - 16)=Q:=⟨_,rfl⟩
 rw [hQ] at cp he hlen hbb
 simp only [hm] at cp x0 ab ⊢
 rw [hn]
 rw [← he]
 have ce:=fun a2 c2 w2 (h:SRow w2 W1.heap.size ⟨a2,Q,c2⟩)=>uT a2 Q c2 w2 h.in hlen hbb
 obtain ⟨q,hq⟩:∃ q,Q.length=q:=⟨_,rfl⟩
 have cp:Calls prog 206 #[.slice a n c,stpV ya m yc,.int .i64 16] W1 fun e w2=>∃ a2 c2,e=.returned (.slice a2 q c2)∧SRow w2 W1.heap.size ⟨a2,Q,c2⟩∧Below W1.heap.size W1 w2:=by rw [← hq];exact cp
 rw [hq] at ce
 have CP:=hid cp;have CE:=hid ce;have ac:=hid b1
 clear cp ce b1 B1 hp hy hb hb2 hlen hbb hQ he hq hn hm
 go_enter func184,ntmps184
 go_wp2_with fail
 refine CP.out.mono ?_
 rintro e w2 ⟨a2,c2,rfl,ad,hb2⟩
 have aa:=hid (ac.out.trans (hb2.mono ac.out.size));have aj:=hid ad;clear ad hb2
 go_wp2_with fail
 refine (CE.out _ _ _ aj.out).mono ?_
 rintro e w3 ⟨a3,c3,l3,rfl,ak,ae,⟨g3,eg3,af,ag⟩,ah,ai⟩
 have al:=hid (aa.out.trans (ai.mono aa.out.size));have am:=hid (ae.mono aa.out.size);have an:=hid (show ∃ g,a3=some ⟨g,0,none⟩∧w.heap.size≤g∧∀ x∈l3,ERow w3 (g+1) x from ⟨g3,eg3,Nat.le_trans aa.out.size af,ag⟩);have ao:=hid (mP ah aa.out.size);clear ae ai ag ah eg3 af
 go_wp2
 go_ret
 exact ⟨a3,c3,l3,rfl,ak,am.out,an.out,ao.out,al.out⟩
def RetPop (w:World) (L:List (List Edt)) (s:List Edt) (e:Ending) (w':World):Prop:=
 ∃ a c l a2 c2,e=.returned (.tuple #[.slice a l.length c,stpV a2 s.length c2,.int .i64 0])∧lsP l=L∧SRow w' w.heap.size ⟨a,l,c⟩∧(∀ x∈l,ERow w' w.heap.size x)∧ERow w' w.heap.size ⟨a2,s,c2⟩∧Below w.heap.size w w'
set_option maxHeartbeats 800000 in
theorem kX (a:Option Addr) (c:Nat) (w:World) :
 Calls prog 183 #[.slice a 0 c] w fun e w'=>e=.returned (.tuple #[.slice none 0 0,stpV none 0 0,.int .i64 10])∧Below w.heap.size w w':=by
 obtain ⟨W,hW⟩:∃ W,w.alloc (.cells #[.slice none 0 0] 54)=W:=⟨_,rfl⟩
 have ac:Below w.heap.size w W:=by rw [← hW];exact (Below.refl w.heap.size w).alloc (Nat.le_refl _) _
 have B:=Blk.new w #[.slice none 0 0] 54
 rw [hW] at B
 have ab:=hid ac;have ad:=hid B;have cp:=sR a c W
 have CP:=hid cp
 clear ac B cp
 go_enter func183,ntmps183
 go_wp2_with fail
 refine CP.out.mono ?_
 rintro e w1 ⟨rfl,aa⟩
 have B1:=ad.out.onto aa
 have B2:=B1.alloc (.cells #[.slice none 0 0] 54)
 have q2:(w1.alloc (.cells #[.slice none 0 0] 54)).cell? ⟨w.heap.size,0,none⟩=some (.slice none 0 0):=B2.cell 0 _ rfl
 have q4:((w1.alloc (.cells #[.slice none 0 0] 54)).setCell ⟨w.heap.size,0,none⟩ (.slice none 0 0)).cell? ⟨w.heap.size,0,none⟩=some (.slice none 0 0):=World.cell?_setCell_same' _ _ _ (by rw [q2];rfl)
 have q3:=B2.free 0
 have ae:=hid ((((ab.out.trans (aa.mono ab.out.size)).alloc (Nat.le_trans ab.out.size aa.size) (.cells #[.slice none 0 0] 54))).setCell (p:=⟨w.heap.size,0,none⟩) (Nat.le_refl _) (.slice none 0 0))
 clear B1 B2 aa
 go_wp2
 refine bodyPost_ret (v:=.tuple #[.slice none 0 0,stpV none 0 0,.int .i64 10]) (by simp [results,results183,go_sem,q4]) rfl ?_
 exact ⟨rfl,ae.out⟩
set_option maxHeartbeats 1600000 in
theorem kU (a:Option Addr) (l:List EPc) (c k:Nat) (w:World) (hp:SPcs w ⟨a,l,c⟩) (hl:l.length=k+1) (hk:k≤900) (hb:∀ x∈l,x.l.length≤1000000) :
 Calls prog 183 #[.slice a (k+1:Nat) c] w (RetPop w ((lsP l).take k) (l[k]!).l):=by
 obtain ⟨ad,ha,hab,hcell⟩:=hp.row k (by show k<l.length;omega)
 have ha:a=some ad:=ha
 subst ha
 have hcell:w.cell? (ad.add k)=some (l[k]!).v:=hcell
 have ag:EPcs w (l[k]!):=hp.all.at k (by show k<l.length;omega)
 have ah:=hb (l[k]!) (by rw [epget (show k<l.length by omega)];exact List.getElem_mem _)
 have hkc:k+1≤c:=by have h:l.length≤c:=hp.le;omega
 have hcm:c≤maxLen:=hp.cap
 obtain ⟨y,hy⟩:∃ y,l[k]! = y:=⟨_,rfl⟩
 rw [hy] at hcell ag ah ⊢
 obtain ⟨W,hW⟩:∃ W,w.alloc (.cells #[.slice none 0 0] 54)=W:=⟨_,rfl⟩
 have ab:Below w.heap.size w W:=by rw [← hW];exact (Below.refl w.heap.size w).alloc (Nat.le_refl _) _
 have hbs:w.heap.size<W.heap.size:=by rw [← hW];simp
 have B:=Blk.new w #[.slice none 0 0] 54
 rw [hW] at B
 have hlt:=World.block_lt_of_cell? w _ hcell
 have cp:=tH ad c k y W ((ab.cell hlt).trans hcell) hkc hcm
 have hpt:=(hp.later ab).take k
 have hlk:(l.take k).length=k:=by rw [List.length_take];omega
 have ce:=fun w2 (h:Below W.heap.size W w2)=>uT (some ad) (l.take k) c w2 (hpt.later h) (by omega) (fun x hx=>hb x (List.mem_of_mem_take hx))
 rw [hlk,KI] at ce
 obtain ⟨ya,yl,yc⟩:=y
 simp only at cp ag ah ⊢
 have co:=fun w2 (h:Below W.heap.size W w2)=>xT ya yl yc w2 ((ag.later ab).later h) ah
 obtain ⟨m,hm⟩:∃ m,yl.length=m:=⟨_,rfl⟩
 have co:∀ w2,Below W.heap.size W w2→Calls prog 205 #[stpV ya m yc] w2 fun e w'=>∃ a2 c2,e=.returned (stpV a2 m c2)∧ERow w' w2.heap.size ⟨a2,yl,c2⟩∧Below w2.heap.size w2 w':=fun w2 h=>by rw [← hm];exact co w2 h
 rw [hm] at cp
 have HM:=hid hm
 have ak:=hid ab;have aw:=hid B;have CP:=hid cp;have CE:=hid ce;have CO:=hid co;have ax:=hid hbs
 obtain ⟨L,hL⟩:∃ L,(lsP l).take k=L:=⟨_,rfl⟩
 rw [hL] at CE ⊢
 clear ab B cp ce co hp hl hb ag ah hcell hy hlt hpt hlk hm hkc hcm hab hbs hL
 go_enter func183,ntmps183
 go_wp2_with fail
 refine CP.out.mono ?_
 rintro e w1 ⟨rfl,ac⟩
 have ay:=hid (Nat.lt_of_lt_of_le ax.out ac.size)
 have HX:=hid (Blk.new w1 #[.slice ya m yc] 54)
 have HK:=hid ((aw.out.onto ac).alloc (.cells #[.slice ya m yc] 54))
 have aa:=hid (ac.alloc ac.size (.cells #[.slice ya m yc] 54))
 obtain ⟨w2,az⟩:∃ w2,w1.alloc (.cells #[.slice ya m yc] 54)=w2:=⟨_,rfl⟩
 rw [az] at HX HK aa
 have x0:w2.drew.cell? ⟨w1.heap.size,0,none⟩=some (.slice ya m yc):=HX.out.cell 0 _ rfl
 have al:=hid HX.out.lt
 clear ac
 go_wp2
 go_region_with (first
  | (go_at_call 204;refine (CE.out _ aa.out.drew).mono ?_;rintro e w3 ⟨a3,c3,l3,rfl,am,an,⟨g3,-,ao,aq⟩,-,ae⟩;have ae:Below w2.heap.size w2 w3:=((Below.refl w2.heap.size w2).drew).trans ae;have x1:=(ae.cell (p:=⟨w1.heap.size,0,none⟩) al.out).trans x0;have ai:=hid ae;have a0:=hid an;have a1:=hid (fun x hx=>(aq x hx).mono (b2:=w2.heap.size) (Nat.le_succ_of_le ao));have a5:=hid am;clear ae an aq am ao)
  | (go_at_call 205;refine (CO.out _ (aa.out.trans (ai.out.mono aa.out.size))).mono ?_;rintro e w4 ⟨a4,c4,rfl,ar,aj⟩;have au:=hid (ai.out.trans (aj.mono ai.out.size));have a6:=hid ar;have a7:=hid (a0.out.below aj);have a8:=hid (fun x hx=>(a1.out x hx).below aj);have k5:=HK.out.onto au.out;have x5:w4.cell? ⟨w.heap.size,0,none⟩=some (.slice none 0 0):=k5.cell 0 _ rfl;have x6:=k5.free 0;clear aj ar k5))
 all_goals
  have q4:(w4.setCell ⟨w.heap.size,0,none⟩ (.slice a4 m c4)).cell? ⟨w.heap.size,0,none⟩=some (.slice a4 m c4):=World.cell?_setCell_same' _ _ _ (by rw [x5];rfl)
  go_wp2
  refine bodyPost_ret (v:=.tuple #[.slice a3 l3.length c3,stpV a4 m c4,.int .i64 0]) (by simp [results,results183,go_sem,q4]) rfl ?_
  have af:w.heap.size<w2.heap.size:=Nat.lt_trans ay.out al.out
  have av:w.heap.size<w3.heap.size:=Nat.lt_of_lt_of_le af ai.out.size
  exact ⟨a3,c3,l3,a4,c4,by rw [HM.out],a5.out,(a7.out.set (p:=⟨w.heap.size,0,none⟩) af x5 _).mono (Nat.le_of_lt af),fun x hx=>((a8.out x hx).set (p:=⟨w.heap.size,0,none⟩) af _).mono (Nat.le_of_lt af),(a6.out.set (p:=⟨w.heap.size,0,none⟩) av _).mono (Nat.le_of_lt av),(ak.out.trans ((aa.out.trans (au.out.mono aa.out.size)).mono ak.out.size)).setCell (p:=⟨w.heap.size,0,none⟩) (Nat.le_refl _) _⟩
def PopS (l:List EPc) (a:Option Addr) (c n:Nat) (ra:Option Addr) (rk rc:Nat) (ta:Option Addr) (tn tc:Nat) (ok:Bool):Prop:=
 (n=0∧ra=none∧rk=0∧rc=0∧ta=none∧tn=0∧tc=0∧ok=false) ∨
 (∃ k,n=k+1∧ra=a∧rk=k∧rc=c∧ta=(l[k]!).a∧tn=(l[k]!).l.length∧tc=(l[k]!).c∧ok=true)
def popM (rv ov:Value):Nat:=match ov,rv with
 | .bool true,.slice _ k _=>k+1
 | _,_=>0
theorem PopS.m {l:List EPc} {a:Option Addr} {c n:Nat} {ra:Option Addr} {rk rc:Nat} {ta:Option Addr} {tn tc:Nat} {ok:Bool} (h:PopS l a c n ra rk rc ta tn tc ok):popM (.slice ra rk rc) (.bool ok)=n:=by
 rcases h with ⟨rfl,-,-,-,-,-,-,rfl⟩|⟨k,rfl,-,rfl,-,-,-,-,rfl⟩
 ·rfl
 ·rfl
theorem xK (l:List EPc) (a:Option Addr) (c n:Nat) (w:World) (hp:SPcs w ⟨a,l,c⟩) (hn:n≤l.length) :
 Calls prog 131 #[.slice a n c] w fun e w'=>∃ ra rk rc ta tn tc ok,e=.returned (.tuple #[.slice ra rk rc,stpV ta tn tc,.bool ok])∧PopS l a c n ra rk rc ta tn tc ok∧Below w.heap.size w w':=by
 cases n with
 | zero=>exact (sR a c w).mono fun e w' ⟨he,hb⟩=>⟨none,0,0,none,0,0,false,he,.inl ⟨rfl,rfl,rfl,rfl,rfl,rfl,rfl,rfl⟩,hb⟩
 | succ k =>
  obtain ⟨ad,ha,-,hc⟩:=hp.row k (by show k<l.length;omega)
  have ha:a=some ad:=ha
  subst ha
  have h:=tH ad c k (l[k]!) w hc (by have h:l.length≤c:=hp.le;omega) hp.cap
  exact h.mono fun e w' ⟨he,hb⟩=>⟨some ad,k,c,_,_,_,true,he,.inr ⟨k,rfl,rfl,rfl,rfl,rfl,rfl,rfl,rfl⟩,hb⟩
structure ByF (f:List Edt→List Edt) (F:FuncId):Prop where
 enter:∀ (args:Array Value) (w:World),(callFunc F args).run prog w=.ok (.enter F args) w
 len:∀ l,(f l).length=l.length
 z:∀ l b,Edtz l b→Edtz (f l) b
 call:∀ (a:Option Addr) (l:List Edt) (c:Nat) (w:World),EPcs w ⟨a,l,c⟩→l.length≤100000→Calls prog F #[stpV a l.length c] w fun e w'=>∃ a' c',e=.returned (stpV a' (f l).length c')∧EPcs w' ⟨a',f l,c'⟩∧Below w.heap.size w w'
theorem AZ:ByF invL 87:=⟨fun _ _=>by rfl,aF,fun _ _ h=>h.inv,fun a l c w h hl =>
 (mX a l c w h.row hl).mono fun e w' ⟨a',c',he,hr,hb⟩=>⟨a',c',he,hr.in,hb⟩⟩
theorem NB:ByF id 108:=⟨fun _ _=>by rfl,fun _=>rfl,fun _ _ h=>h,fun a l c w h hl =>
 (FI a l.length c w).mono fun e w' ⟨he,hb⟩=>⟨a,c,he,h.later hb,hb⟩⟩
def HeadR (f:List Edt→List Edt) (l:List EPc) (a:Option Addr) (c:Nat) (R:Bool) (w:World) (tv rv bv ov:Value) (wr:World):Prop:=
 ∃ (m:Nat) (s:ByteArray) (b:Nat) (ra:Option Addr) (rk rc:Nat) (ta:Option Addr) (tn tc:Nat) (ok:Bool),
  tv=.string s∧rv=.slice ra rk rc∧bv=.pointer (some ⟨b,0,none⟩)∧ov=.bool ok∧PopS l a c m ra rk rc ta tn tc ok∧m≤l.length∧s.size≤140737488355328∧goesE f s ((lsP l).take m).reverse=R ∧
  w.heap.size≤b∧b<wr.heap.size∧wr.cell? ⟨b,0,none⟩=some (.slice ta tn tc)∧wr.frozen? ⟨b,0,none⟩=false∧Below w.heap.size w wr
set_option maxHeartbeats 3200000 in
theorem uS {f:List Edt→List Edt} {F:FuncId} (by1:ByF f F) (t:ByteArray) (a:Option Addr) (l:List EPc) (c:Nat) (w:World) (hp:SPcs w ⟨a,l,c⟩) (ht:t.size≤140737488355328) (hl:l.length≤1000000) (hb:∀ x∈l,x.l.length≤100000∧Edtz x.l 140737488355328) :
 Calls prog 103 #[.string t,.slice a l.length c,.func (.func F) #[] #[]] w fun e w'=>e=.returned (.bool (goes16 f t (lsP l)))∧Below w.heap.size w w':=by
 have he:(goes16 f t (lsP l))=(goesE f t (lsP l).reverse && decide (l.length≤16)):=by unfold goes16;rw [aG]
 rw [he]
 obtain ⟨n,hn⟩:∃ n,l.length=n:=⟨_,rfl⟩
 rw [hn] at hl ⊢
 by_cases h16:16<n
 ·have h1:(16:Int)<(n:Int):=by omega
  have h2:(goesE f t (lsP l).reverse && decide (n≤16))=false:=by rw [decide_eq_false (by omega),Bool.and_false]
  rw [h2]
  clear he h2 hn hp hb
  go_enter func103,ntmps103
  go_wp2
  go_ret
  exact ⟨rfl,Below.refl _ _⟩
 have h1:(n:Int)≤16:=by omega
 rw [decide_eq_true (show n≤16 by omega),Bool.and_true]
 obtain ⟨R,hR⟩:∃ R,goesE f t (lsP l).reverse=R:=⟨_,rfl⟩
 rw [hR]
 have av:goesE f t ((lsP l).take n).reverse=R:=by rw [List.take_of_length_le (by rw [aG,hn];exact Nat.le_refl _)];exact hR
 have ce:=by1.enter
 have cp:=xK l a c n w hp (by omega)
 have HP:=hid hp;have HN:=hid hn;have ay:=hid av;have az:=hid hb;have CP:=hid cp;have BY:=hid by1
 clear hp hn hR av hb cp he by1
 go_enter func103,ntmps103
 go_wp2_with fail
 refine CP.out.mono ?_
 rintro e w1 ⟨ra,rk,rc,ta,tn,tc,ok,rfl,hps,aj⟩
 have a0:=hid hps;have a1:=hid (aj.alloc aj.size (.cells #[.slice ta tn tc] 54));have HK:=hid (Blk.new w1 #[.slice ta tn tc] 54);have a3:=hid aj.size
 clear hps aj
 go_wp2
 clear CP
 go_loopw [0,7,8,9] (fun tv rv bv ov wr=>HeadR f l a c R w tv rv bv ov wr) (fun _ rv _ ov _=>popM rv ov)
 case atStart=>exact ⟨n,t,w1.heap.size,ra,rk,rc,ta,tn,tc,ok,rfl,rfl,rfl,rfl,a0.out,Nat.le_of_eq HN.out.symm,ht,ay.out,a3.out,HK.out.lt,HK.out.cell 0 _ rfl,HK.out.free 0,a1.out⟩
 case round =>
  obtain ⟨m,s,b,ra,rk,rc,ta,tn,tc,ok,rfl,rfl,rfl,rfl,hps,hml,hs,hgo,hwb,hbl,x0,x5,hbel⟩:=hrel
  rcases hps with ⟨rfl,rfl,rfl,rfl,rfl,rfl,rfl,rfl⟩|⟨k,rfl,rfl,rfl,rfl,rfl,rfl,rfl,rfl⟩
  ·have h0:R=true:=hgo.symm
   subst h0
   clear hgo x0 x5
   go_wp2
   go_ret
   exact ⟨rfl,hbel⟩
  ·have hkl:rk<l.length:=hml
   rw [tF _ _ (by rw [aG];exact hkl),eI l rk hkl] at hgo
   have an:=(HP.out.later hbel).all.at rk hkl
   obtain ⟨ad,ak⟩:=az.out (l[rk]!) (by rw [epget hkl];exact List.getElem_mem hkl)
   obtain ⟨y,hy⟩:∃ y,l[rk]! = y:=⟨_,rfl⟩
   rw [hy] at x0 an ad ak hgo
   obtain ⟨ya,yl,yc⟩:=y
   simp only at x0 ad ak hgo
   have cb:=BY.out.call ya yl yc wr an ad
   have hz:=BY.out.z yl _ ak
   have hlen:=BY.out.len yl
   obtain ⟨q,hq⟩:∃ q,yl.length=q:=⟨_,rfl⟩
   obtain ⟨Y,hY⟩:∃ Y,f yl=Y:=⟨_,rfl⟩
   rw [hY] at cb hz hlen
   rw [hlen] at cb
   rw [hq] at cb x0 ad hlen
   have c1:=fun a' c' W (h:EPcs W ⟨a',Y,c'⟩)=>nU s a' Y c' W h.row hs (by omega) hz
   have c2:=fun a' c' W (h:EPcs W ⟨a',Y,c'⟩)=>fW s a' Y c' W h.row hs (by omega) hz
   rw [hlen] at c1 c2
   have hsz:=mE (t:=s) (l:=Y)
   have ae:=iL (f:=f) (t:=s) (x:=yl) (r:=((lsP l).take rk).reverse)
   have ac:=gE (f:=f) (t:=s) (x:=yl) (r:=((lsP l).take rk).reverse)
   rw [hY,hgo] at ae ac
   obtain ⟨⟨u,e0⟩,hu⟩:∃ z,runE s Y=z:=⟨_,rfl⟩
   obtain ⟨r,hr⟩:∃ r,rightS s Y=r:=⟨_,rfl⟩
   rw [hr] at c1 hsz ae ac
   rw [hu] at c2 hsz ac
   have CB:=hid cb;have C1:=hid c1;have C2:=hid c2
   clear cb c1 c2 hgo hy hz hlen an ad ak hq hY hu hr
   cases r with
   | false =>
    have h0:=ae rfl
    subst h0
    clear ae ac hsz
    go_wp2_with fail
    refine CB.out.mono ?_
    rintro e w2 ⟨a2,c2,rfl,af,ab⟩
    have aa:Below wr.heap.size wr (w2.alloc (.cells #[.slice a2 q c2] 54)):=ab.alloc ab.size _
    have al:=hid (af.later ((Below.refl w2.heap.size w2).alloc (Nat.le_refl _) (.cells #[.slice a2 q c2] 54)))
    have ag:=hid (hbel.trans (aa.mono hbel.size))
    clear af ab aa x0 x5 hbel
    go_wp2_with fail
    refine (C1.out _ _ _ al.out).mono ?_
    rintro e w3 ⟨rfl,aa⟩
    have am:=hid (ag.out.trans (aa.mono ag.out.size))
    clear aa
    go_wp2
    go_ret
    exact ⟨rfl,am.out⟩
   | true =>
    have h0:=ac rfl
    have h1:u.size≤max s.size 4096:=hsz rfl
    clear ae ac hsz
    have a4:=hid (fun W (hB:Below w.heap.size w W)=>xK l ra rc rk W (HP.out.later hB) (Nat.le_of_lt hkl))
    go_wp2_with fail
    refine CB.out.mono ?_
    rintro e w2 ⟨a2,c2,rfl,af,ab⟩
    have aa:Below wr.heap.size wr (w2.alloc (.cells #[.slice a2 q c2] 54)):=ab.alloc ab.size _
    have al:=hid (af.later ((Below.refl w2.heap.size w2).alloc (Nat.le_refl _) (.cells #[.slice a2 q c2] 54)))
    have a5:=hid (Blk.new w2 #[.slice a2 q c2] 54)
    have ag:=hid aa
    clear af ab aa
    go_wp2_with fail
    refine (C1.out _ _ _ al.out).mono ?_
    rintro e w3 ⟨rfl,aa⟩
    have a6:=hid (al.out.later aa)
    have y3:w3.cell? ⟨w2.heap.size,0,none⟩=some (.slice a2 q c2):=(a5.out.onto aa).cell 0 _ rfl
    have am:=hid (ag.out.trans (aa.mono ag.out.size))
    clear aa
    go_wp2_with fail
    refine (C2.out _ _ _ a6.out).mono ?_
    rintro e w4 ⟨rfl,aw⟩
    have ah:Below wr.heap.size wr w4:=am.out.trans (aw.mono am.out.size)
    have z0:=(ah.cell (p:=⟨b,0,none⟩) hbl).trans x0
    have ao:=hid ((hbel.trans (ah.mono hbel.size)).alloc (Nat.le_trans hbel.size ah.size) (.cells #[.slice ya q yc] 54))
    have aq:=hid (Blk.new w4 #[.slice ya q yc] 54)
    have ax:=hid (Nat.le_trans hbel.size ah.size)
    clear aw ah x0 x5 y3 hbel
    go_wp2_with fail
    refine (a4.out _ ao.out).mono ?_
    rintro e w6 ⟨ra',rk',rc',ta',tn',tc',ok',rfl,hps,ai⟩
    have q0:w6.cell? ⟨w4.heap.size,0,none⟩=some (.slice ya q yc):=(aq.out.onto ai).cell 0 _ rfl
    have q5:=(aq.out.onto ai).free 0
    have ar:=hid hps
    have au:=hid ((aq.out.onto ai).set 0 (.slice ta' tn' tc'))
    have a7:=hid ((ao.out.trans (ai.mono ao.out.size)).setCell (p:=⟨w4.heap.size,0,none⟩) ax.out (.slice ta' tn' tc'))
    clear ai hps z0
    go_wp2
    go_roundw
    case rel=>exact ⟨rk,u,w4.heap.size,ra',rk',rc',ta',tn',tc',ok',rfl,rfl,rfl,rfl,ar.out,Nat.le_of_lt hkl,by omega,h0.symm,ax.out,au.out.lt,au.out.cell 0 _ rfl,au.out.free 0,a7.out⟩
    case measure =>
     rw [ar.out.m]
     show rk<rk+1
     omega
theorem AD (t:ByteArray) (a:Option Addr) (l:List EPc) (c:Nat) (w:World) (hp:SPcs w ⟨a,l,c⟩) (ht:t.size≤140737488355328) (hl:l.length≤1000000) (hb:∀ x∈l,x.l.length≤100000∧Edtz x.l 140737488355328) :
 Calls prog 82 #[.string t,.slice a l.length c] w fun e w'=>e=.returned (.bool (goes16 invL t (lsP l)))∧Below w.heap.size w w':=by
 have cr:=uS AZ t a l c w hp ht hl hb
 obtain ⟨R,hR⟩:∃ R,goes16 invL t (lsP l)=R:=⟨_,rfl⟩
 obtain ⟨n,hn⟩:∃ n,l.length=n:=⟨_,rfl⟩
 rw [hR,hn] at cr
 rw [hR,hn]
 have CR:=hid cr
 clear cr hR hn hp hl hb
 go_enter func82,ntmps82
 go_wp2_with fail
 refine CR.out.mono ?_;rintro e w1 ⟨rfl,aa⟩
 go_wp2
 go_ret
 exact ⟨rfl,aa⟩
theorem zX (t:ByteArray) (a:Option Addr) (l:List EPc) (c:Nat) (w:World) (hp:SPcs w ⟨a,l,c⟩) (ht:t.size≤140737488355328) (hl:l.length≤1000000) (hb:∀ x∈l,x.l.length≤100000∧Edtz x.l 140737488355328) :
 Calls prog 86 #[.string t,.slice a l.length c] w fun e w'=>e=.returned (.bool (goes16 id t (lsP l)))∧Below w.heap.size w w':=by
 have cr:=uS NB t a l c w hp ht hl hb
 obtain ⟨R,hR⟩:∃ R,goes16 id t (lsP l)=R:=⟨_,rfl⟩
 obtain ⟨n,hn⟩:∃ n,l.length=n:=⟨_,rfl⟩
 rw [hR,hn] at cr
 rw [hR,hn]
 have CR:=hid cr
 clear cr hR hn hp hl hb
 go_enter func86,ntmps86
 go_wp2_with fail
 refine CR.out.mono ?_;rintro e w1 ⟨rfl,aa⟩
 go_wp2
 go_ret
 exact ⟨rfl,aa⟩
end Go.Proofs.YtbagenpobcgjnaaGreat
