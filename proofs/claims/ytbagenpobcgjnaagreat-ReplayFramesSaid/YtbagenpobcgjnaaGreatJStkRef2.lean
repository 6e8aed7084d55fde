/-
  Joined: StkRef2, StkDev3, StkDev4, StkDev5.
-/
import Derived.Test.YtbagenpobcgjnaaGreatJStkRow
import Derived.Test.YtbagenpobcgjnaaGreatJStepRef2
open Go renaming Addr->zp,Calls->zt,World->zq,bodyPost_ret->Am,maxLen->zy
open Go.Ending renaming returned->zv
open Go.IntKind renaming i64->zw
open Go.Lib renaming hid->zk
open Go.Obj renaming cells->zn
open Go.RowKit renaming Below->zo,intOf->Ad
open Go.RowKit.Below renaming refl->zu
open Go.Value renaming bool->zz,int->zx,slice->zm,string->Aa,tuple->Af
open List renaming getElem_mem->Ae,length_drop->Ak,mem_singleton->Ai,take_of_length_le->Ah
open Nat renaming le_of_lt->Ag,le_refl->zr,le_trans->Ab,lt_of_lt_of_le->An
namespace Go.Proofs.YtbagenpobcgjnaaGreat
open Go.Proofs.Tryz
set_option maxRecDepth 100000
open Lib (hid)
open Go.RowKit
set_option linter.unusedVariables false
set_option linter.unusedSimpArgs false
set_option maxHeartbeats 3200000 in
theorem zD (t:ByteArray) (a:Option zp) (l:List mo) (c:Nat) (w:zq) (hp:nz w ⟨a,l,c⟩) (ht:t.size≤140737488355328) (hl:l.length≤1000000) (hb:∀ x∈l,x.l.length≤100000∧sh x.l 140737488355328) :
 zt prog 43 #[Aa t,zm a l.length c] w fun e w'=>e=zv (zz (mq md t (mf l)))∧zo w w w':=by
 have he:(mq md t (mf l))=(qi md t (mf l).reverse && decide (l.length≤16)):=by unfold mq;rw [aD]
 rw [he];obtain ⟨n,hn⟩:∃ n,l.length=n:=⟨_,rfl⟩;rw [hn] at hl ⊢;obtain ⟨R,hR⟩:∃ R,qi md t (mf l).reverse=R:=⟨_,rfl⟩;rw [hR];have am:qi md t ((mf l).take n).reverse=R:=by rw [Ah (by rw [aD,hn];exact zr _)];exact hR
 obtain ⟨A,hA⟩:∃ A,(R && decide (n≤16))=A:=⟨_,rfl⟩;rw [hA];have HP:=zk hp;have HN:=zk hn;have ao:=zk am;have aq:=zk hb;have HA:=zk hA;clear hp hn hR am hb he hA;go_enter func43,ntmps43;go_wp2
 go_loopw [0,5] (fun tv i wr=>∃ (k:Nat) (z:Int) (s:ByteArray),k≤n∧i=zx zw z∧z=(k:Int) - 1∧tv=Aa s∧s.size≤140737488355328∧qi md s ((mf l).take k).reverse=R∧zo w w wr) (fun _ i _=>(Ad i+1).toNat)
 case atStart=>exact ⟨n,(n:Int) - 1,t,zr _,rfl,rfl,rfl,ht,ao.out,zu _ _⟩
 case round =>
  obtain ⟨m,z,s,hm,rfl,hzm,rfl,hs,hgo,hbel⟩:=hrel;cases m with
  | zero =>
   have h0:true=R:=hgo;subst h0;obtain rfl:z=-1:=lg;clear hgo hzm;by_cases h16:n≤16
   ·have g:(n:Int)≤16:=lg;have e:A=true:=by rw [← HA.out,decide_eq_true h16];rfl
    subst e;go_wp2;go_ret;exact ⟨rfl,hbel⟩
   ·have g:¬ (n:Int)≤16:=lg;have e:A=false:=by rw [← HA.out,decide_eq_false h16];rfl
    subst e;go_wp2;go_ret;exact ⟨by simp [go_sem,g],hbel⟩
  | succ k =>
   obtain rfl:z=(k:Int):=lg;have hkl:k<l.length:=by rw [HN.out];omega
   rw [lB _ _ (by rw [aD];exact hkl),cO l k hkl] at hgo;have hpr:=HP.out.later hbel;obtain ⟨ad,rfl,hab,q0⟩:=hpr.row k hkl;have al:=hpr.all.at k hkl;obtain ⟨ae,ai⟩:=aq.out (l[k]!) (by rw [og hkl];exact Ae hkl);obtain ⟨y,hy⟩:∃ y,l[k]! = y:=⟨_,rfl⟩;rw [hy] at q0 al ae ai hgo;obtain ⟨ya,yl,yc⟩:=y;simp only [mo.v] at q0 ae ai hgo;have cb:=lD ya yl yc wr al.row ae;have hz:=ai.inv;have hlen:=aF yl;have hsz:=eE (t:=s) (l:=md yl);have af:=fH (f:=md) (t:=s) (x:=yl) (r:=((mf l).take k).reverse);have ac:=eF (f:=md) (t:=s) (x:=yl) (r:=((mf l).take k).reverse);obtain ⟨q,hq⟩:∃ q,yl.length=q:=⟨_,rfl⟩;obtain ⟨Y,hY⟩:∃ Y,md yl=Y:=⟨_,rfl⟩;rw [hgo,hY] at af ac;rw [hY] at cb hz hlen hsz;rw [hq] at cb q0 ae hlen;have cb:zt prog 40 #[oy ya q yc] wr fun e w'=>∃ a3 c3,e=zv (oy a3 q c3)∧rp w' wr ⟨a3,Y,c3⟩∧zo wr wr w':=by rw [← hlen] at cb ⊢;exact cb
   have c1:=fun a' c' W (h:o0 W ⟨a',Y,c'⟩)=>iP s a' Y c' W h.row hs lg hz;have c2:=fun a' c' W (h:o0 W ⟨a',Y,c'⟩)=>gJ s a' Y c' W h.row hs lg hz;rw [hlen] at c1 c2;obtain ⟨⟨u,e0⟩,hu⟩:∃ z,ms s Y=z:=⟨_,rfl⟩;obtain ⟨r,hr⟩:∃ r,m9 s Y=r:=⟨_,rfl⟩;rw [hr] at c1 hsz af ac;rw [hu] at c2 hsz ac;have CB:=zk cb;have C1:=zk c1;have C2:=zk c2;have b0:(0:Int)≤(k:Int):=lg;have b1:(k:Int)<(n:Int):=lg;clear cb c1 c2 hgo hy hz hlen al ae ai hq hY hu hr hpr hab hzm;cases r with
   | false =>
    have h0:=af rfl;subst h0;have e:A=false:=HA.out.symm;subst e;clear af ac hsz;go_wp2_with fail;refine CB.out.mono ?_;rintro e w2 ⟨a2,c2,rfl,ag,aa⟩;have aj:=zk (ag.in.later ((zu w2 w2).alloc (zr _) (zn #[zm a2 q c2] 54)));have ah:=zk (hbel.trans ((aa.alloc aa.size (zn #[zm a2 q c2] 54)).mono hbel.size));clear ag aa q0 hbel;go_wp2_with fail;refine (C1.out _ _ _ aj.out).mono ?_;rintro e w3 ⟨rfl,ab⟩;have ak:=zk (ah.out.trans (ab.mono ah.out.size));clear ab;go_wp2;go_ret;exact ⟨rfl,ak.out⟩
   | true =>
    have h0:=ac rfl;have h1:u.size≤max s.size 4096:=hsz rfl;clear af ac hsz;go_wp2_with fail;refine CB.out.mono ?_;rintro e w2 ⟨a2,c2,rfl,ag,aa⟩;have aj:=zk (ag.in.later ((zu w2 w2).alloc (zr _) (zn #[zm a2 q c2] 54)));have ar:=zk (l6.new w2 #[zm a2 q c2] 54);have ah:=zk (hbel.trans ((aa.alloc aa.size (zn #[zm a2 q c2] 54)).mono hbel.size));clear ag aa q0 hbel;go_wp2_with fail;refine (C1.out _ _ _ aj.out).mono ?_;rintro e w3 ⟨rfl,ab⟩;have au:=zk (aj.out.later ab);have y3:w3 ⟨w2,0,none⟩=some (zm a2 q c2):=(ar.out.onto ab).cell 0 _ rfl;have ak:=zk (ah.out.trans (ab.mono ah.out.size));clear ab;go_wp2_with fail;refine (C2.out _ _ _ au.out).mono ?_;rintro e w4 ⟨rfl,an⟩;have av:=zk (ak.out.trans (an.mono ak.out.size));clear an y3;go_wp2;go_roundw
    case rel=>exact ⟨k,(k:Int) - 1,u,lg,by go_num,rfl,rfl,lg,h0.symm,av.out⟩
    case measure=>simp [Ad]
set_option maxHeartbeats 3200000 in
theorem BA (t:ByteArray) (a:Option zp) (l:List mo) (c:Nat) (w:zq) (hp:nz w ⟨a,l,c⟩) (ht:t.size≤140737488355328) (hl:l.length≤1000000) (hb:∀ x∈l,x.l.length≤100000∧sh x.l 140737488355328) :
 zt prog 44 #[Aa t,zm a l.length c] w fun e w'=>e=zv (zz (mq id t (mf l)))∧zo w w w':=by
 have he:(mq id t (mf l))=(qi id t (mf l).reverse && decide (l.length≤16)):=by unfold mq;rw [aD]
 rw [he];obtain ⟨n,hn⟩:∃ n,l.length=n:=⟨_,rfl⟩;rw [hn] at hl ⊢;obtain ⟨R,hR⟩:∃ R,qi id t (mf l).reverse=R:=⟨_,rfl⟩;rw [hR];have ai:qi id t ((mf l).take n).reverse=R:=by rw [Ah (by rw [aD,hn];exact zr _)];exact hR
 obtain ⟨A,hA⟩:∃ A,(R && decide (n≤16))=A:=⟨_,rfl⟩;rw [hA];have HP:=zk hp;have HN:=zk hn;have ak:=zk ai;have al:=zk hb;have HA:=zk hA;clear hp hn hR ai hb he hA;go_enter func44,ntmps44;go_wp2
 go_loopw [0,5] (fun tv i wr=>∃ (k:Nat) (z:Int) (s:ByteArray),k≤n∧i=zx zw z∧z=(k:Int) - 1∧tv=Aa s∧s.size≤140737488355328∧qi id s ((mf l).take k).reverse=R∧zo w w wr) (fun _ i _=>(Ad i+1).toNat)
 case atStart=>exact ⟨n,(n:Int) - 1,t,zr _,rfl,rfl,rfl,ht,ak.out,zu _ _⟩
 case round =>
  obtain ⟨m,z,s,hm,rfl,hzm,rfl,hs,hgo,hbel⟩:=hrel;cases m with
  | zero =>
   have h0:true=R:=hgo;subst h0;obtain rfl:z=-1:=lg;clear hgo hzm;by_cases h16:n≤16
   ·have g:(n:Int)≤16:=lg;have e:A=true:=by rw [← HA.out,decide_eq_true h16];rfl
    subst e;go_wp2;go_ret;exact ⟨rfl,hbel⟩
   ·have g:¬ (n:Int)≤16:=lg;have e:A=false:=by rw [← HA.out,decide_eq_false h16];rfl
    subst e;go_wp2;go_ret;exact ⟨by simp [go_sem,g],hbel⟩
  | succ k =>
   obtain rfl:z=(k:Int):=lg;have hkl:k<l.length:=by rw [HN.out];omega
   rw [lB _ _ (by rw [aD];exact hkl),cO l k hkl] at hgo;have hpr:=HP.out.later hbel;obtain ⟨ad,rfl,hab,q0⟩:=hpr.row k hkl;have hab:ad.block<wr:=hab;have ag:=hpr.all.at k hkl;obtain ⟨ah,ac⟩:=al.out (l[k]!) (by rw [og hkl];exact Ae hkl);obtain ⟨y,hy⟩:∃ y,l[k]! = y:=⟨_,rfl⟩;rw [hy] at q0 ag ah ac hgo;obtain ⟨ya,yl,yc⟩:=y;simp only [mo.v] at q0 ah ac hgo;have hsz:=eE (t:=s) (l:=yl);have ae:=fH (f:=id) (t:=s) (x:=yl) (r:=((mf l).take k).reverse);have aa:=eF (f:=id) (t:=s) (x:=yl) (r:=((mf l).take k).reverse);rw [hgo,id] at ae aa;have c1:=iP s ya yl yc wr ag.row hs lg ac;have c2:=fun W (h:zo wr wr W)=>gJ s ya yl yc W (ag.later h).row hs lg ac;obtain ⟨q,hq⟩:∃ q,yl.length=q:=⟨_,rfl⟩;rw [hq] at c1 c2 q0;obtain ⟨⟨u,e0⟩,hu⟩:∃ z,ms s yl=z:=⟨_,rfl⟩;obtain ⟨r,hr⟩:∃ r,m9 s yl=r:=⟨_,rfl⟩;rw [hr] at c1 hsz ae aa;rw [hu] at c2 hsz aa;have C1:=zk c1;have C2:=zk c2;have b0:(0:Int)≤(k:Int):=lg;have b1:(k:Int)<(n:Int):=lg;clear c1 c2 hgo hy ag ah ac hq hu hr hpr hzm;cases r with
   | false =>
    have h0:=ae rfl;subst h0;have e:A=false:=HA.out.symm;subst e;clear ae aa hsz;go_wp2_with fail;refine C1.out.mono ?_;rintro e w3 ⟨rfl,ab⟩;have af:=zk (hbel.trans (ab.mono hbel.size));clear ab hbel;go_wp2;go_ret;exact ⟨rfl,af.out⟩
   | true =>
    have h0:=aa rfl;have h1:u.size≤max s.size 4096:=hsz rfl;clear ae aa hsz;go_wp2_with fail;refine C1.out.mono ?_;rintro e w3 ⟨rfl,ab⟩;have q3:=(ab.cell (p:=ad.add k) (by rw [aX];exact hab)).trans q0;have af:=zk ab;clear ab q0;go_wp2_with fail;refine (C2.out _ af.out).mono ?_;rintro e w4 ⟨rfl,aj⟩;have am:=zk (hbel.trans ((af.out.trans (aj.mono af.out.size)).mono hbel.size));clear aj q3 hbel;go_wp2;go_roundw
    case rel=>exact ⟨k,(k:Int) - 1,u,lg,by go_num,rfl,rfl,lg,h0.symm,am.out⟩
    case measure=>simp [Ad]
theorem FF {a b:List mo} {k:Nat} (h:∀ j,j<k→(a[j]!).l=(b[j]!).l):(a[k]!).l=(b[k]!).l→∀ j,j<k+1→(a[j]!).l=(b[j]!).l:=fun e j hj=>by
 rcases Nat.lt_or_ge j k with g|g
 ·exact h j g
 ·obtain rfl:j=k:=lg;exact e
theorem IG {a b:List mo} (hl:a.length=b.length) (h:∀ j,j<a.length→(a[j]!).l=(b[j]!).l):mf a=mf b:=by
 refine List.ext_getElem (by rw [aD,aD,hl]) fun j h1 h2=>?_;have g1:j<a.length:=by rwa [aD] at h1
 have:=h j g1;rw [og g1,og lg] at this;simpa [mf] using this
theorem NB {a b:List mo} {k:Nat} (ha:k<a.length) (hb:k<b.length) (h:mf a=mf b):(a[k]!).l=(b[k]!).l:=by
 rw [← cO a k ha,← cO b k hb,h]
set_option maxHeartbeats 1600000 in
theorem mX (a b:Option zp) (la lb:List mo) (c d:Nat) (w:zq) (ha:nz w ⟨a,la,c⟩) (hb:nz w ⟨b,lb,d⟩) (h1:∀ x∈la,x.l.length≤1000000) (h2:∀ x∈lb,x.l.length≤1000000) :
 zt prog 24 #[zm a la.length c,zm b lb.length d] w fun e w'=>e=zv (zz (decide (mf la=mf lb)))∧zo w w w':=by
 by_cases hne:la.length=lb.length
 case neg =>
  have h0:decide (mf la=mf lb)=false:=decide_eq_false fun e=>hne (by rw [← aD la,e,aD]);rw [h0];have ab:la.length≤zy:=Ab ha.le ha.cap;have aj:lb.length≤zy:=Ab hb.le hb.cap;unfold zy at ab aj;obtain ⟨n,hn⟩:∃ n,la.length=n:=⟨_,rfl⟩;obtain ⟨m,hm⟩:∃ n,lb.length=n:=⟨_,rfl⟩;rw [hn] at hne ab ⊢;rw [hm] at hne aj ⊢;clear hn hm ha hb h1 h2;have ak:¬ (n:Int)=(m:Int):=lg;go_enter func24,ntmps24;go_wp2;go_ret;exact ⟨rfl,zu _ _⟩
 have HE:=zk hne;have ab:la.length≤zy:=Ab ha.le ha.cap;unfold zy at ab;rw [← hne];obtain ⟨n,hn⟩:∃ n,la.length=n:=⟨_,rfl⟩;obtain ⟨r,hfr⟩:∃ r,decide (mf la=mf lb)=r:=⟨_,rfl⟩;rw [hfr];rw [hn] at ab ⊢;have HN:=zk hn;have HA:=zk ha;have HB:=zk hb;have H1:=zk h1;have H2:=zk h2;have HF:=zk hfr;clear hn ha hb h1 h2 hfr hne;go_enter func24,ntmps24;go_wp2
 go_loopw [5] (fun i wr=>∃ k:Nat,k≤n∧i=zx zw k∧(∀ j,j<k→(la[j]!).l=(lb[j]!).l)∧zo w w wr) (fun i _=>n - (Ad i).toNat)
 case atStart=>exact ⟨0,Nat.zero_le _,rfl,fun j hj=>absurd hj (Nat.not_lt_zero _),zu _ _⟩
 case round =>
  obtain ⟨k,hk,rfl,hall,hbel⟩:=hrel;by_cases hlt:k<n
  ·have hkl:k<la.length:=by rw [HN.out];exact hlt
   have aa:k<lb.length:=by rw [← HE.out];exact hkl
   have hpa:=HA.out.later hbel;have hpb:=HB.out.later hbel;obtain ⟨ad,rfl,hab,q0⟩:=hpa.row k hkl;obtain ⟨bd,rfl,hbb,r0⟩:=hpb.row k aa;have ag:=hpa.all.at k hkl;have ah:=hpb.all.at k aa;have ae:=H1.out (la[k]!) (by rw [og hkl];exact Ae hkl);have af:=H2.out (lb[k]!) (by rw [og aa];exact Ae aa);have hyes:=FF (a:=la) (b:=lb) hall;have hno:¬ (la[k]!).l=(lb[k]!).l→decide (mf la=mf lb)=false:=fun h=>decide_eq_false fun e=>h (NB hkl aa e);obtain ⟨x,hx⟩:∃ x,la[k]! = x:=⟨_,rfl⟩;obtain ⟨y,hy⟩:∃ x,lb[k]! = x:=⟨_,rfl⟩;rw [hx] at q0 ag ae hyes hno;rw [hy] at r0 ah af hyes hno;obtain ⟨xa,xl,xc⟩:=x;obtain ⟨ya,yl,yc⟩:=y;simp only [mo.v] at q0 r0 ae af hyes hno;have cs:=oK xa ya xl yl xc yc wr.drew (by exact ag.row) (by exact ah.row) ae af;obtain ⟨p,hp⟩:∃ p,xl.length=p:=⟨_,rfl⟩;obtain ⟨q,hq⟩:∃ p,yl.length=p:=⟨_,rfl⟩;rw [hp] at q0 cs;rw [hq] at r0 cs;have b0:(0:Int)≤(k:Int):=lg;have b1:(k:Int)<(n:Int):=lg;have q1:wr.drew (ad.add k)=some (zm xa p xc):=q0;have r1:wr.drew (bd.add k)=some (zm ya q yc):=r0;clear hall hx hy hab hbb hpa hpb ag ah ae af hp hq;by_cases he:xl=yl
   ·rw [decide_eq_true he] at cs;have HY:=zk (hyes he);have CS:=zk cs;clear hyes hno cs;go_wp2_with fail
    go_region_with (go_at_call 25;refine CS.out.mono ?_;rintro e w1 ⟨rfl,ac⟩)
    all_goals
     have ai:=zk (hbel.trans (((zu wr wr).drew.trans ac).mono hbel.size));clear ac q0 q1 r0 r1;go_wp2;go_roundw
     case rel=>exact ⟨k+1,lg,by go_num,HY.out,ai.out⟩
     case measure=>simp [Ad];omega
   ·rw [decide_eq_false he] at cs;have h0:=hno he;rw [HF.out] at h0;subst h0;have CS:=zk cs;clear hyes hno cs;go_wp2_with fail
    go_region_with (go_at_call 25;refine CS.out.mono ?_;rintro e w1 ⟨rfl,ac⟩)
    all_goals
     have ai:=zk (hbel.trans (((zu wr wr).drew.trans ac).mono hbel.size));clear ac q0 q1 r0 r1;go_wp2;go_ret;exact ⟨rfl,ai.out⟩
  ·obtain rfl:k=n:=lg;have h0:r=true:=by
    rw [← HF.out];exact decide_eq_true (IG HE.out (by rw [HN.out];exact hall))
   subst h0;clear hall;go_wp2;go_ret;exact ⟨rfl,hbel⟩
set_option maxHeartbeats 1600000 in
theorem JU (ad:zp) (l:List mo) (c:Nat) (y:mo) (w:zq) (hp:nz w ⟨some ad,l,c⟩) (hy:o0 w y) (hl:l.length≤900) :
 zt prog 206 #[zm (some ad) l.length c,oy y.a y.l.length y.c,zx zw 16] w (pw w ((l++[y]).drop (l.length+1 - 16))):=by
 obtain ⟨ya,yl,yc⟩:=y;obtain ⟨n,hn⟩:∃ n,l.length=n:=⟨_,rfl⟩;obtain ⟨m,hm⟩:∃ n,yl.length=n:=⟨_,rfl⟩;simp only [hm];obtain ⟨W1,aa⟩:∃ W1,w.alloc (zn #[zm ya m yc] 54)=W1:=⟨_,rfl⟩;have b1:zo w w W1:=by rw [← aa];exact (zu _ _).alloc (zr _) _
 have B1:=l6.new w #[zm ya m yc] 54;rw [aa] at B1;have x0:W1.drew ⟨w,0,none⟩=some (zm ya m yc):=B1.cell 0 _ rfl;have hcm:c≤zy:=hp.cap;have hnc:l.length≤c:=hp.le;rw [hn] at hnc hl ⊢;unfold zy at hcm;obtain ⟨j,hj⟩:∃ j,n+1 - 16=j:=⟨_,rfl⟩;have ab:zw.wrap ((n:Int)+1)=(n:Int)+1:=IntWalk.i64_in _ lg;have ac:zw.wrap ((n:Int)+1 - 16)=(n:Int)+1 - 16:=IntWalk.i64_in _ lg;have hM:max 0 ((n:Int)+1 - 16)=(j:Int):=lg;have ae:(0:Int)≤(j:Int):=lg;have af:(j:Int)≤(n:Int):=lg;have hA:(if c=j then some ad else some (ad.add j))=some (ad.add j):=by
  split
  ·rw [show j=0 by omega];rfl
  ·rfl
 have e0:(l++[(⟨ya,yl,yc⟩:mo)]).drop (n+1 - 16)=l.drop j++[⟨ya,yl,yc⟩]:=by rw [hj,List.drop_append_of_le_length lg]
 rw [e0];obtain ⟨W,hW⟩:∃ W,W1.drew.alloc (zn #[zm ya m yc] 54)=W:=⟨_,rfl⟩;have b2:zo W1 W1 W:=by rw [← hW];exact ((zu W1 W1).drew).alloc (zr _) _
 have B2:l6 W W1 #[zm ya m yc] 54:=by rw [← hW];exact l6.new W1.drew _ _
 have z2:W.heap.size=W1+1:=by rw [← hW];simp
 have hpW:=(hp.later (b1.trans (b2.mono b1.size))).drop j;have hyW:=hy.later (b1.trans (b2.mono b1.size));have hq:nz W ⟨some ⟨W1,0,none⟩,[⟨ya,yl,yc⟩],1⟩:=⟨fun k hk=>by
  match k,hk with
  | 0,_=>exact ⟨_,rfl,by show W1.heap.size<W;omega,by rw [← hm] at B2;exact B2.cell 0 _ rfl⟩,fun x hx=>by obtain rfl:=Ai.1 hx;exact hyW,fun e=>(by cases e),zr _,by show 1≤zy;decide⟩
 have cc:=scat2 (n - j) 1 hpW hq (by rw [Ak,hn]) rfl lg 166;simp only at cc;rw [← hW,show (W1.drew.alloc (zn #[zm ya m yc] 54)).heap.size=W1+1 by simp] at cc;have hfin:∀ (L:List mo) (e:Ending) (w':zq),pw ((W1.drew.alloc (zn #[zm ya m yc] 54)).alloc (zn #[zm (some (ad.add j)) (n - j) (c - j),zm (some ⟨W1,0,none⟩) 1 1] 166)) L e w'→pw w L e w':=fun L e w' ⟨a',c',he,hr,hb⟩=>by
  have z:w.heap.size≤((W1.drew.alloc (zn #[zm ya m yc] 54)).alloc (zn #[zm (some (ad.add j)) (n - j) (c - j),zm (some ⟨W1,0,none⟩) 1 1] 166)):=by have:=b1.size;simp;omega
  refine ⟨a',c',he,hr.mono z,?_⟩;exact (((b1.drew).alloc b1.size _).alloc (by have:=b1.size;simp;omega) _).trans (hb.mono z)
 obtain ⟨L,hL⟩:∃ L,l.drop j++[(⟨ya,yl,yc⟩:mo)]=L:=⟨_,rfl⟩;rw [hL] at cc ⊢;have cc:zt prog 215 #[zm (some ⟨W1+1,0,none⟩) 2 2] ((W1.alloc (zn #[zm ya m yc] 54)).alloc (zn #[zm (some (ad.add j)) (n - j) (c - j),zm (some ⟨W1,0,none⟩) 1 1] 166)).drew (pw ((W1.drew.alloc (zn #[zm ya m yc] 54)).alloc (zn #[zm (some (ad.add j)) (n - j) (c - j),zm (some ⟨W1,0,none⟩) 1 1] 166)) L):=cc;have CC:=zk cc;have HF:=zk (hfin L);clear cc hfin hq hyW hpW B2 b2 z2 hW hp hy hn hm b1 B1 e0 hj hL;go_enter func206,ntmps206;go_wp2
 go_region_with (go_at_call 215;refine CC.out.mono ?_;intro e w2 hr;have HR:=zk (HF.out _ _ hr);obtain ⟨a2,c2,rfl,-,-⟩:=hr)
 all_goals go_wp2
 all_goals go_ret
 all_goals exact HR.out
set_option maxHeartbeats 1600000 in
theorem JW (y:mo) (w:zq) (hy:o0 w y) :
 zt prog 206 #[zm none 0 0,oy y.a y.l.length y.c,zx zw 16] w (pw w [y]):=by
 obtain ⟨ya,yl,yc⟩:=y;obtain ⟨m,hm⟩:∃ n,yl.length=n:=⟨_,rfl⟩;simp only [hm];obtain ⟨W1,aa⟩:∃ W1,w.alloc (zn #[zm ya m yc] 54)=W1:=⟨_,rfl⟩;have b1:zo w w W1:=by rw [← aa];exact (zu _ _).alloc (zr _) _
 have B1:=l6.new w #[zm ya m yc] 54;rw [aa] at B1;have x0:W1.drew ⟨w,0,none⟩=some (zm ya m yc):=B1.cell 0 _ rfl;obtain ⟨W,hW⟩:∃ W,W1.drew.alloc (zn #[zm ya m yc] 54)=W:=⟨_,rfl⟩;have b2:zo W1.heap.size W1 W:=by rw [← hW];exact ((zu W1 W1).drew).alloc (zr _) _
 have B2:l6 W W1 #[zm ya m yc] 54:=by rw [← hW];exact l6.new W1.drew _ _
 have z2:W.heap.size=W1+1:=by rw [← hW];simp
 have hyW:=hy.later (b1.trans (b2.mono b1.size));have hq:nz W ⟨some ⟨W1,0,none⟩,[⟨ya,yl,yc⟩],1⟩:=⟨fun k hk=>by
  match k,hk with
  | 0,_=>exact ⟨_,rfl,by show W1.heap.size<W;omega,by rw [← hm] at B2;exact B2.cell 0 _ rfl⟩,fun x hx=>by obtain rfl:=Ai.1 hx;exact hyW,fun e=>(by cases e),zr _,by show 1≤zy;decide⟩
 have cc:=scat2 0 1 (nz.empty W) hq rfl rfl lg 166;simp only [List.nil_append] at cc;rw [← hW,show (W1.drew.alloc (zn #[zm ya m yc] 54)).heap.size=W1+1 by simp] at cc;have hfin:∀ (L:List mo) (e:Ending) (w':zq),pw ((W1.drew.alloc (zn #[zm ya m yc] 54)).alloc (zn #[zm none 0 0,zm (some ⟨W1,0,none⟩) 1 1] 166)) L e w'→pw w L e w':=fun L e w' ⟨a',c',he,hr,hb⟩=>by
  have z:w.heap.size≤((W1.drew.alloc (zn #[zm ya m yc] 54)).alloc (zn #[zm none 0 0,zm (some ⟨W1,0,none⟩) 1 1] 166)):=by have:=b1.size;simp;omega
  refine ⟨a',c',he,hr.mono z,?_⟩;exact (((b1.drew).alloc b1.size _).alloc (by have:=b1.size;simp;omega) _).trans (hb.mono z)
 obtain ⟨L,hL⟩:∃ L,[(⟨ya,yl,yc⟩:mo)]=L:=⟨_,rfl⟩;rw [hL] at cc ⊢;have cc:zt prog 215 #[zm (some ⟨W1+1,0,none⟩) 2 2] ((W1.alloc (zn #[zm ya m yc] 54)).alloc (zn #[zm none 0 0,zm (some ⟨W1,0,none⟩) 1 1] 166)).drew (pw ((W1.drew.alloc (zn #[zm ya m yc] 54)).alloc (zn #[zm none 0 0,zm (some ⟨W1,0,none⟩) 1 1] 166)) L):=cc;have CC:=zk cc;have HF:=zk (hfin L);clear cc hfin hq hyW B2 b2 z2 hW hy hm b1 B1 hL;go_enter func206,ntmps206;go_wp2
 go_region_with (go_at_call 215;refine CC.out.mono ?_;intro e w2 hr;have HR:=zk (HF.out _ _ hr);obtain ⟨a2,c2,rfl,-,-⟩:=hr)
 all_goals go_wp2
 all_goals go_ret
 all_goals exact HR.out
theorem PW (a:Option zp) (l:List mo) (c:Nat) (y:mo) (w:zq) (hp:nz w ⟨a,l,c⟩) (hy:o0 w y) (hl:l.length≤900) :
 zt prog 206 #[zm a l.length c,oy y.a y.l.length y.c,zx zw 16] w (pw w ((l++[y]).drop (l.length+1 - 16))):=by
 cases a with
 | some ad=>exact JU ad l c y w hp hy hl
 | none =>
  have e0:l=[]:=hp.len rfl;have e1:c=0:=hp.nil rfl;subst e0;subst e1;exact JW y w hy
set_option maxHeartbeats 1600000 in
theorem iL (a:Option zp) (l:List mo) (c:Nat) (y:mo) (w:zq) (hp:nz w ⟨a,l,c⟩) (hy:o0 w y) (hl:l.length≤900) (hb:∀ x∈l,x.l.length≤1000000) (hb2:y.l.length≤1000000) :
 zt prog 184 #[zm a l.length c,oy y.a y.l.length y.c] w (yg w (np (mf l) y.l)):=by
 obtain ⟨ya,yl,yc⟩:=y;simp only at hb2;obtain ⟨W1,ab⟩:∃ W1,w.alloc (zn #[zm ya yl.length yc] 54)=W1:=⟨_,rfl⟩;have b1:zo w w W1:=by rw [← ab];exact (zu _ _).alloc (zr _) _
 have B1:=l6.new w #[zm ya yl.length yc] 54;rw [ab] at B1;have x0:W1 ⟨w,0,none⟩=some (zm ya yl.length yc):=B1.cell 0 _ rfl;have cp:=PW a l c ⟨ya,yl,yc⟩ W1 (hp.later b1) (hy.later b1) hl;have he:mf ((l++[(⟨ya,yl,yc⟩:mo)]).drop (l.length+1 - 16))=np (mf l) yl:=by
  unfold np;rw [iA,fK,aD];rfl
 have hlen:((l++[(⟨ya,yl,yc⟩:mo)]).drop (l.length+1 - 16)).length≤1000:=by rw [Ak,List.length_append];simp;omega
 have hbb:∀ x∈(l++[(⟨ya,yl,yc⟩:mo)]).drop (l.length+1 - 16),x.l.length≤1000000:=fun x hx=>by
  rcases List.mem_append.1 (List.mem_of_mem_drop hx) with h|h
  ·exact hb x h
  ·obtain rfl:=Ai.1 h;exact hb2
 obtain ⟨n,hn⟩:∃ n,l.length=n:=⟨_,rfl⟩;obtain ⟨m,hm⟩:∃ n,yl.length=n:=⟨_,rfl⟩;rw [hn] at cp he hlen hbb;obtain ⟨Q,hQ⟩:∃ Q,(l++[(⟨ya,yl,yc⟩:mo)]).drop (n+1 - 16)=Q:=⟨_,rfl⟩;rw [hQ] at cp he hlen hbb;simp only [hm] at cp x0 ab ⊢;rw [hn];rw [← he];have ce:=fun a2 c2 w2 (h:sg w2 W1 ⟨a2,Q,c2⟩)=>wL a2 Q c2 w2 h.in hlen hbb;obtain ⟨q,hq⟩:∃ q,Q.length=q:=⟨_,rfl⟩;have cp:zt prog 206 #[zm a n c,oy ya m yc,zx zw 16] W1 fun e w2=>∃ a2 c2,e=zv (zm a2 q c2)∧sg w2 W1 ⟨a2,Q,c2⟩∧zo W1 W1 w2:=by rw [← hq];exact cp
 rw [hq] at ce;have CP:=zk cp;have CE:=zk ce;have ac:=zk b1;clear cp ce b1 B1 hp hy hb hb2 hlen hbb hQ he hq hn hm;go_enter func184,ntmps184;go_wp2_with fail;refine CP.out.mono ?_;rintro e w2 ⟨a2,c2,rfl,ad,hb2⟩;have aa:=zk (ac.out.trans (hb2.mono ac.out.size));have aj:=zk ad;clear ad hb2;go_wp2_with fail;refine (CE.out _ _ _ aj.out).mono ?_;rintro e w3 ⟨a3,c3,l3,rfl,ak,ae,⟨g3,eg3,af,ag⟩,ah,ai⟩;have al:=zk (aa.out.trans (ai.mono aa.out.size));have am:=zk (ae.mono aa.out.size);have an:=zk (show ∃ g,a3=some ⟨g,0,none⟩∧w.heap.size≤g∧∀ x∈l3,rp w3 (g+1) x from ⟨g3,eg3,Ab aa.out.size af,ag⟩);have ao:=zk (oW ah aa.out.size);clear ae ai ag ah eg3 af;go_wp2;go_ret;exact ⟨a3,c3,l3,rfl,ak,am.out,an.out,ao.out,al.out⟩
def RetPop (w:zq) (L:List (List l8)) (s:List l8) (e:Ending) (w':zq):Prop:=
 ∃ a c l a2 c2,e=zv (Af #[zm a l.length c,oy a2 s.length c2,zx zw 0])∧mf l=L∧sg w' w ⟨a,l,c⟩∧(∀ x∈l,rp w' w x)∧rp w' w ⟨a2,s,c2⟩∧zo w w w'
set_option maxHeartbeats 800000 in
theorem mL (a:Option zp) (c:Nat) (w:zq) :
 zt prog 183 #[zm a 0 c] w fun e w'=>e=zv (Af #[zm none 0 0,oy none 0 0,zx zw 10])∧zo w w w':=by
 obtain ⟨W,hW⟩:∃ W,w.alloc (zn #[zm none 0 0] 54)=W:=⟨_,rfl⟩;have ac:zo w w W:=by rw [← hW];exact (zu w w).alloc (zr _) _
 have B:=l6.new w #[zm none 0 0] 54;rw [hW] at B;have ab:=zk ac;have ad:=zk B;have cp:=xW a c W;have CP:=zk cp;clear ac B cp;go_enter func183,ntmps183;go_wp2_with fail;refine CP.out.mono ?_;rintro e w1 ⟨rfl,aa⟩;have B1:=ad.out.onto aa;have B2:=B1.alloc (zn #[zm none 0 0] 54);have q2:(w1.alloc (zn #[zm none 0 0] 54)) ⟨w,0,none⟩=some (zm none 0 0):=B2.cell 0 _ rfl;have q4:((w1.alloc (zn #[zm none 0 0] 54)).setCell ⟨w,0,none⟩ (zm none 0 0)) ⟨w,0,none⟩=some (zm none 0 0):=World.cell?_setCell_same' _ _ _ (by rw [q2];rfl);have q3:=B2.free 0;have ae:=zk ((((ab.out.trans (aa.mono ab.out.size)).alloc (Ab ab.out.size aa.size) (zn #[zm none 0 0] 54))).setCell (p:=⟨w,0,none⟩) (zr _) (zm none 0 0));clear B1 B2 aa;go_wp2;refine Am (v:=Af #[zm none 0 0,oy none 0 0,zx zw 10]) (by simp [results,results183,go_sem,q4]) rfl ?_;exact ⟨rfl,ae.out⟩
set_option maxHeartbeats 1600000 in
theorem mB (a:Option zp) (l:List mo) (c k:Nat) (w:zq) (hp:nz w ⟨a,l,c⟩) (hl:l.length=k+1) (hk:k≤900) (hb:∀ x∈l,x.l.length≤1000000) :
 zt prog 183 #[zm a (k+1:Nat) c] w (RetPop w ((mf l).take k) (l[k]!).l):=by
 obtain ⟨ad,ha,hab,hcell⟩:=hp.row k (by show k<l.length;omega);have ha:a=some ad:=ha;subst ha;have hcell:w (ad.add k)=some (l[k]!).v:=hcell;have ag:o0 w (l[k]!):=hp.all.at k (by show k<l.length;omega);have ah:=hb (l[k]!) (by rw [og (show k<l.length by omega)];exact Ae _);have hkc:k+1≤c:=by have h:l.length≤c:=hp.le;omega
 have hcm:c≤zy:=hp.cap;obtain ⟨y,hy⟩:∃ y,l[k]! = y:=⟨_,rfl⟩;rw [hy] at hcell ag ah ⊢;obtain ⟨W,hW⟩:∃ W,w.alloc (zn #[zm none 0 0] 54)=W:=⟨_,rfl⟩;have ab:zo w w W:=by rw [← hW];exact (zu w w).alloc (zr _) _
 have hbs:w.heap.size<W.heap.size:=by rw [← hW];simp
 have B:=l6.new w #[zm none 0 0] 54;rw [hW] at B;have hlt:=World.block_lt_of_cell? w _ hcell;have cp:=xY ad c k y W ((ab.cell hlt).trans hcell) hkc hcm;have hpt:=(hp.later ab).take k;have hlk:(l.take k).length=k:=by rw [List.length_take];omega
 have ce:=fun w2 (h:zo W W w2)=>wL (some ad) (l.take k) c w2 (hpt.later h) lg (fun x hx=>hb x (List.mem_of_mem_take hx));rw [hlk,pS] at ce;obtain ⟨ya,yl,yc⟩:=y;simp only at cp ag ah ⊢;have co:=fun w2 (h:zo W W w2)=>BP ya yl yc w2 ((ag.later ab).later h) ah;obtain ⟨m,hm⟩:∃ m,yl.length=m:=⟨_,rfl⟩;have co:∀ w2,zo W W w2→zt prog 205 #[oy ya m yc] w2 fun e w'=>∃ a2 c2,e=zv (oy a2 m c2)∧rp w' w2.heap.size ⟨a2,yl,c2⟩∧zo w2.heap.size w2 w':=fun w2 h=>by rw [← hm];exact co w2 h
 rw [hm] at cp;have HM:=zk hm;have ak:=zk ab;have aw:=zk B;have CP:=zk cp;have CE:=zk ce;have CO:=zk co;have ax:=zk hbs;obtain ⟨L,hL⟩:∃ L,(mf l).take k=L:=⟨_,rfl⟩;rw [hL] at CE ⊢;clear ab B cp ce co hp hl hb ag ah hcell hy hlt hpt hlk hm hkc hcm hab hbs hL;go_enter func183,ntmps183;go_wp2_with fail;refine CP.out.mono ?_;rintro e w1 ⟨rfl,ac⟩;have ay:=zk (An ax.out ac.size);have HX:=zk (l6.new w1 #[zm ya m yc] 54);have HK:=zk ((aw.out.onto ac).alloc (zn #[zm ya m yc] 54));have aa:=zk (ac.alloc ac.size (zn #[zm ya m yc] 54));obtain ⟨w2,az⟩:∃ w2,w1.alloc (zn #[zm ya m yc] 54)=w2:=⟨_,rfl⟩;rw [az] at HX HK aa;have x0:w2.drew ⟨w1,0,none⟩=some (zm ya m yc):=HX.out.cell 0 _ rfl;have al:=zk HX.out.lt;clear ac;go_wp2
 go_region_with (first
  | (go_at_call 204;refine (CE.out _ aa.out.drew).mono ?_;rintro e w3 ⟨a3,c3,l3,rfl,am,an,⟨g3,-,ao,aq⟩,-,ae⟩;have ae:zo w2.heap.size w2 w3:=((zu w2.heap.size w2).drew).trans ae;have x1:=(ae.cell (p:=⟨w1,0,none⟩) al.out).trans x0;have ai:=zk ae;have a0:=zk an;have a1:=zk (fun x hx=>(aq x hx).mono (b2:=w2.heap.size) (Nat.le_succ_of_le ao));have a5:=zk am;clear ae an aq am ao)
  | (go_at_call 205;refine (CO.out _ (aa.out.trans (ai.out.mono aa.out.size))).mono ?_;rintro e w4 ⟨a4,c4,rfl,ar,aj⟩;have au:=zk (ai.out.trans (aj.mono ai.out.size));have a6:=zk ar;have a7:=zk (a0.out.below aj);have a8:=zk (fun x hx=>(a1.out x hx).below aj);have k5:=HK.out.onto au.out;have x5:w4 ⟨w,0,none⟩=some (zm none 0 0):=k5.cell 0 _ rfl;have x6:=k5.free 0;clear aj ar k5))
 all_goals
  have q4:(w4.setCell ⟨w,0,none⟩ (zm a4 m c4)) ⟨w,0,none⟩=some (zm a4 m c4):=World.cell?_setCell_same' _ _ _ (by rw [x5];rfl);go_wp2;refine Am (v:=Af #[zm a3 l3.length c3,oy a4 m c4,zx zw 0]) (by simp [results,results183,go_sem,q4]) rfl ?_;have af:w.heap.size<w2:=Nat.lt_trans ay.out al.out;have av:w.heap.size<w3:=An af ai.out.size;exact ⟨a3,c3,l3,a4,c4,by rw [HM.out],a5.out,(a7.out.set (p:=⟨w,0,none⟩) af x5 _).mono (Ag af),fun x hx=>((a8.out x hx).set (p:=⟨w,0,none⟩) af _).mono (Ag af),(a6.out.set (p:=⟨w,0,none⟩) av _).mono (Ag av),(ak.out.trans ((aa.out.trans (au.out.mono aa.out.size)).mono ak.out.size)).setCell (p:=⟨w,0,none⟩) (zr _) _⟩
def PopS (l:List mo) (a:Option zp) (c n:Nat) (ra:Option zp) (rk rc:Nat) (ta:Option zp) (tn tc:Nat) (ok:Bool):Prop:=
 (n=0∧ra=none∧rk=0∧rc=0∧ta=none∧tn=0∧tc=0∧ok=false) ∨
 (∃ k,n=k+1∧ra=a∧rk=k∧rc=c∧ta=(l[k]!).a∧tn=(l[k]!).l.length∧tc=(l[k]!).c∧ok=true)
def popM (rv ov:Value):Nat:=match ov,rv with
 | .bool true,zm _ k _=>k+1
 | _,_=>0
theorem PopS.m {l:List mo} {a:Option zp} {c n:Nat} {ra:Option zp} {rk rc:Nat} {ta:Option zp} {tn tc:Nat} {ok:Bool} (h:PopS l a c n ra rk rc ta tn tc ok):popM (zm ra rk rc) (zz ok)=n:=by
 rcases h with ⟨rfl,-,-,-,-,-,-,rfl⟩|⟨k,rfl,-,rfl,-,-,-,-,rfl⟩
 ·rfl
 ·rfl
theorem BU (l:List mo) (a:Option zp) (c n:Nat) (w:zq) (hp:nz w ⟨a,l,c⟩) (hn:n≤l.length) :
 zt prog 131 #[zm a n c] w fun e w'=>∃ ra rk rc ta tn tc ok,e=zv (Af #[zm ra rk rc,oy ta tn tc,zz ok])∧PopS l a c n ra rk rc ta tn tc ok∧zo w w w':=by
 cases n with
 | zero=>exact (xW a c w).mono fun e w' ⟨he,hb⟩=>⟨none,0,0,none,0,0,false,he,.inl ⟨rfl,rfl,rfl,rfl,rfl,rfl,rfl,rfl⟩,hb⟩
 | succ k =>
  obtain ⟨ad,ha,-,hc⟩:=hp.row k (by show k<l.length;omega);have ha:a=some ad:=ha;subst ha;have h:=xY ad c k (l[k]!) w hc (by have h:l.length≤c:=hp.le;omega) hp.cap;exact h.mono fun e w' ⟨he,hb⟩=>⟨some ad,k,c,_,_,_,true,he,.inr ⟨k,rfl,rfl,rfl,rfl,rfl,rfl,rfl,rfl⟩,hb⟩
structure ByF (f:List l8→List l8) (F:FuncId):Prop where
 enter:∀ (args:Array Value) (w:zq),(callFunc F args).run prog w=.ok (.enter F args) w
 len:∀ l,(f l).length=l.length
 z:∀ l b,sh l b→sh (f l) b
 call:∀ (a:Option zp) (l:List l8) (c:Nat) (w:zq),o0 w ⟨a,l,c⟩→l.length≤100000→zt prog F #[oy a l.length c] w fun e w'=>∃ a' c',e=zv (oy a' (f l).length c')∧o0 w' ⟨a',f l,c'⟩∧zo w w w'
theorem FD:ByF md 87:=⟨fun _ _=>lm,aF,fun _ _ h=>h.inv,fun a l c w h hl =>
 (pN a l c w h.row hl).mono fun e w' ⟨a',c',he,hr,hb⟩=>⟨a',c',he,hr.in,hb⟩⟩
theorem QW:ByF id 108:=⟨fun _ _=>lm,fun _=>rfl,fun _ _ h=>h,fun a l c w h hl =>
 (MC a l.length c w).mono fun e w' ⟨he,hb⟩=>⟨a,c,he,h.later hb,hb⟩⟩
def HeadR (f:List l8→List l8) (l:List mo) (a:Option zp) (c:Nat) (R:Bool) (w:zq) (tv rv bv ov:Value) (wr:zq):Prop:=
 ∃ (m:Nat) (s:ByteArray) (b:Nat) (ra:Option zp) (rk rc:Nat) (ta:Option zp) (tn tc:Nat) (ok:Bool),
  tv=Aa s∧rv=zm ra rk rc∧bv=.pointer (some ⟨b,0,none⟩)∧ov=zz ok∧PopS l a c m ra rk rc ta tn tc ok∧m≤l.length∧s.size≤140737488355328∧qi f s ((mf l).take m).reverse=R ∧
  w≤b∧b<wr∧wr ⟨b,0,none⟩=some (zm ta tn tc)∧wr.frozen? ⟨b,0,none⟩=false∧zo w w wr
set_option maxHeartbeats 3200000 in
theorem vJ {f:List l8→List l8} {F:FuncId} (by1:ByF f F) (t:ByteArray) (a:Option zp) (l:List mo) (c:Nat) (w:zq) (hp:nz w ⟨a,l,c⟩) (ht:t.size≤140737488355328) (hl:l.length≤1000000) (hb:∀ x∈l,x.l.length≤100000∧sh x.l 140737488355328) :
 zt prog 103 #[Aa t,zm a l.length c,.func (.func F) #[] #[]] w fun e w'=>e=zv (zz (mq f t (mf l)))∧zo w w w':=by
 have he:(mq f t (mf l))=(qi f t (mf l).reverse && decide (l.length≤16)):=by unfold mq;rw [aD]
 rw [he];obtain ⟨n,hn⟩:∃ n,l.length=n:=⟨_,rfl⟩;rw [hn] at hl ⊢;by_cases h16:16<n
 ·have h1:(16:Int)<(n:Int):=lg;have h2:(qi f t (mf l).reverse && decide (n≤16))=false:=by rw [decide_eq_false lg,Bool.and_false]
  rw [h2];clear he h2 hn hp hb;go_enter func103,ntmps103;go_wp2;go_ret;exact ⟨rfl,zu _ _⟩
 have h1:(n:Int)≤16:=lg;rw [decide_eq_true (show n≤16 by omega),Bool.and_true];obtain ⟨R,hR⟩:∃ R,qi f t (mf l).reverse=R:=⟨_,rfl⟩;rw [hR];have av:qi f t ((mf l).take n).reverse=R:=by rw [Ah (by rw [aD,hn];exact zr _)];exact hR
 have ce:=by1.enter;have cp:=BU l a c n w hp lg;have HP:=zk hp;have HN:=zk hn;have ay:=zk av;have az:=zk hb;have CP:=zk cp;have BY:=zk by1;clear hp hn hR av hb cp he by1;go_enter func103,ntmps103;go_wp2_with fail;refine CP.out.mono ?_;rintro e w1 ⟨ra,rk,rc,ta,tn,tc,ok,rfl,hps,aj⟩;have a0:=zk hps;have a1:=zk (aj.alloc aj.size (zn #[zm ta tn tc] 54));have HK:=zk (l6.new w1 #[zm ta tn tc] 54);have a3:=zk aj.size;clear hps aj;go_wp2;clear CP
 go_loopw [0,7,8,9] (fun tv rv bv ov wr=>HeadR f l a c R w tv rv bv ov wr) (fun _ rv _ ov _=>popM rv ov)
 case atStart=>exact ⟨n,t,w1.heap.size,ra,rk,rc,ta,tn,tc,ok,rfl,rfl,rfl,rfl,a0.out,Nat.le_of_eq HN.out.symm,ht,ay.out,a3.out,HK.out.lt,HK.out.cell 0 _ rfl,HK.out.free 0,a1.out⟩
 case round =>
  obtain ⟨m,s,b,ra,rk,rc,ta,tn,tc,ok,rfl,rfl,rfl,rfl,hps,hml,hs,hgo,hwb,hbl,x0,x5,hbel⟩:=hrel;rcases hps with ⟨rfl,rfl,rfl,rfl,rfl,rfl,rfl,rfl⟩|⟨k,rfl,rfl,rfl,rfl,rfl,rfl,rfl,rfl⟩
  ·have h0:R=true:=hgo.symm;subst h0;clear hgo x0 x5;go_wp2;go_ret;exact ⟨rfl,hbel⟩
  ·have hkl:rk<l.length:=hml;rw [lB _ _ (by rw [aD];exact hkl),cO l rk hkl] at hgo;have an:=(HP.out.later hbel).all.at rk hkl;obtain ⟨ad,ak⟩:=az.out (l[rk]!) (by rw [og hkl];exact Ae hkl);obtain ⟨y,hy⟩:∃ y,l[rk]! = y:=⟨_,rfl⟩;rw [hy] at x0 an ad ak hgo;obtain ⟨ya,yl,yc⟩:=y;simp only at x0 ad ak hgo;have cb:=BY.out.call ya yl yc wr an ad;have hz:=BY.out.z yl _ ak;have hlen:=BY.out.len yl;obtain ⟨q,hq⟩:∃ q,yl.length=q:=⟨_,rfl⟩;obtain ⟨Y,hY⟩:∃ Y,f yl=Y:=⟨_,rfl⟩;rw [hY] at cb hz hlen;rw [hlen] at cb;rw [hq] at cb x0 ad hlen;have c1:=fun a' c' W (h:o0 W ⟨a',Y,c'⟩)=>qS s a' Y c' W h.row hs lg hz;have c2:=fun a' c' W (h:o0 W ⟨a',Y,c'⟩)=>iT s a' Y c' W h.row hs lg hz;rw [hlen] at c1 c2;have hsz:=eE (t:=s) (l:=Y);have ae:=fH (f:=f) (t:=s) (x:=yl) (r:=((mf l).take rk).reverse);have ac:=eF (f:=f) (t:=s) (x:=yl) (r:=((mf l).take rk).reverse);rw [hY,hgo] at ae ac;obtain ⟨⟨u,e0⟩,hu⟩:∃ z,ms s Y=z:=⟨_,rfl⟩;obtain ⟨r,hr⟩:∃ r,m9 s Y=r:=⟨_,rfl⟩;rw [hr] at c1 hsz ae ac;rw [hu] at c2 hsz ac;have CB:=zk cb;have C1:=zk c1;have C2:=zk c2;clear cb c1 c2 hgo hy hz hlen an ad ak hq hY hu hr;cases r with
   | false =>
    have h0:=ae rfl;subst h0;clear ae ac hsz;go_wp2_with fail;refine CB.out.mono ?_;rintro e w2 ⟨a2,c2,rfl,af,ab⟩;have aa:zo wr wr (w2.alloc (zn #[zm a2 q c2] 54)):=ab.alloc ab.size _;have al:=zk (af.later ((zu w2 w2).alloc (zr _) (zn #[zm a2 q c2] 54)));have ag:=zk (hbel.trans (aa.mono hbel.size));clear af ab aa x0 x5 hbel;go_wp2_with fail;refine (C1.out _ _ _ al.out).mono ?_;rintro e w3 ⟨rfl,aa⟩;have am:=zk (ag.out.trans (aa.mono ag.out.size));clear aa;go_wp2;go_ret;exact ⟨rfl,am.out⟩
   | true =>
    have h0:=ac rfl;have h1:u.size≤max s.size 4096:=hsz rfl;clear ae ac hsz;have a4:=zk (fun W (hB:zo w w W)=>BU l ra rc rk W (HP.out.later hB) (Ag hkl));go_wp2_with fail;refine CB.out.mono ?_;rintro e w2 ⟨a2,c2,rfl,af,ab⟩;have aa:zo wr wr (w2.alloc (zn #[zm a2 q c2] 54)):=ab.alloc ab.size _;have al:=zk (af.later ((zu w2 w2).alloc (zr _) (zn #[zm a2 q c2] 54)));have a5:=zk (l6.new w2 #[zm a2 q c2] 54);have ag:=zk aa;clear af ab aa;go_wp2_with fail;refine (C1.out _ _ _ al.out).mono ?_;rintro e w3 ⟨rfl,aa⟩;have a6:=zk (al.out.later aa);have y3:w3 ⟨w2,0,none⟩=some (zm a2 q c2):=(a5.out.onto aa).cell 0 _ rfl;have am:=zk (ag.out.trans (aa.mono ag.out.size));clear aa;go_wp2_with fail;refine (C2.out _ _ _ a6.out).mono ?_;rintro e w4 ⟨rfl,aw⟩;have ah:zo wr wr w4:=am.out.trans (aw.mono am.out.size);have z0:=(ah.cell (p:=⟨b,0,none⟩) hbl).trans x0;have ao:=zk ((hbel.trans (ah.mono hbel.size)).alloc (Ab hbel.size ah.size) (zn #[zm ya q yc] 54));have aq:=zk (l6.new w4 #[zm ya q yc] 54);have ax:=zk (Ab hbel.size ah.size);clear aw ah x0 x5 y3 hbel;go_wp2_with fail;refine (a4.out _ ao.out).mono ?_;rintro e w6 ⟨ra',rk',rc',ta',tn',tc',ok',rfl,hps,ai⟩;have q0:w6 ⟨w4,0,none⟩=some (zm ya q yc):=(aq.out.onto ai).cell 0 _ rfl;have q5:=(aq.out.onto ai).free 0;have ar:=zk hps;have au:=zk ((aq.out.onto ai).set 0 (zm ta' tn' tc'));have a7:=zk ((ao.out.trans (ai.mono ao.out.size)).setCell (p:=⟨w4,0,none⟩) ax.out (zm ta' tn' tc'));clear ai hps z0;go_wp2;go_roundw
    case rel=>exact ⟨rk,u,w4.heap.size,ra',rk',rc',ta',tn',tc',ok',rfl,rfl,rfl,rfl,ar.out,Ag hkl,lg,h0.symm,ax.out,au.out.lt,au.out.cell 0 _ rfl,au.out.free 0,a7.out⟩
    case measure =>
     rw [ar.out.m];show rk<rk+1;omega
theorem EN (t:ByteArray) (a:Option zp) (l:List mo) (c:Nat) (w:zq) (hp:nz w ⟨a,l,c⟩) (ht:t.size≤140737488355328) (hl:l.length≤1000000) (hb:∀ x∈l,x.l.length≤100000∧sh x.l 140737488355328) :
 zt prog 82 #[Aa t,zm a l.length c] w fun e w'=>e=zv (zz (mq md t (mf l)))∧zo w w w':=by
 have cr:=vJ FD t a l c w hp ht hl hb;obtain ⟨R,hR⟩:∃ R,mq md t (mf l)=R:=⟨_,rfl⟩;obtain ⟨n,hn⟩:∃ n,l.length=n:=⟨_,rfl⟩;rw [hR,hn] at cr;rw [hR,hn];have CR:=zk cr;clear cr hR hn hp hl hb;go_enter func82,ntmps82;go_wp2_with fail;refine CR.out.mono ?_;rintro e w1 ⟨rfl,aa⟩;go_wp2;go_ret;exact ⟨rfl,aa⟩
theorem FV (t:ByteArray) (a:Option zp) (l:List mo) (c:Nat) (w:zq) (hp:nz w ⟨a,l,c⟩) (ht:t.size≤140737488355328) (hl:l.length≤1000000) (hb:∀ x∈l,x.l.length≤100000∧sh x.l 140737488355328) :
 zt prog 86 #[Aa t,zm a l.length c] w fun e w'=>e=zv (zz (mq id t (mf l)))∧zo w w w':=by
 have cr:=vJ QW t a l c w hp ht hl hb;obtain ⟨R,hR⟩:∃ R,mq id t (mf l)=R:=⟨_,rfl⟩;obtain ⟨n,hn⟩:∃ n,l.length=n:=⟨_,rfl⟩;rw [hR,hn] at cr;rw [hR,hn];have CR:=zk cr;clear cr hR hn hp hl hb;go_enter func86,ntmps86;go_wp2_with fail;refine CR.out.mono ?_;rintro e w1 ⟨rfl,aa⟩;go_wp2;go_ret;exact ⟨rfl,aa⟩
end Go.Proofs.YtbagenpobcgjnaaGreat
