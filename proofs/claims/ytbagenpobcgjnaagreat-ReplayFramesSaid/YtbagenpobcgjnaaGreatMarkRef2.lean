/-
  MarkRef2
-/
import Derived.Test.YtbagenpobcgjnaaGreatJMarkRef
open Go renaming Addr->Aa,Calls->zz,World->zq,info_parts->Ah,maxLen->Ae,wpList_append_own->zt
open Go.Addr renaming add->zy
open Go.IntKind renaming i64->zn
open Go.Lib renaming hid->zk
open Go.RowKit renaming Below->zp,intOf->zr
open Go.RowKit.Below renaming refl->zv
open Go.Value renaming int->zm,slice->zw,string->zo,tuple->Ag
open Go.World renaming ownsRow_nil->Ai
open List renaming length_append->zu
open Nat renaming le_refl->Ab,lt_trichotomy->Ak,not_lt_zero->Aj,zero_le->Ad
namespace Go.Proofs.YtbagenpobcgjnaaGreat
open Go.Proofs.Tryz
set_option maxRecDepth 100000
open Lib (hid)
open Go.RowKit
set_option linter.unusedVariables false
def ot (w:zq) (r:List l9×Int) (e:Ending) (w':zq):Prop:=∃ a c,e=.returned (Ag #[zw a r.1.length c,zm zn r.2])∧td w' w a r.1 c∧zp w w w'
def RetSet (w:zq) (r:List l9×Int) (e:Ending) (w':zq):Prop:=∃ a c,e=.returned (Ag #[zw a r.1.length c,zm zn r.2])∧o4 w' (fun b=>w≤b∧b<w') a r.1∧zp w w w'
theorem ot.ret {w:zq} {r:List l9×Int} {e:Ending} {w':zq} (h:ot w r e w'):RetSet w r e w':=by
 obtain ⟨a,c,e,hr,hb⟩:=h;exact ⟨a,c,e,hr.row,hb⟩
def vw (w0:zq) (o:List l9) (v:Value) (wr:zq):Prop:=wr.ownsRow w0 90 2 v o.length (l9.flat o)∧zp w0 w0 wr
set_option maxHeartbeats 800000 in
theorem iB (a:Option Aa) (l:List l9) (c:Nat) (s:ByteArray) (B:Nat→Prop) (w:zq) (hr:o4 w B a l) (hB:∀ b,B b→b<w.heap.size) (hl:l.length≤1000000) :
 zz prog 48 #[zw a l.length c,zo s] w (ot w (pk l s)):=by
 obtain ⟨i0,hi,ab,ac,ae⟩:=Ah dT;have cf:=fO a l c s B w hr hl;by_cases hfo:l.findIdx (qq s)<l.length
 case neg =>
  have e1:uq l s=(0,false):=by unfold uq;rw [if_neg hfo]
  have e2:pk l s=([],8):=by unfold pk;rw [if_neg hfo]
  rw [e1] at cf;rw [e2];clear e1 e2 hfo;have CF:=zk cf;clear cf hr;obtain ⟨n,hn⟩:∃ n,l.length=n:=⟨_,rfl⟩;rw [hn] at CF ⊢;clear hn;go_enter func48,ntmps48;go_wp2_with fail;refine CF.out.mono ?_;rintro e w1 ⟨rfl,rfl⟩;go_wp2;go_ret2;exact ⟨none,0,rfl,td.none _ _,zv _ _⟩
 have e1:uq l s=((l[l.findIdx (qq s)]!).p,true):=by unfold uq;rw [if_pos hfo]
 have e2:pk l s=(qb l s,0):=by unfold pk;rw [if_pos hfo]
 rw [e1] at cf;rw [e2];obtain ⟨pp,hpp⟩:∃ p,(l[l.findIdx (qq s)]!).p=p:=⟨_,rfl⟩;rw [hpp] at cf;clear e1 e2 hfo hpp;obtain ⟨n,hn⟩:∃ n,l.length=n:=⟨_,rfl⟩;rw [hn] at hl cf ⊢;have HN:=zk hn;have HR:=zk hr;have CF:=zk cf;clear hn hr cf;go_enter func48,ntmps48;go_wp2_with fail;refine CF.out.mono ?_;rintro e w1 ⟨rfl,rfl⟩;go_wp2
 go_loopw [8,9] (fun v i wr=>∃ k:Nat,k≤n∧i=zm zn k∧vw w (qb (l.take k) s) v wr) (fun _ i _=>n - (zr i).toNat)
 case atStart=>exact ⟨0,Ad _,rfl,Ai _ _ _ _,zv _ _⟩
 case round =>
  obtain ⟨k,hk,rfl,hown,hbel⟩:=hrel;by_cases hlt:k<n
  ·have hkl:k<l.length:=by rw [HN.out];exact hlt
   obtain ⟨ad,rfl,hab,q0,q1⟩:=(HR.out.below hB hbel) k hkl;rw [← o3 hkl] at q0 q1;have hs:=FC l s k hkl;have ht:=DL l s k hkl;have hlen:=mS (l.take k) s;have hlk:(l.take k).length≤k:=List.length_take_le _ _;obtain ⟨x,hx⟩:∃ x,l[k]! = x:=⟨_,rfl⟩;rw [hx] at q0 q1 hs ht;obtain ⟨nm,id⟩:=x;simp only at q0 q1 hs ht;clear hx;have b0:(0:Int)≤(k:Int):=lg;have b1:(k:Int)<(n:Int):=lg;by_cases he:nm=s
   ·have HS:=zk (hs he);clear hs ht;subst he;go_wp2;go_roundw
    case rel=>exact ⟨k+1,lg,by go_num,by rw [HS.out];exact ⟨hown,hbel⟩⟩
    case measure=>simp [zr];omega
   ·have HS:=zk (ht he);clear hs ht;have hne:=dQ he;have ag:(nm.toList != s.toList)=true:=by rw [bne,hne];rfl
    clear he;go_wp2_with (at_builtin;refine zt _ rfl _ _ 22 rfl w.heap.size 90 i0 _ 2 24 underlying22 hi ab ac ae rfl lj _ _ _ rfl (hown.alloc _) ⟨wr,0,none⟩ 1 1 [zo nm,zm zn id] rfl rfl (aY _ _ _ _) (bA _ _) lq lg (by have:=hbel.size;simp;omega) ?_;intro v' w1 hown' hgrow _);have aa:zp w w w1:=(hbel.alloc hbel.size _).grown hgrow (by have:=hbel.size;simp;omega) (aB hown);have R:vw w (qb (l.take (k+1)) s) v' w1:=⟨by rw [HS.out,l9.flat_app,zu];exact hown',aa⟩;have RR:=zk R;clear hown' hgrow hown hbel aa R;go_wp2;go_roundw
    case rel=>exact ⟨k+1,lg,by go_num,RR.out⟩
    case measure=>simp [zr];omega
  ·obtain rfl:k=n:=lg;rw [List.take_of_length_le (by rw [HN.out];exact Ab _)] at hown;obtain ⟨ad,cp,rfl,hn⟩:=dB hown;have af:=zk hn;clear hn hown;go_wp2;go_ret2;exact ⟨ad,cp,rfl,af.out,hbel⟩
theorem gU {w wr:zq} {x y:Value} {t:TypeId} {N:Nat} (hN:w<N) (h:zp N (w.alloc (.cells #[x,y] t)) wr):wr ⟨w,0,none⟩=some x∧wr ⟨w,1,none⟩=some y:=by
 refine ⟨(h.cell (p:=⟨w,0,none⟩) hN).trans ?_,(h.cell (p:=⟨w,1,none⟩) hN).trans ?_⟩ <;> simp [World.cell?_alloc_new]
theorem mP {w w':zq} {o:Obj} {N:Nat} (hN:w≤N) (h:zp N (w.alloc o) w'):zp w w w':=((zv w w).alloc (Ab _) _).trans (h.mono hN)
set_option maxHeartbeats 3200000 in
theorem zP (a:Option Aa) (n:Nat) (c:Nat) (x:l9) (w:zq) (hx:x.name.size≤Ae) (hm:mv x.name.data.toList=false) :
 zz prog 73 #[zw a n c,x.v] w (ot w ([],7)):=by
 obtain ⟨xn,xp⟩:=x;have cm:=bQ xn hx;rw [hm] at cm;have CM:=zk cm;clear cm hm;go_enter func73,ntmps73;go_wp2_with fail;refine (CM.out _).mono ?_;rintro e w1 ⟨rfl,rfl⟩;go_wp2;go_ret2;exact ⟨none,0,rfl,td.none _ _,(zv w w).alloc (Ab _) _⟩
set_option maxHeartbeats 3200000 in
theorem AK (a:Option Aa) (l:List l9) (c:Nat) (x:l9) (B:Nat→Prop) (w:zq) (hr:o4 w B a l) (hB:∀ b,B b→b<w.heap.size) (hl:l.length≤1000000) (hx:x.name.size≤Ae) (hm:mv x.name.data.toList=true) (hno:¬ l.findIdx (qq x.name)<l.length) (h16:16≤l.length) :
 zz prog 73 #[zw a l.length c,x.v] w (ot w ([],9)):=by
 obtain ⟨xn,xp⟩:=x;have cm:=bQ xn hx;rw [hm] at cm;have aa:zp w w (w.alloc (.cells #[zo xn,zm zn xp] 90)):=(zv w w).alloc (Ab _) _;have cf:=fO a l c xn B _ (hr.below hB aa) hl;have e1:uq l xn=(0,false):=by unfold uq;rw [if_neg hno]
 rw [e1] at cf;obtain ⟨n,hn⟩:∃ n,l.length=n:=⟨_,rfl⟩;rw [hn] at hl h16 cf ⊢;have CM:=zk cm;have CF:=zk cf;clear cm hm cf e1 hno hn hr;have h16':(16:Int)≤(n:Int):=lg;go_enter func73,ntmps73;go_wp2_with fail;refine (CM.out _).mono ?_;rintro e w1 ⟨rfl,rfl⟩;go_wp2_with fail;refine CF.out.mono ?_;rintro e w1 ⟨rfl,rfl⟩;go_wp2;go_ret2;exact ⟨none,0,rfl,td.none _ _,aa⟩
set_option maxHeartbeats 3200000 in
theorem GJ (a:Option Aa) (l:List l9) (c:Nat) (x:l9) (B:Nat→Prop) (w:zq) (hr:o4 w B a l) (hB:∀ b,B b→b<w.heap.size) (hl:l.length≤1000000) (hx:x.name.size≤Ae) (hm:mv x.name.data.toList=true) (hno:¬ l.findIdx (qq x.name)<l.length) (h16:¬ 16≤l.length) :
 zz prog 73 #[zw a l.length c,x.v] w (ot w (pc l x,0)):=by
 obtain ⟨i0,hi,ae,af,ag⟩:=Ah dT;obtain ⟨xn,xp⟩:=x;have cm:=bQ xn hx;rw [hm] at cm;have aj:zp w w (w.alloc (.cells #[zo xn,zm zn xp] 90)):=(zv w w).alloc (Ab _) _;have cf:=fO a l c xn B _ (hr.below hB aj) hl;have e1:uq l xn=(0,false):=by unfold uq;rw [if_neg hno]
 rw [e1] at cf;obtain ⟨wX,hwX⟩:∃ wX,w.alloc (.cells #[zo xn,zm zn xp] 90)=wX:=⟨_,rfl⟩;obtain ⟨x0,x1⟩:=gU (N:=w.heap.size+1) lg (zv (w+1) (w.alloc (.cells #[zo xn,zm zn xp] 90)));have ai:w.heap.size+1≤wX.heap.size:=by rw [← hwX];simp
 have he:∀ w' ad cp,td w' w ad (pc l ⟨xn,xp⟩) cp→zp wX.heap.size wX w'→ot w (pc l ⟨xn,xp⟩,0) (.returned (Ag #[zw ad (pc l ⟨xn,xp⟩).length cp,zm zn 0])) w':=fun w' ad cp h1 h2=>⟨ad,cp,rfl,h1,mP (N:=wX.heap.size) lg (by rw [hwX];exact h2)⟩;have hrX:o4 wX (·<wX) a l:=by rw [← hwX];exact (hr.below hB aj).more fun b hb=>by have:=hB b hb;simp;omega
 rw [hwX] at cf x0 x1;obtain ⟨L,hL⟩:∃ L,l=L:=⟨_,rfl⟩;rw [hL] at cf he hrX hl h16 ⊢;obtain ⟨n,hn⟩:∃ n,L.length=n:=⟨_,rfl⟩;rw [hn] at cf hl h16 ⊢;have CM:=zk cm;have CF:=zk cf;have HR:=zk hrX;have HN:=zk hn;have HE:=zk he;have aq:=zk hwX;have h16':(n:Int)<16:=lg;clear cm hm cf e1 hno hn hr aj hrX he hL;go_enter func73,ntmps73;go_wp2_with fail;refine (CM.out _).mono ?_;rintro e w1 ⟨rfl,rfl⟩;go_wp2_with fail;refine CF.out.mono ?_;rintro e w1 ⟨rfl,rfl⟩;clear hwX;have ak:=zk (fun t (ht:t<L.findIdx (sf xn))=>fX ht);have al:=zk (fun h:L.findIdx (sf xn)<L.length=>jU h);have am:=zk (jL L (sf xn));have hput:pc L ⟨xn,xp⟩=xf L ⟨xn,xp⟩ (L.findIdx (sf xn)):=rfl;obtain ⟨j,hj⟩:∃ j,L.findIdx (sf xn)=j:=⟨_,rfl⟩;rw [hj] at ak al am hput;have HP:=zk hput;clear hj hput;have jn:j≤n:=by have:=am.out;rw [HN.out] at this;exact this
 go_wp2
 go_loopw [8,9,10] (fun v d i wr=>∃ k:Nat,k≤n∧i=zm zn k∧d=.bool (decide (j<k))∧vw wX (oa L ⟨xn,xp⟩ j k) v wr) (fun _ _ i _=>n - (zr i).toNat)
 case atStart=>exact ⟨0,Ad _,rfl,by rw [decide_eq_false (Aj _)],by unfold oa;rw [if_pos (Ad _)];exact ⟨Ai _ _ _ _,zv _ _⟩⟩
 case round =>
  obtain ⟨k,hk,rfl,rfl,hown,hbel⟩:=hrel;have y0:=(hbel.cell (p:=⟨w,0,none⟩) (show w.heap.size<wX by have:=ai;omega)).trans x0;have y1:=(hbel.cell (p:=⟨w,1,none⟩) (show w.heap.size<wX by have:=ai;omega)).trans x1;have hlen:=uG L ⟨xn,xp⟩ j k (by rw [HN.out];exact hk);by_cases hlt:k<n
  ·have hkl:k<L.length:=by rw [HN.out];exact hlt
   obtain ⟨ad,rfl,hab,q0,q1⟩:=(HR.out.below (fun _ h=>h) hbel) k hkl;have hab:ad.block<wX:=hab;rw [← o3 hkl] at q0 q1;have s1:=fun h=>oE (l:=L) (x:=⟨xn,xp⟩) (j:=j) (k:=k) hkl h;have s2:=fun h:j<k=>mF (l:=L) (x:=⟨xn,xp⟩) (j:=j) (k:=k) hkl h;have s3:j=k→oa L ⟨xn,xp⟩ j (k+1)=oa L ⟨xn,xp⟩ j k++[⟨xn,xp⟩]++[L[k]!]:=fun h=>by rw [h];exact wI hkl
   have g1:k<j→sf xn L[k]! = false:=fun h=>ak.out k h;have g2:j=k→sf xn L[k]! = true:=fun h=>by have:=al.out (by rw [h];exact hkl);rw [h] at this;exact this
   unfold sf at g1 g2;obtain ⟨y,hy⟩:∃ y,L[k]! = y:=⟨_,rfl⟩;rw [hy] at q0 q1 s1 s2 s3 g1 g2;obtain ⟨nm,id⟩:=y;simp only at q0 q1 g1 g2;obtain ⟨o,ho⟩:∃ o,oa L ⟨xn,xp⟩ j k=o:=⟨_,rfl⟩;rw [ho] at s1 s2 s3 hown hlen;clear hy ho;have b0:(0:Int)≤(k:Int):=lg;have b1:(k:Int)<(n:Int):=lg;rcases Ak k j with hkj|hkj|hkj
   ·have HS:=zk (s1 hkj);have g3:rz nm xn=true:=by have:=g1 hkj;simpa using this
    rw [show decide (j<k)=false from decide_eq_false lg];have FL:=zk (show decide (j<k+1)=false from decide_eq_false lg);clear s1 s2 s3 g1 g2;rcases lH g3 with g|g
    ·clear g3;go_wp2_with fail;go_quiet (fail);have F:(wr.drewN nq) (ad.add (k * 2))=some (zo nm)∧(wr.drewN nq) ⟨(ad.add (k * 2)).block,(ad.add (k * 2)).off+1,none⟩=some (zm zn id)∧(wr.drewN nq) ⟨w,0,none⟩=some (zo xn)∧(wr.drewN nq) ⟨w,1,none⟩=some (zm zn xp) ∧
      (wr.drewN nq).ownsRow wX 90 2 u8 o.length (l9.flat o)∧zp wX wX (wr.drewN nq):=⟨q0,q1,y0,y1,hown,aC hbel _⟩
     clear q0 q1 y0 y1 hown hbel;generalize wr.drewN nq=wx at F ⊢;obtain ⟨q0,q1,y0,y1,hown,hbel⟩:=F;have tok1:True:=trivial;go_wp2_with (at_builtin;have _t:=tok1;go_loud (refine zt _ rfl _ _ 22 rfl wX.heap.size 90 i0 _ 2 24 underlying22 hi ae af ag rfl lj _ _ _ rfl (hown.alloc _) ⟨wx,0,none⟩ 1 1 [zo nm,zm zn id] rfl rfl (aY _ _ _ _) (bA _ _) lq lg (by have:=hbel.size;simp at this ⊢;omega) ?_);intro v1 w1 ab ac _;clear tok1);have aa:zp wX wX w1:=(hbel.alloc hbel.size _).grown ac (by have:=hbel.size;simp at this ⊢;omega) (aB hown);have R:vw wX (oa L ⟨xn,xp⟩ j (k+1)) v1 w1:=⟨by rw [HS.out,l9.flat_app,zu];exact ab,aa⟩;have RR:=zk R;clear ac hown hbel ab aa q0 q1 y0 y1 R;go_wp2;go_roundw
     case rel=>exact ⟨k+1,lg,by go_num,by rw [FL.out],RR.out⟩
     case measure=>simp [zr];omega
    ·subst g;clear g3;go_wp2_with fail;go_quiet (fail);have F:(wr.drewN nq) (ad.add (k * 2))=some (zo nm)∧(wr.drewN nq) ⟨(ad.add (k * 2)).block,(ad.add (k * 2)).off+1,none⟩=some (zm zn id)∧(wr.drewN nq) ⟨w,0,none⟩=some (zo nm)∧(wr.drewN nq) ⟨w,1,none⟩=some (zm zn xp) ∧
      (wr.drewN nq).ownsRow wX 90 2 u8 o.length (l9.flat o)∧zp wX wX (wr.drewN nq):=⟨q0,q1,y0,y1,hown,aC hbel _⟩
     clear q0 q1 y0 y1 hown hbel;generalize wr.drewN nq=wx at F ⊢;obtain ⟨q0,q1,y0,y1,hown,hbel⟩:=F;have tok1:True:=trivial;go_wp2_with (at_builtin;have _t:=tok1;go_loud (refine zt _ rfl _ _ 22 rfl wX.heap.size 90 i0 _ 2 24 underlying22 hi ae af ag rfl lj _ _ _ rfl (hown.alloc _) ⟨wx,0,none⟩ 1 1 [zo nm,zm zn id] rfl rfl (aY _ _ _ _) (bA _ _) lq lg (by have:=hbel.size;simp at this ⊢;omega) ?_);intro v1 w1 ab ac _;clear tok1);have aa:zp wX wX w1:=(hbel.alloc hbel.size _).grown ac (by have:=hbel.size;simp at this ⊢;omega) (aB hown);have R:vw wX (oa L ⟨nm,xp⟩ j (k+1)) v1 w1:=⟨by rw [HS.out,l9.flat_app,zu];exact ab,aa⟩;have RR:=zk R;clear ac hown hbel ab aa q0 q1 y0 y1 R;go_wp2;go_roundw
     case rel=>exact ⟨k+1,lg,by go_num,by rw [FL.out],RR.out⟩
     case measure=>simp [zr];omega
   ·have HS:=zk (s3 hkj.symm);have g3:rz nm xn=false:=by have:=g2 hkj.symm;simpa using this
    rw [show decide (j<k)=false from decide_eq_false lg];have FL:=zk (show decide (j<k+1)=true from decide_eq_true lg);clear s1 s2 s3 g1 g2;obtain ⟨g1,g2⟩:=oV g3;have ar:j≤k:=lg;have au:k≤j:=lg;clear g3 hkj;go_wp2_with fail;go_quiet (fail);have F:(wr.drewN nq) (ad.add (k * 2))=some (zo nm)∧(wr.drewN nq) ⟨(ad.add (k * 2)).block,(ad.add (k * 2)).off+1,none⟩=some (zm zn id)∧(wr.drewN nq) ⟨w,0,none⟩=some (zo xn)∧(wr.drewN nq) ⟨w,1,none⟩=some (zm zn xp) ∧
     (wr.drewN nq).ownsRow wX 90 2 u8 o.length (l9.flat o)∧zp wX wX (wr.drewN nq):=⟨q0,q1,y0,y1,hown,aC hbel _⟩
    clear q0 q1 y0 y1 hown hbel;generalize wr.drewN nq=wx at F ⊢;obtain ⟨q0,q1,y0,y1,hown,hbel⟩:=F;have tok1:True:=trivial
    go_upto_region 16 with (at_builtin;have _t:=tok1;go_loud (refine zt _ rfl _ _ 22 rfl wX.heap.size 90 i0 _ 2 24 underlying22 hi ae af ag rfl lj _ _ _ rfl (hown.alloc _) ⟨wx,0,none⟩ 1 1 [zo xn,zm zn xp] rfl rfl (aY _ _ _ _) (bA _ _) lq lg (by have:=hbel.size;simp at this ⊢;omega) ?_);intro v1 w1 ab ac _;clear tok1)
    have aa:zp wX wX w1:=(hbel.alloc hbel.size _).grown ac (by have:=hbel.size;simp at this ⊢;omega) (aB hown);have e0:w1 (ad.add (k * 2))=some (zo nm):=(aa.cell (p:=ad.add (k * 2)) (by rw [show (ad.add (k * 2)).block=ad.block by unfold zy;split <;> rfl];exact hab)).trans ((hbel.cell (p:=ad.add (k * 2)) (by rw [show (ad.add (k * 2)).block=ad.block by unfold zy;split <;> rfl];exact hab)).symm.trans q0);have e1:w1 ⟨(ad.add (k * 2)).block,(ad.add (k * 2)).off+1,none⟩=some (zm zn id):=(aa.cell (p:=⟨(ad.add (k * 2)).block,(ad.add (k * 2)).off+1,none⟩) (by show (ad.add (k * 2)).block<_;rw [show (ad.add (k * 2)).block=ad.block by unfold zy;split <;> rfl];exact hab)).trans ((hbel.cell (p:=⟨(ad.add (k * 2)).block,(ad.add (k * 2)).off+1,none⟩) (by show (ad.add (k * 2)).block<_;rw [show (ad.add (k * 2)).block=ad.block by unfold zy;split <;> rfl];exact hab)).symm.trans q1);clear ac hown hbel q0 q1 y0 y1;have tok2:True:=trivial;go_wp2_with (at_builtin;have _t:=tok2;go_loud (refine zt _ rfl _ _ 22 rfl wX.heap.size 90 i0 _ 2 24 underlying22 hi ae af ag rfl lj _ _ _ rfl (ab.alloc _) ⟨w1,0,none⟩ 1 1 [zo nm,zm zn id] rfl rfl (aY _ _ _ _) (bA _ _) lq lg (by have:=aa.size;simp at this ⊢;omega) ?_);intro v2 w2 ah an _;clear tok2);have ao:zp wX wX w2:=(aa.alloc aa.size _).grown an (by have:=aa.size;simp at this ⊢;omega) (aB ab);have R:vw wX (oa L ⟨xn,xp⟩ j (k+1)) v2 w2:=⟨by rw [HS.out,l9.flat_app,l9.flat_app,zu,zu];exact ah,ao⟩;have RR:=zk R;clear ab aa ah an ao e0 e1 R;go_wp2;go_roundw
    case rel=>exact ⟨k+1,lg,by go_num,by rw [FL.out],RR.out⟩
    case measure=>simp [zr];omega
   ·have HS:=zk (s2 hkj);rw [show decide (j<k)=true from decide_eq_true lg];have FL:=zk (show decide (j<k+1)=true from decide_eq_true lg);clear s1 s2 s3 g1 g2;go_wp2_with fail;go_quiet (fail);have F:(wr.drewN nq) (ad.add (k * 2))=some (zo nm)∧(wr.drewN nq) ⟨(ad.add (k * 2)).block,(ad.add (k * 2)).off+1,none⟩=some (zm zn id)∧(wr.drewN nq) ⟨w,0,none⟩=some (zo xn)∧(wr.drewN nq) ⟨w,1,none⟩=some (zm zn xp) ∧
     (wr.drewN nq).ownsRow wX 90 2 u8 o.length (l9.flat o)∧zp wX wX (wr.drewN nq):=⟨q0,q1,y0,y1,hown,aC hbel _⟩
    clear q0 q1 y0 y1 hown hbel;generalize wr.drewN nq=wx at F ⊢;obtain ⟨q0,q1,y0,y1,hown,hbel⟩:=F;have tok1:True:=trivial;go_wp2_with (at_builtin;have _t:=tok1;go_loud (refine zt _ rfl _ _ 22 rfl wX.heap.size 90 i0 _ 2 24 underlying22 hi ae af ag rfl lj _ _ _ rfl (hown.alloc _) ⟨wx,0,none⟩ 1 1 [zo nm,zm zn id] rfl rfl (aY _ _ _ _) (bA _ _) lq lg (by have:=hbel.size;simp at this ⊢;omega) ?_);intro v1 w1 ab ac _;clear tok1);have aa:zp wX wX w1:=(hbel.alloc hbel.size _).grown ac (by have:=hbel.size;simp at this ⊢;omega) (aB hown);have R:vw wX (oa L ⟨xn,xp⟩ j (k+1)) v1 w1:=⟨by rw [HS.out,l9.flat_app,zu];exact ab,aa⟩;have RR:=zk R;clear ac hown hbel ab aa q0 q1 y0 y1 R;go_wp2;go_roundw
    case rel=>exact ⟨k+1,lg,by go_num,by rw [FL.out],RR.out⟩
    case measure=>simp [zr];omega
  ·obtain rfl:k=n:=lg;by_cases hjk:j<k
   ·rw [show decide (j<k)=true from decide_eq_true hjk];have he:oa L ⟨xn,xp⟩ j k=pc L ⟨xn,xp⟩:=by rw [HP.out,← HN.out];exact sG (by rw [HN.out];exact hjk)
    rw [he] at hown;obtain ⟨ad,cp,rfl,hn⟩:=dB hown;have Z:=zk (HE.out wr ad cp (hn.more (by have:=ai;omega)) hbel);clear hn hown hlen he hbel y0 y1;go_wp2;go_ret2;exact Z.out
   ·rw [show decide (j<k)=false from decide_eq_false hjk];obtain rfl:j=k:=lg;have he:oa L ⟨xn,xp⟩ j j++[⟨xn,xp⟩]=pc L ⟨xn,xp⟩:=by rw [HP.out,← HN.out];exact pX
    obtain ⟨o,ho⟩:∃ o,oa L ⟨xn,xp⟩ j j=o:=⟨_,rfl⟩;rw [ho] at he hown hlen;have HW:=zk he;clear ho he hjk;have tok1:True:=trivial;go_wp2_with (at_builtin;have _t:=tok1;go_loud (refine zt _ rfl _ _ 22 rfl wX.heap.size 90 i0 _ 2 24 underlying22 hi ae af ag rfl lj _ _ _ rfl (hown.alloc _) ⟨wr,0,none⟩ 1 1 [zo xn,zm zn xp] rfl rfl (aY _ _ _ _) (bA _ _) lq lg (by have:=hbel.size;simp at this ⊢;omega) ?_);intro v1 w1 ab ac _;clear tok1);have aa:zp wX wX w1:=(hbel.alloc hbel.size _).grown ac (by have:=hbel.size;simp at this ⊢;omega) (aB hown);have ah:w1.ownsRow wX 90 2 v1 (pc L ⟨xn,xp⟩).length (l9.flat (pc L ⟨xn,xp⟩)):=by
     rw [← HW.out,l9.flat_app,zu];exact ab
    obtain ⟨ad,cp,rfl,hn⟩:=dB ah;have Z:=zk (HE.out w1 ad cp (hn.more (by have:=ai;omega)) aa);clear hn ab ah ac aa hbel hown y0 y1;go_wp2;go_ret2;exact Z.out
set_option maxHeartbeats 3200000 in
theorem EI (a:Option Aa) (l:List l9) (c:Nat) (x:l9) (B:Nat→Prop) (w:zq) (hr:o4 w B a l) (hB:∀ b,B b→b<w.heap.size) (hl:l.length≤1000000) (hx:x.name.size≤Ae) (hm:mv x.name.data.toList=true) (hyes:l.findIdx (qq x.name)<l.length) :
 zz prog 73 #[zw a l.length c,x.v] w (ot w (pc (qb l x.name) x,0)):=by
 obtain ⟨i0,hi,af,ag,ah⟩:=Ah dT;obtain ⟨xn,xp⟩:=x;have cm:=bQ xn hx;rw [hm] at cm;have ak:zp w w (w.alloc (.cells #[zo xn,zm zn xp] 90)):=(zv w w).alloc (Ab _) _;have cf:=fO a l c xn B _ (hr.below hB ak) hl;have cd:=(iB a l c xn B _ (hr.below hB ak) (fun b hb=>by have:=hB b hb;simp;omega) hl).mono fun _ _ h=>ot.ret h;have hyes:l.findIdx (qq xn)<l.length:=hyes;have e1:uq l xn=((l[l.findIdx (qq xn)]!).p,true):=by unfold uq;rw [if_pos hyes]
 have e2:pk l xn=(qb l xn,0):=by unfold pk;rw [if_pos hyes]
 rw [e1] at cf;rw [e2] at cd;have hL:(qb l xn).length≤1000000:=by have:=mS l xn;omega
 obtain ⟨L,hLe⟩:∃ L,qb l xn=L:=⟨_,rfl⟩;obtain ⟨pp,hpp⟩:∃ p,(l[l.findIdx (qq xn)]!).p=p:=⟨_,rfl⟩;show zz _ _ _ w (ot w (pc (qb l xn) ⟨xn,xp⟩,0));rw [hLe] at cd hL ⊢;rw [hpp] at cf;obtain ⟨n0,al⟩:∃ n,l.length=n:=⟨_,rfl⟩;rw [al] at cf cd ⊢;obtain ⟨n,hn⟩:∃ n,L.length=n:=⟨_,rfl⟩;rw [hn] at hL;have hl:n≤1000000:=hL;have CM:=zk cm;have CF:=zk cf;have CD:=zk cd;have HN:=zk hn;clear cm hm cf cd e1 e2 hyes hn al hr ak hLe hpp hL;obtain ⟨k0,k1⟩:=gU (N:=w.heap.size+1) lg (zv (w+1) (w.alloc (.cells #[zo xn,zm zn xp] 90)));go_enter func73,ntmps73;go_wp2_with fail;refine (CM.out _).mono ?_;rintro e w1 ⟨rfl,rfl⟩;go_wp2_with fail;refine CF.out.mono ?_;rintro e w1 ⟨rfl,rfl⟩;go_wp2_with fail;refine CD.out.mono ?_;rintro e wX ⟨a2,c2,am,an,ae⟩;rw [show (L,(0:Int)).1.length=n from HN.out] at am;subst am;obtain ⟨x0,x1⟩:=gU (N:=(w.alloc (.cells #[zo xn,zm zn xp] 90)).heap.size) li ae;have ai:w.heap.size+1≤wX:=by have:=ae.size;simpa using this
 have he:∀ w' ad cp,td w' w ad (pc L ⟨xn,xp⟩) cp→zp wX wX w'→ot w (pc L ⟨xn,xp⟩,0) (.returned (Ag #[zw ad (pc L ⟨xn,xp⟩).length cp,zm zn 0])) w':=fun w' ad cp h1 h2=>⟨ad,cp,rfl,h1,mP (N:=w.heap.size+1) lg ((ae.mono li).trans (h2.mono ai))⟩;have HE:=zk he;have HR:=zk (an.more (B':=(·<wX)) fun b hb=>hb.2);clear an ae he k0 k1;have ao:=zk (fun t (ht:t<L.findIdx (sf xn))=>fX ht);have aq:=zk (fun h:L.findIdx (sf xn)<L.length=>jU h);have ar:=zk (jL L (sf xn));have hput:pc L ⟨xn,xp⟩=xf L ⟨xn,xp⟩ (L.findIdx (sf xn)):=rfl;obtain ⟨j,hj⟩:∃ j,L.findIdx (sf xn)=j:=⟨_,rfl⟩;rw [hj] at ao aq ar hput;have HP:=zk hput;clear hj hput;have jn:j≤n:=by have:=ar.out;rw [HN.out] at this;exact this
 go_wp2
 go_loopw [8,9,10] (fun v d i wr=>∃ k:Nat,k≤n∧i=zm zn k∧d=.bool (decide (j<k))∧vw wX (oa L ⟨xn,xp⟩ j k) v wr) (fun _ _ i _=>n - (zr i).toNat)
 case atStart=>exact ⟨0,Ad _,rfl,by rw [decide_eq_false (Aj _)],by unfold oa;rw [if_pos (Ad _)];exact ⟨Ai _ _ _ _,zv _ _⟩⟩
 case round =>
  obtain ⟨k,hk,rfl,rfl,hown,hbel⟩:=hrel;have y0:=(hbel.cell (p:=⟨w,0,none⟩) (show w.heap.size<wX by have:=ai;omega)).trans x0;have y1:=(hbel.cell (p:=⟨w,1,none⟩) (show w.heap.size<wX by have:=ai;omega)).trans x1;have hlen:=uG L ⟨xn,xp⟩ j k (by rw [HN.out];exact hk);by_cases hlt:k<n
  ·have hkl:k<L.length:=by rw [HN.out];exact hlt
   obtain ⟨ad,rfl,hab,q0,q1⟩:=(HR.out.below (fun _ h=>h) hbel) k hkl;have hab:ad.block<wX:=hab;rw [← o3 hkl] at q0 q1;have s1:=fun h=>oE (l:=L) (x:=⟨xn,xp⟩) (j:=j) (k:=k) hkl h;have s2:=fun h:j<k=>mF (l:=L) (x:=⟨xn,xp⟩) (j:=j) (k:=k) hkl h;have s3:j=k→oa L ⟨xn,xp⟩ j (k+1)=oa L ⟨xn,xp⟩ j k++[⟨xn,xp⟩]++[L[k]!]:=fun h=>by rw [h];exact wI hkl
   have g1:k<j→sf xn L[k]! = false:=fun h=>ao.out k h;have g2:j=k→sf xn L[k]! = true:=fun h=>by have:=aq.out (by rw [h];exact hkl);rw [h] at this;exact this
   unfold sf at g1 g2;obtain ⟨y,hy⟩:∃ y,L[k]! = y:=⟨_,rfl⟩;rw [hy] at q0 q1 s1 s2 s3 g1 g2;obtain ⟨nm,id⟩:=y;simp only at q0 q1 g1 g2;obtain ⟨o,ho⟩:∃ o,oa L ⟨xn,xp⟩ j k=o:=⟨_,rfl⟩;rw [ho] at s1 s2 s3 hown hlen;clear hy ho;have b0:(0:Int)≤(k:Int):=lg;have b1:(k:Int)<(n:Int):=lg;rcases Ak k j with hkj|hkj|hkj
   ·have HS:=zk (s1 hkj);have g3:rz nm xn=true:=by have:=g1 hkj;simpa using this
    rw [show decide (j<k)=false from decide_eq_false lg];have FL:=zk (show decide (j<k+1)=false from decide_eq_false lg);clear s1 s2 s3 g1 g2;rcases lH g3 with g|g
    ·clear g3;go_wp2_with fail;go_quiet (fail);have F:(wr.drewN nq) (ad.add (k * 2))=some (zo nm)∧(wr.drewN nq) ⟨(ad.add (k * 2)).block,(ad.add (k * 2)).off+1,none⟩=some (zm zn id)∧(wr.drewN nq) ⟨w,0,none⟩=some (zo xn)∧(wr.drewN nq) ⟨w,1,none⟩=some (zm zn xp) ∧
      (wr.drewN nq).ownsRow wX 90 2 u8 o.length (l9.flat o)∧zp wX wX (wr.drewN nq):=⟨q0,q1,y0,y1,hown,aC hbel _⟩
     clear q0 q1 y0 y1 hown hbel;generalize wr.drewN nq=wx at F ⊢;obtain ⟨q0,q1,y0,y1,hown,hbel⟩:=F;have tok1:True:=trivial;go_wp2_with (at_builtin;have _t:=tok1;go_loud (refine zt _ rfl _ _ 22 rfl wX.heap.size 90 i0 _ 2 24 underlying22 hi af ag ah rfl lj _ _ _ rfl (hown.alloc _) ⟨wx,0,none⟩ 1 1 [zo nm,zm zn id] rfl rfl (aY _ _ _ _) (bA _ _) lq lg (by have:=hbel.size;simp at this ⊢;omega) ?_);intro v1 w1 ab ac _;clear tok1);have aa:zp wX wX w1:=(hbel.alloc hbel.size _).grown ac (by have:=hbel.size;simp at this ⊢;omega) (aB hown);have R:vw wX (oa L ⟨xn,xp⟩ j (k+1)) v1 w1:=⟨by rw [HS.out,l9.flat_app,zu];exact ab,aa⟩;have RR:=zk R;clear ac hown hbel ab aa q0 q1 y0 y1 R;go_wp2;go_roundw
     case rel=>exact ⟨k+1,lg,by go_num,by rw [FL.out],RR.out⟩
     case measure=>simp [zr];omega
    ·subst g;clear g3;go_wp2_with fail;go_quiet (fail);have F:(wr.drewN nq) (ad.add (k * 2))=some (zo nm)∧(wr.drewN nq) ⟨(ad.add (k * 2)).block,(ad.add (k * 2)).off+1,none⟩=some (zm zn id)∧(wr.drewN nq) ⟨w,0,none⟩=some (zo nm)∧(wr.drewN nq) ⟨w,1,none⟩=some (zm zn xp) ∧
      (wr.drewN nq).ownsRow wX 90 2 u8 o.length (l9.flat o)∧zp wX wX (wr.drewN nq):=⟨q0,q1,y0,y1,hown,aC hbel _⟩
     clear q0 q1 y0 y1 hown hbel;generalize wr.drewN nq=wx at F ⊢;obtain ⟨q0,q1,y0,y1,hown,hbel⟩:=F;have tok1:True:=trivial;go_wp2_with (at_builtin;have _t:=tok1;go_loud (refine zt _ rfl _ _ 22 rfl wX.heap.size 90 i0 _ 2 24 underlying22 hi af ag ah rfl lj _ _ _ rfl (hown.alloc _) ⟨wx,0,none⟩ 1 1 [zo nm,zm zn id] rfl rfl (aY _ _ _ _) (bA _ _) lq lg (by have:=hbel.size;simp at this ⊢;omega) ?_);intro v1 w1 ab ac _;clear tok1);have aa:zp wX wX w1:=(hbel.alloc hbel.size _).grown ac (by have:=hbel.size;simp at this ⊢;omega) (aB hown);have R:vw wX (oa L ⟨nm,xp⟩ j (k+1)) v1 w1:=⟨by rw [HS.out,l9.flat_app,zu];exact ab,aa⟩;have RR:=zk R;clear ac hown hbel ab aa q0 q1 y0 y1 R;go_wp2;go_roundw
     case rel=>exact ⟨k+1,lg,by go_num,by rw [FL.out],RR.out⟩
     case measure=>simp [zr];omega
   ·have HS:=zk (s3 hkj.symm);have g3:rz nm xn=false:=by have:=g2 hkj.symm;simpa using this
    rw [show decide (j<k)=false from decide_eq_false lg];have FL:=zk (show decide (j<k+1)=true from decide_eq_true lg);clear s1 s2 s3 g1 g2;obtain ⟨g1,g2⟩:=oV g3;have av:j≤k:=lg;have aw:k≤j:=lg;clear g3 hkj;go_wp2_with fail;go_quiet (fail);have F:(wr.drewN nq) (ad.add (k * 2))=some (zo nm)∧(wr.drewN nq) ⟨(ad.add (k * 2)).block,(ad.add (k * 2)).off+1,none⟩=some (zm zn id)∧(wr.drewN nq) ⟨w,0,none⟩=some (zo xn)∧(wr.drewN nq) ⟨w,1,none⟩=some (zm zn xp) ∧
     (wr.drewN nq).ownsRow wX 90 2 u8 o.length (l9.flat o)∧zp wX wX (wr.drewN nq):=⟨q0,q1,y0,y1,hown,aC hbel _⟩
    clear q0 q1 y0 y1 hown hbel;generalize wr.drewN nq=wx at F ⊢;obtain ⟨q0,q1,y0,y1,hown,hbel⟩:=F;have tok1:True:=trivial
    go_upto_region 16 with (at_builtin;have _t:=tok1;go_loud (refine zt _ rfl _ _ 22 rfl wX.heap.size 90 i0 _ 2 24 underlying22 hi af ag ah rfl lj _ _ _ rfl (hown.alloc _) ⟨wx,0,none⟩ 1 1 [zo xn,zm zn xp] rfl rfl (aY _ _ _ _) (bA _ _) lq lg (by have:=hbel.size;simp at this ⊢;omega) ?_);intro v1 w1 ab ac _;clear tok1)
    have aa:zp wX wX w1:=(hbel.alloc hbel.size _).grown ac (by have:=hbel.size;simp at this ⊢;omega) (aB hown);have e0:w1 (ad.add (k * 2))=some (zo nm):=(aa.cell (p:=ad.add (k * 2)) (by rw [show (ad.add (k * 2)).block=ad.block by unfold zy;split <;> rfl];exact hab)).trans ((hbel.cell (p:=ad.add (k * 2)) (by rw [show (ad.add (k * 2)).block=ad.block by unfold zy;split <;> rfl];exact hab)).symm.trans q0);have e1:w1 ⟨(ad.add (k * 2)).block,(ad.add (k * 2)).off+1,none⟩=some (zm zn id):=(aa.cell (p:=⟨(ad.add (k * 2)).block,(ad.add (k * 2)).off+1,none⟩) (by show (ad.add (k * 2)).block<_;rw [show (ad.add (k * 2)).block=ad.block by unfold zy;split <;> rfl];exact hab)).trans ((hbel.cell (p:=⟨(ad.add (k * 2)).block,(ad.add (k * 2)).off+1,none⟩) (by show (ad.add (k * 2)).block<_;rw [show (ad.add (k * 2)).block=ad.block by unfold zy;split <;> rfl];exact hab)).symm.trans q1);clear ac hown hbel q0 q1 y0 y1;have tok2:True:=trivial;go_wp2_with (at_builtin;have _t:=tok2;go_loud (refine zt _ rfl _ _ 22 rfl wX.heap.size 90 i0 _ 2 24 underlying22 hi af ag ah rfl lj _ _ _ rfl (ab.alloc _) ⟨w1,0,none⟩ 1 1 [zo nm,zm zn id] rfl rfl (aY _ _ _ _) (bA _ _) lq lg (by have:=aa.size;simp at this ⊢;omega) ?_);intro v2 w2 aj au _;clear tok2);have ae:zp wX wX w2:=(aa.alloc aa.size _).grown au (by have:=aa.size;simp at this ⊢;omega) (aB ab);have R:vw wX (oa L ⟨xn,xp⟩ j (k+1)) v2 w2:=⟨by rw [HS.out,l9.flat_app,l9.flat_app,zu,zu];exact aj,ae⟩;have RR:=zk R;clear ab aa aj au ae e0 e1 R;go_wp2;go_roundw
    case rel=>exact ⟨k+1,lg,by go_num,by rw [FL.out],RR.out⟩
    case measure=>simp [zr];omega
   ·have HS:=zk (s2 hkj);rw [show decide (j<k)=true from decide_eq_true lg];have FL:=zk (show decide (j<k+1)=true from decide_eq_true lg);clear s1 s2 s3 g1 g2;go_wp2_with fail;go_quiet (fail);have F:(wr.drewN nq) (ad.add (k * 2))=some (zo nm)∧(wr.drewN nq) ⟨(ad.add (k * 2)).block,(ad.add (k * 2)).off+1,none⟩=some (zm zn id)∧(wr.drewN nq) ⟨w,0,none⟩=some (zo xn)∧(wr.drewN nq) ⟨w,1,none⟩=some (zm zn xp) ∧
     (wr.drewN nq).ownsRow wX 90 2 u8 o.length (l9.flat o)∧zp wX wX (wr.drewN nq):=⟨q0,q1,y0,y1,hown,aC hbel _⟩
    clear q0 q1 y0 y1 hown hbel;generalize wr.drewN nq=wx at F ⊢;obtain ⟨q0,q1,y0,y1,hown,hbel⟩:=F;have tok1:True:=trivial;go_wp2_with (at_builtin;have _t:=tok1;go_loud (refine zt _ rfl _ _ 22 rfl wX.heap.size 90 i0 _ 2 24 underlying22 hi af ag ah rfl lj _ _ _ rfl (hown.alloc _) ⟨wx,0,none⟩ 1 1 [zo nm,zm zn id] rfl rfl (aY _ _ _ _) (bA _ _) lq lg (by have:=hbel.size;simp at this ⊢;omega) ?_);intro v1 w1 ab ac _;clear tok1);have aa:zp wX wX w1:=(hbel.alloc hbel.size _).grown ac (by have:=hbel.size;simp at this ⊢;omega) (aB hown);have R:vw wX (oa L ⟨xn,xp⟩ j (k+1)) v1 w1:=⟨by rw [HS.out,l9.flat_app,zu];exact ab,aa⟩;have RR:=zk R;clear ac hown hbel ab aa q0 q1 y0 y1 R;go_wp2;go_roundw
    case rel=>exact ⟨k+1,lg,by go_num,by rw [FL.out],RR.out⟩
    case measure=>simp [zr];omega
  ·obtain rfl:k=n:=lg;by_cases hjk:j<k
   ·rw [show decide (j<k)=true from decide_eq_true hjk];have he:oa L ⟨xn,xp⟩ j k=pc L ⟨xn,xp⟩:=by rw [HP.out,← HN.out];exact sG (by rw [HN.out];exact hjk)
    rw [he] at hown;obtain ⟨ad,cp,rfl,hn⟩:=dB hown;have Z:=zk (HE.out wr ad cp (hn.more (by have:=ai;omega)) hbel);clear hn hown hlen he hbel y0 y1;go_wp2;go_ret2;exact Z.out
   ·rw [show decide (j<k)=false from decide_eq_false hjk];obtain rfl:j=k:=lg;have he:oa L ⟨xn,xp⟩ j j++[⟨xn,xp⟩]=pc L ⟨xn,xp⟩:=by rw [HP.out,← HN.out];exact pX
    obtain ⟨o,ho⟩:∃ o,oa L ⟨xn,xp⟩ j j=o:=⟨_,rfl⟩;rw [ho] at he hown hlen;have HW:=zk he;clear ho he hjk;have tok1:True:=trivial;go_wp2_with (at_builtin;have _t:=tok1;go_loud (refine zt _ rfl _ _ 22 rfl wX.heap.size 90 i0 _ 2 24 underlying22 hi af ag ah rfl lj _ _ _ rfl (hown.alloc _) ⟨wr,0,none⟩ 1 1 [zo xn,zm zn xp] rfl rfl (aY _ _ _ _) (bA _ _) lq lg (by have:=hbel.size;simp at this ⊢;omega) ?_);intro v1 w1 ab ac _;clear tok1);have aa:zp wX wX w1:=(hbel.alloc hbel.size _).grown ac (by have:=hbel.size;simp at this ⊢;omega) (aB hown);have aj:w1.ownsRow wX 90 2 v1 (pc L ⟨xn,xp⟩).length (l9.flat (pc L ⟨xn,xp⟩)):=by
     rw [← HW.out,l9.flat_app,zu];exact ab
    obtain ⟨ad,cp,rfl,hn⟩:=dB aj;have Z:=zk (HE.out w1 ad cp (hn.more (by have:=ai;omega)) aa);clear hn ab aj ac aa hbel hown y0 y1;go_wp2;go_ret2;exact Z.out
theorem oJ (a:Option Aa) (l:List l9) (c:Nat) (x:l9) (B:Nat→Prop) (w:zq) (hr:o4 w B a l) (hB:∀ b,B b→b<w.heap.size) (hl:l.length≤1000000) (hx:x.name.size≤Ae) :
 zz prog 73 #[zw a l.length c,x.v] w (ot w (qy l x)):=by
 unfold qy;by_cases h1:mv x.name.data.toList=false
 ·rw [if_pos h1];exact zP a l.length c x w hx h1
 rw [if_neg h1];have h1:mv x.name.data.toList=true:=by simpa using h1
 by_cases h2:l.findIdx (qq x.name)<l.length
 ·rw [if_pos h2];exact EI a l c x B w hr hB hl hx h1 h2
 rw [if_neg h2];by_cases h3:16≤l.length
 ·rw [if_pos h3];exact AK a l c x B w hr hB hl hx h1 h2 h3
 ·rw [if_neg h3];exact GJ a l c x B w hr hB hl hx h1 h2 h3
end Go.Proofs.YtbagenpobcgjnaaGreat
