/-
  MarkRef2
-/
import Derived.Test.YtbagenpobcgjnaaGreatMarkRef
open Go renaming Addr->zn,Calls->zm,World->zd,info_parts->zt,maxLen->zq,wpList_append_own->zf
open Go.Addr renaming add->zk
open Go.IntKind renaming i64->yx
open Go.Lib renaming hid->yv
open Go.RowKit renaming Below->yz,intOf->ze
open Go.RowKit.Below renaming refl->zh
open Go.Value renaming int->yw,slice->zi,string->yy,tuple->zs
open Go.World renaming ownsRow_nil->zu
open List renaming length_append->zg
open Nat renaming le_refl->zo,lt_trichotomy->zw,not_lt_zero->zv,zero_le->zp
namespace Go.Proofs.YtbagenpobcgjnaaGreat
open Go.Proofs.Tryz
set_option maxRecDepth 100000
open Lib (hid)
open Go.RowKit
set_option linter.unusedVariables false
def oy (w:zd) (r:List l8×Int) (e:Ending) (w':zd):Prop:=∃ a c,e=.returned (zs #[zi a r.1.length c,yw yx r.2])∧sx w' w a r.1 c∧yz w w w'
def RetSet (w:zd) (r:List l8×Int) (e:Ending) (w':zd):Prop:=∃ a c,e=.returned (zs #[zi a r.1.length c,yw yx r.2])∧o7 w' (fun b=>w≤b∧b<w') a r.1∧yz w w w'
theorem oy.ret {w:zd} {r:List l8×Int} {e:Ending} {w':zd} (h:oy w r e w'):RetSet w r e w':=by
 obtain ⟨a,c,e,hr,hb⟩:=h;exact ⟨a,c,e,hr.row,hb⟩
def vm (w0:zd) (o:List l8) (v:Value) (wr:zd):Prop:=wr.ownsRow w0 90 2 v o.length (l8.flat o)∧yz w0 w0 wr
set_option maxHeartbeats 800000 in
theorem hG (a:Option zn) (l:List l8) (c:Nat) (s:ByteArray) (B:Nat→Prop) (w:zd) (hr:o7 w B a l) (hB:∀ b,B b→b<w.heap.size) (hl:l.length≤1000000) :
 zm prog 48 #[zi a l.length c,yy s] w (oy w (pm l s)):=by
 obtain ⟨i0,hi,ab,ac,ae⟩:=zt dK;have cf:=fD a l c s B w hr hl;by_cases hfo:l.findIdx (qo s)<l.length
 case neg =>
  have e1:tu l s=(0,false):=by unfold tu;rw [if_neg hfo]
  have e2:pm l s=([],8):=by unfold pm;rw [if_neg hfo]
  rw [e1] at cf;rw [e2];clear e1 e2 hfo;have CF:=yv cf;clear cf hr;obtain ⟨n,hn⟩:∃ n,l.length=n:=⟨_,rfl⟩;rw [hn] at CF ⊢;clear hn;go_enter func48,ntmps48;go_wp2_with fail;refine CF.out.mono ?_;rintro e w1 ⟨rfl,rfl⟩;go_wp2;go_ret2;exact ⟨none,0,rfl,sx.none _ _,zh _ _⟩
 have e1:tu l s=((l[l.findIdx (qo s)]!).p,true):=by unfold tu;rw [if_pos hfo]
 have e2:pm l s=(qb l s,0):=by unfold pm;rw [if_pos hfo]
 rw [e1] at cf;rw [e2];obtain ⟨pp,hpp⟩:∃ p,(l[l.findIdx (qo s)]!).p=p:=⟨_,rfl⟩;rw [hpp] at cf;clear e1 e2 hfo hpp;obtain ⟨n,hn⟩:∃ n,l.length=n:=⟨_,rfl⟩;rw [hn] at hl cf ⊢;have HN:=yv hn;have HR:=yv hr;have CF:=yv cf;clear hn hr cf;go_enter func48,ntmps48;go_wp2_with fail;refine CF.out.mono ?_;rintro e w1 ⟨rfl,rfl⟩;go_wp2
 go_loopw [8,9] (fun v i wr=>∃ k:Nat,k≤n∧i=yw yx k∧vm w (qb (l.take k) s) v wr) (fun _ i _=>n - (ze i).toNat)
 case atStart=>exact ⟨0,zp _,rfl,zu _ _ _ _,zh _ _⟩
 case round =>
  obtain ⟨k,hk,rfl,hown,hbel⟩:=hrel;by_cases hlt:k<n
  ·have hkl:k<l.length:=by rw [HN.out];exact hlt
   obtain ⟨ad,rfl,hab,q0,q1⟩:=(HR.out.below hB hbel) k hkl;rw [← o6 hkl] at q0 q1;have hs:=BN l s k hkl;have ht:=BQ l s k hkl;have hlen:=lQ (l.take k) s;have hlk:(l.take k).length≤k:=List.length_take_le _ _;obtain ⟨x,hx⟩:∃ x,l[k]! = x:=⟨_,rfl⟩;rw [hx] at q0 q1 hs ht;obtain ⟨nm,id⟩:=x;simp only at q0 q1 hs ht;clear hx;have b0:(0:Int)≤(k:Int):=lf;have b1:(k:Int)<(n:Int):=lf;by_cases he:nm=s
   ·have HS:=yv (hs he);clear hs ht;subst he;go_wp2;go_roundw
    case rel=>exact ⟨k+1,lf,by go_num,by rw [HS.out];exact ⟨hown,hbel⟩⟩
    case measure=>simp [ze];omega
   ·have HS:=yv (ht he);clear hs ht;have hne:=dG he;have ag:(nm.toList != s.toList)=true:=by rw [bne,hne];rfl
    clear he;go_wp2_with (at_builtin;refine zf _ rfl _ _ 22 rfl w.heap.size 90 i0 _ 2 24 underlying22 hi ab ac ae rfl li _ _ _ rfl (hown.alloc _) ⟨wr,0,none⟩ 1 1 [yy nm,yw yx id] rfl rfl (aW _ _ _ _) (aY _ _) ln lf (by have:=hbel.size;simp;omega) ?_;intro v' w1 hown' hgrow _);have aa:yz w w w1:=(hbel.alloc hbel.size _).grown hgrow (by have:=hbel.size;simp;omega) (aA hown);have R:vm w (qb (l.take (k+1)) s) v' w1:=⟨by rw [HS.out,l8.flat_app,zg];exact hown',aa⟩;have RR:=yv R;clear hown' hgrow hown hbel aa R;go_wp2;go_roundw
    case rel=>exact ⟨k+1,lf,by go_num,RR.out⟩
    case measure=>simp [ze];omega
  ·obtain rfl:k=n:=lf;rw [List.take_of_length_le (by rw [HN.out];exact zo _)] at hown;obtain ⟨ad,cp,rfl,hn⟩:=cK hown;have af:=yv hn;clear hn hown;go_wp2;go_ret2;exact ⟨ad,cp,rfl,af.out,hbel⟩
theorem gM {w wr:zd} {x y:Value} {t:TypeId} {N:Nat} (hN:w<N) (h:yz N (w.alloc (.cells #[x,y] t)) wr):wr ⟨w,0,none⟩=some x∧wr ⟨w,1,none⟩=some y:=by
 refine ⟨(h.cell (p:=⟨w,0,none⟩) hN).trans ?_,(h.cell (p:=⟨w,1,none⟩) hN).trans ?_⟩ <;> simp [World.cell?_alloc_new]
theorem lV {w w':zd} {o:Obj} {N:Nat} (hN:w≤N) (h:yz N (w.alloc o) w'):yz w w w':=((zh w w).alloc (zo _) _).trans (h.mono hN)
set_option maxHeartbeats 3200000 in
theorem xX (a:Option zn) (n:Nat) (c:Nat) (x:l8) (w:zd) (hx:x.name.size≤zq) (hm:ng x.name.data.toList=false) :
 zm prog 73 #[zi a n c,x.v] w (oy w ([],7)):=by
 obtain ⟨xn,xp⟩:=x;have cm:=bS xn hx;rw [hm] at cm;have CM:=yv cm;clear cm hm;go_enter func73,ntmps73;go_wp2_with fail;refine (CM.out _).mono ?_;rintro e w1 ⟨rfl,rfl⟩;go_wp2;go_ret2;exact ⟨none,0,rfl,sx.none _ _,(zh w w).alloc (zo _) _⟩
set_option maxHeartbeats 3200000 in
theorem yW (a:Option zn) (l:List l8) (c:Nat) (x:l8) (B:Nat→Prop) (w:zd) (hr:o7 w B a l) (hB:∀ b,B b→b<w.heap.size) (hl:l.length≤1000000) (hx:x.name.size≤zq) (hm:ng x.name.data.toList=true) (hno:¬ l.findIdx (qo x.name)<l.length) (h16:16≤l.length) :
 zm prog 73 #[zi a l.length c,x.v] w (oy w ([],9)):=by
 obtain ⟨xn,xp⟩:=x;have cm:=bS xn hx;rw [hm] at cm;have aa:yz w w (w.alloc (.cells #[yy xn,yw yx xp] 90)):=(zh w w).alloc (zo _) _;have cf:=fD a l c xn B _ (hr.below hB aa) hl;have e1:tu l xn=(0,false):=by unfold tu;rw [if_neg hno]
 rw [e1] at cf;obtain ⟨n,hn⟩:∃ n,l.length=n:=⟨_,rfl⟩;rw [hn] at hl h16 cf ⊢;have CM:=yv cm;have CF:=yv cf;clear cm hm cf e1 hno hn hr;have h16':(16:Int)≤(n:Int):=lf;go_enter func73,ntmps73;go_wp2_with fail;refine (CM.out _).mono ?_;rintro e w1 ⟨rfl,rfl⟩;go_wp2_with fail;refine CF.out.mono ?_;rintro e w1 ⟨rfl,rfl⟩;go_wp2;go_ret2;exact ⟨none,0,rfl,sx.none _ _,aa⟩
set_option maxHeartbeats 3200000 in
theorem DD (a:Option zn) (l:List l8) (c:Nat) (x:l8) (B:Nat→Prop) (w:zd) (hr:o7 w B a l) (hB:∀ b,B b→b<w.heap.size) (hl:l.length≤1000000) (hx:x.name.size≤zq) (hm:ng x.name.data.toList=true) (hno:¬ l.findIdx (qo x.name)<l.length) (h16:¬ 16≤l.length) :
 zm prog 73 #[zi a l.length c,x.v] w (oy w (pf l x,0)):=by
 obtain ⟨i0,hi,ae,af,ag⟩:=zt dK;obtain ⟨xn,xp⟩:=x;have cm:=bS xn hx;rw [hm] at cm;have aj:yz w w (w.alloc (.cells #[yy xn,yw yx xp] 90)):=(zh w w).alloc (zo _) _;have cf:=fD a l c xn B _ (hr.below hB aj) hl;have e1:tu l xn=(0,false):=by unfold tu;rw [if_neg hno]
 rw [e1] at cf;obtain ⟨wX,hwX⟩:∃ wX,w.alloc (.cells #[yy xn,yw yx xp] 90)=wX:=⟨_,rfl⟩;obtain ⟨x0,x1⟩:=gM (N:=w.heap.size+1) lf (zh (w+1) (w.alloc (.cells #[yy xn,yw yx xp] 90)));have ai:w.heap.size+1≤wX.heap.size:=by rw [← hwX];simp
 have he:∀ w' ad cp,sx w' w ad (pf l ⟨xn,xp⟩) cp→yz wX.heap.size wX w'→oy w (pf l ⟨xn,xp⟩,0) (.returned (zs #[zi ad (pf l ⟨xn,xp⟩).length cp,yw yx 0])) w':=fun w' ad cp h1 h2=>⟨ad,cp,rfl,h1,lV (N:=wX.heap.size) lf (by rw [hwX];exact h2)⟩;have hrX:o7 wX (·<wX) a l:=by rw [← hwX];exact (hr.below hB aj).more fun b hb=>by have:=hB b hb;simp;omega
 rw [hwX] at cf x0 x1;obtain ⟨L,hL⟩:∃ L,l=L:=⟨_,rfl⟩;rw [hL] at cf he hrX hl h16 ⊢;obtain ⟨n,hn⟩:∃ n,L.length=n:=⟨_,rfl⟩;rw [hn] at cf hl h16 ⊢;have CM:=yv cm;have CF:=yv cf;have HR:=yv hrX;have HN:=yv hn;have HE:=yv he;have aq:=yv hwX;have h16':(n:Int)<16:=lf;clear cm hm cf e1 hno hn hr aj hrX he hL;go_enter func73,ntmps73;go_wp2_with fail;refine (CM.out _).mono ?_;rintro e w1 ⟨rfl,rfl⟩;go_wp2_with fail;refine CF.out.mono ?_;rintro e w1 ⟨rfl,rfl⟩;clear hwX;have ak:=yv (fun t (ht:t<L.findIdx (se xn))=>fL ht);have al:=yv (fun h:L.findIdx (se xn)<L.length=>iW h);have am:=yv (iU L (se xn));have hput:pf L ⟨xn,xp⟩=wl L ⟨xn,xp⟩ (L.findIdx (se xn)):=rfl;obtain ⟨j,hj⟩:∃ j,L.findIdx (se xn)=j:=⟨_,rfl⟩;rw [hj] at ak al am hput;have HP:=yv hput;clear hj hput;have jn:j≤n:=by have:=am.out;rw [HN.out] at this;exact this
 go_wp2
 go_loopw [8,9,10] (fun v d i wr=>∃ k:Nat,k≤n∧i=yw yx k∧d=.bool (decide (j<k))∧vm wX (n8 L ⟨xn,xp⟩ j k) v wr) (fun _ _ i _=>n - (ze i).toNat)
 case atStart=>exact ⟨0,zp _,rfl,by rw [decide_eq_false (zv _)],by unfold n8;rw [if_pos (zp _)];exact ⟨zu _ _ _ _,zh _ _⟩⟩
 case round =>
  obtain ⟨k,hk,rfl,rfl,hown,hbel⟩:=hrel;have y0:=(hbel.cell (p:=⟨w,0,none⟩) (show w.heap.size<wX by have:=ai;omega)).trans x0;have y1:=(hbel.cell (p:=⟨w,1,none⟩) (show w.heap.size<wX by have:=ai;omega)).trans x1;have hlen:=tE L ⟨xn,xp⟩ j k (by rw [HN.out];exact hk);by_cases hlt:k<n
  ·have hkl:k<L.length:=by rw [HN.out];exact hlt
   obtain ⟨ad,rfl,hab,q0,q1⟩:=(HR.out.below (fun _ h=>h) hbel) k hkl;have hab:ad.block<wX:=hab;rw [← o6 hkl] at q0 q1;have s1:=fun h=>nQ (l:=L) (x:=⟨xn,xp⟩) (j:=j) (k:=k) hkl h;have s2:=fun h:j<k=>lX (l:=L) (x:=⟨xn,xp⟩) (j:=j) (k:=k) hkl h;have s3:j=k→n8 L ⟨xn,xp⟩ j (k+1)=n8 L ⟨xn,xp⟩ j k++[⟨xn,xp⟩]++[L[k]!]:=fun h=>by rw [h];exact tU hkl
   have g1:k<j→se xn L[k]! = false:=fun h=>ak.out k h;have g2:j=k→se xn L[k]! = true:=fun h=>by have:=al.out (by rw [h];exact hkl);rw [h] at this;exact this
   unfold se at g1 g2;obtain ⟨y,hy⟩:∃ y,L[k]! = y:=⟨_,rfl⟩;rw [hy] at q0 q1 s1 s2 s3 g1 g2;obtain ⟨nm,id⟩:=y;simp only at q0 q1 g1 g2;obtain ⟨o,ho⟩:∃ o,n8 L ⟨xn,xp⟩ j k=o:=⟨_,rfl⟩;rw [ho] at s1 s2 s3 hown hlen;clear hy ho;have b0:(0:Int)≤(k:Int):=lf;have b1:(k:Int)<(n:Int):=lf;rcases zw k j with hkj|hkj|hkj
   ·have HS:=yv (s1 hkj);have g3:ry nm xn=true:=by have:=g1 hkj;simpa using this
    rw [show decide (j<k)=false from decide_eq_false lf];have FL:=yv (show decide (j<k+1)=false from decide_eq_false lf);clear s1 s2 s3 g1 g2;rcases jT g3 with g|g
    ·clear g3;go_wp2_with fail;go_quiet (fail);have F:(wr.drewN nq) (ad.add (k * 2))=some (yy nm)∧(wr.drewN nq) ⟨(ad.add (k * 2)).block,(ad.add (k * 2)).off+1,none⟩=some (yw yx id)∧(wr.drewN nq) ⟨w,0,none⟩=some (yy xn)∧(wr.drewN nq) ⟨w,1,none⟩=some (yw yx xp) ∧
      (wr.drewN nq).ownsRow wX 90 2 u8 o.length (l8.flat o)∧yz wX wX (wr.drewN nq):=⟨q0,q1,y0,y1,hown,aB hbel _⟩
     clear q0 q1 y0 y1 hown hbel;generalize wr.drewN nq=wx at F ⊢;obtain ⟨q0,q1,y0,y1,hown,hbel⟩:=F;have tok1:True:=trivial;go_wp2_with (at_builtin;have _t:=tok1;go_loud (refine zf _ rfl _ _ 22 rfl wX.heap.size 90 i0 _ 2 24 underlying22 hi ae af ag rfl li _ _ _ rfl (hown.alloc _) ⟨wx,0,none⟩ 1 1 [yy nm,yw yx id] rfl rfl (aW _ _ _ _) (aY _ _) ln lf (by have:=hbel.size;simp at this ⊢;omega) ?_);intro v1 w1 ab ac _;clear tok1);have aa:yz wX wX w1:=(hbel.alloc hbel.size _).grown ac (by have:=hbel.size;simp at this ⊢;omega) (aA hown);have R:vm wX (n8 L ⟨xn,xp⟩ j (k+1)) v1 w1:=⟨by rw [HS.out,l8.flat_app,zg];exact ab,aa⟩;have RR:=yv R;clear ac hown hbel ab aa q0 q1 y0 y1 R;go_wp2;go_roundw
     case rel=>exact ⟨k+1,lf,by go_num,by rw [FL.out],RR.out⟩
     case measure=>simp [ze];omega
    ·subst g;clear g3;go_wp2_with fail;go_quiet (fail);have F:(wr.drewN nq) (ad.add (k * 2))=some (yy nm)∧(wr.drewN nq) ⟨(ad.add (k * 2)).block,(ad.add (k * 2)).off+1,none⟩=some (yw yx id)∧(wr.drewN nq) ⟨w,0,none⟩=some (yy nm)∧(wr.drewN nq) ⟨w,1,none⟩=some (yw yx xp) ∧
      (wr.drewN nq).ownsRow wX 90 2 u8 o.length (l8.flat o)∧yz wX wX (wr.drewN nq):=⟨q0,q1,y0,y1,hown,aB hbel _⟩
     clear q0 q1 y0 y1 hown hbel;generalize wr.drewN nq=wx at F ⊢;obtain ⟨q0,q1,y0,y1,hown,hbel⟩:=F;have tok1:True:=trivial;go_wp2_with (at_builtin;have _t:=tok1;go_loud (refine zf _ rfl _ _ 22 rfl wX.heap.size 90 i0 _ 2 24 underlying22 hi ae af ag rfl li _ _ _ rfl (hown.alloc _) ⟨wx,0,none⟩ 1 1 [yy nm,yw yx id] rfl rfl (aW _ _ _ _) (aY _ _) ln lf (by have:=hbel.size;simp at this ⊢;omega) ?_);intro v1 w1 ab ac _;clear tok1);have aa:yz wX wX w1:=(hbel.alloc hbel.size _).grown ac (by have:=hbel.size;simp at this ⊢;omega) (aA hown);have R:vm wX (n8 L ⟨nm,xp⟩ j (k+1)) v1 w1:=⟨by rw [HS.out,l8.flat_app,zg];exact ab,aa⟩;have RR:=yv R;clear ac hown hbel ab aa q0 q1 y0 y1 R;go_wp2;go_roundw
     case rel=>exact ⟨k+1,lf,by go_num,by rw [FL.out],RR.out⟩
     case measure=>simp [ze];omega
   ·have HS:=yv (s3 hkj.symm);have g3:ry nm xn=false:=by have:=g2 hkj.symm;simpa using this
    rw [show decide (j<k)=false from decide_eq_false lf];have FL:=yv (show decide (j<k+1)=true from decide_eq_true lf);clear s1 s2 s3 g1 g2;obtain ⟨g1,g2⟩:=oE g3;have ar:j≤k:=lf;have au:k≤j:=lf;clear g3 hkj;go_wp2_with fail;go_quiet (fail);have F:(wr.drewN nq) (ad.add (k * 2))=some (yy nm)∧(wr.drewN nq) ⟨(ad.add (k * 2)).block,(ad.add (k * 2)).off+1,none⟩=some (yw yx id)∧(wr.drewN nq) ⟨w,0,none⟩=some (yy xn)∧(wr.drewN nq) ⟨w,1,none⟩=some (yw yx xp) ∧
     (wr.drewN nq).ownsRow wX 90 2 u8 o.length (l8.flat o)∧yz wX wX (wr.drewN nq):=⟨q0,q1,y0,y1,hown,aB hbel _⟩
    clear q0 q1 y0 y1 hown hbel;generalize wr.drewN nq=wx at F ⊢;obtain ⟨q0,q1,y0,y1,hown,hbel⟩:=F;have tok1:True:=trivial
    go_upto_region 16 with (at_builtin;have _t:=tok1;go_loud (refine zf _ rfl _ _ 22 rfl wX.heap.size 90 i0 _ 2 24 underlying22 hi ae af ag rfl li _ _ _ rfl (hown.alloc _) ⟨wx,0,none⟩ 1 1 [yy xn,yw yx xp] rfl rfl (aW _ _ _ _) (aY _ _) ln lf (by have:=hbel.size;simp at this ⊢;omega) ?_);intro v1 w1 ab ac _;clear tok1)
    have aa:yz wX wX w1:=(hbel.alloc hbel.size _).grown ac (by have:=hbel.size;simp at this ⊢;omega) (aA hown);have e0:w1 (ad.add (k * 2))=some (yy nm):=(aa.cell (p:=ad.add (k * 2)) (by rw [show (ad.add (k * 2)).block=ad.block by unfold zk;split <;> rfl];exact hab)).trans ((hbel.cell (p:=ad.add (k * 2)) (by rw [show (ad.add (k * 2)).block=ad.block by unfold zk;split <;> rfl];exact hab)).symm.trans q0);have e1:w1 ⟨(ad.add (k * 2)).block,(ad.add (k * 2)).off+1,none⟩=some (yw yx id):=(aa.cell (p:=⟨(ad.add (k * 2)).block,(ad.add (k * 2)).off+1,none⟩) (by show (ad.add (k * 2)).block<_;rw [show (ad.add (k * 2)).block=ad.block by unfold zk;split <;> rfl];exact hab)).trans ((hbel.cell (p:=⟨(ad.add (k * 2)).block,(ad.add (k * 2)).off+1,none⟩) (by show (ad.add (k * 2)).block<_;rw [show (ad.add (k * 2)).block=ad.block by unfold zk;split <;> rfl];exact hab)).symm.trans q1);clear ac hown hbel q0 q1 y0 y1;have tok2:True:=trivial;go_wp2_with (at_builtin;have _t:=tok2;go_loud (refine zf _ rfl _ _ 22 rfl wX.heap.size 90 i0 _ 2 24 underlying22 hi ae af ag rfl li _ _ _ rfl (ab.alloc _) ⟨w1,0,none⟩ 1 1 [yy nm,yw yx id] rfl rfl (aW _ _ _ _) (aY _ _) ln lf (by have:=aa.size;simp at this ⊢;omega) ?_);intro v2 w2 ah an _;clear tok2);have ao:yz wX wX w2:=(aa.alloc aa.size _).grown an (by have:=aa.size;simp at this ⊢;omega) (aA ab);have R:vm wX (n8 L ⟨xn,xp⟩ j (k+1)) v2 w2:=⟨by rw [HS.out,l8.flat_app,l8.flat_app,zg,zg];exact ah,ao⟩;have RR:=yv R;clear ab aa ah an ao e0 e1 R;go_wp2;go_roundw
    case rel=>exact ⟨k+1,lf,by go_num,by rw [FL.out],RR.out⟩
    case measure=>simp [ze];omega
   ·have HS:=yv (s2 hkj);rw [show decide (j<k)=true from decide_eq_true lf];have FL:=yv (show decide (j<k+1)=true from decide_eq_true lf);clear s1 s2 s3 g1 g2;go_wp2_with fail;go_quiet (fail);have F:(wr.drewN nq) (ad.add (k * 2))=some (yy nm)∧(wr.drewN nq) ⟨(ad.add (k * 2)).block,(ad.add (k * 2)).off+1,none⟩=some (yw yx id)∧(wr.drewN nq) ⟨w,0,none⟩=some (yy xn)∧(wr.drewN nq) ⟨w,1,none⟩=some (yw yx xp) ∧
     (wr.drewN nq).ownsRow wX 90 2 u8 o.length (l8.flat o)∧yz wX wX (wr.drewN nq):=⟨q0,q1,y0,y1,hown,aB hbel _⟩
    clear q0 q1 y0 y1 hown hbel;generalize wr.drewN nq=wx at F ⊢;obtain ⟨q0,q1,y0,y1,hown,hbel⟩:=F;have tok1:True:=trivial;go_wp2_with (at_builtin;have _t:=tok1;go_loud (refine zf _ rfl _ _ 22 rfl wX.heap.size 90 i0 _ 2 24 underlying22 hi ae af ag rfl li _ _ _ rfl (hown.alloc _) ⟨wx,0,none⟩ 1 1 [yy nm,yw yx id] rfl rfl (aW _ _ _ _) (aY _ _) ln lf (by have:=hbel.size;simp at this ⊢;omega) ?_);intro v1 w1 ab ac _;clear tok1);have aa:yz wX wX w1:=(hbel.alloc hbel.size _).grown ac (by have:=hbel.size;simp at this ⊢;omega) (aA hown);have R:vm wX (n8 L ⟨xn,xp⟩ j (k+1)) v1 w1:=⟨by rw [HS.out,l8.flat_app,zg];exact ab,aa⟩;have RR:=yv R;clear ac hown hbel ab aa q0 q1 y0 y1 R;go_wp2;go_roundw
    case rel=>exact ⟨k+1,lf,by go_num,by rw [FL.out],RR.out⟩
    case measure=>simp [ze];omega
  ·obtain rfl:k=n:=lf;by_cases hjk:j<k
   ·rw [show decide (j<k)=true from decide_eq_true hjk];have he:n8 L ⟨xn,xp⟩ j k=pf L ⟨xn,xp⟩:=by rw [HP.out,← HN.out];exact sO (by rw [HN.out];exact hjk)
    rw [he] at hown;obtain ⟨ad,cp,rfl,hn⟩:=cK hown;have Z:=yv (HE.out wr ad cp (hn.more (by have:=ai;omega)) hbel);clear hn hown hlen he hbel y0 y1;go_wp2;go_ret2;exact Z.out
   ·rw [show decide (j<k)=false from decide_eq_false hjk];obtain rfl:j=k:=lf;have he:n8 L ⟨xn,xp⟩ j j++[⟨xn,xp⟩]=pf L ⟨xn,xp⟩:=by rw [HP.out,← HN.out];exact pN
    obtain ⟨o,ho⟩:∃ o,n8 L ⟨xn,xp⟩ j j=o:=⟨_,rfl⟩;rw [ho] at he hown hlen;have HW:=yv he;clear ho he hjk;have tok1:True:=trivial;go_wp2_with (at_builtin;have _t:=tok1;go_loud (refine zf _ rfl _ _ 22 rfl wX.heap.size 90 i0 _ 2 24 underlying22 hi ae af ag rfl li _ _ _ rfl (hown.alloc _) ⟨wr,0,none⟩ 1 1 [yy xn,yw yx xp] rfl rfl (aW _ _ _ _) (aY _ _) ln lf (by have:=hbel.size;simp at this ⊢;omega) ?_);intro v1 w1 ab ac _;clear tok1);have aa:yz wX wX w1:=(hbel.alloc hbel.size _).grown ac (by have:=hbel.size;simp at this ⊢;omega) (aA hown);have ah:w1.ownsRow wX 90 2 v1 (pf L ⟨xn,xp⟩).length (l8.flat (pf L ⟨xn,xp⟩)):=by
     rw [← HW.out,l8.flat_app,zg];exact ab
    obtain ⟨ad,cp,rfl,hn⟩:=cK ah;have Z:=yv (HE.out w1 ad cp (hn.more (by have:=ai;omega)) aa);clear hn ab ah ac aa hbel hown y0 y1;go_wp2;go_ret2;exact Z.out
set_option maxHeartbeats 3200000 in
theorem DC (a:Option zn) (l:List l8) (c:Nat) (x:l8) (B:Nat→Prop) (w:zd) (hr:o7 w B a l) (hB:∀ b,B b→b<w.heap.size) (hl:l.length≤1000000) (hx:x.name.size≤zq) (hm:ng x.name.data.toList=true) (hyes:l.findIdx (qo x.name)<l.length) :
 zm prog 73 #[zi a l.length c,x.v] w (oy w (pf (qb l x.name) x,0)):=by
 obtain ⟨i0,hi,af,ag,ah⟩:=zt dK;obtain ⟨xn,xp⟩:=x;have cm:=bS xn hx;rw [hm] at cm;have ak:yz w w (w.alloc (.cells #[yy xn,yw yx xp] 90)):=(zh w w).alloc (zo _) _;have cf:=fD a l c xn B _ (hr.below hB ak) hl;have cd:=(hG a l c xn B _ (hr.below hB ak) (fun b hb=>by have:=hB b hb;simp;omega) hl).mono fun _ _ h=>oy.ret h;have hyes:l.findIdx (qo xn)<l.length:=hyes;have e1:tu l xn=((l[l.findIdx (qo xn)]!).p,true):=by unfold tu;rw [if_pos hyes]
 have e2:pm l xn=(qb l xn,0):=by unfold pm;rw [if_pos hyes]
 rw [e1] at cf;rw [e2] at cd;have hL:(qb l xn).length≤1000000:=by have:=lQ l xn;omega
 obtain ⟨L,hLe⟩:∃ L,qb l xn=L:=⟨_,rfl⟩;obtain ⟨pp,hpp⟩:∃ p,(l[l.findIdx (qo xn)]!).p=p:=⟨_,rfl⟩;show zm _ _ _ w (oy w (pf (qb l xn) ⟨xn,xp⟩,0));rw [hLe] at cd hL ⊢;rw [hpp] at cf;obtain ⟨n0,al⟩:∃ n,l.length=n:=⟨_,rfl⟩;rw [al] at cf cd ⊢;obtain ⟨n,hn⟩:∃ n,L.length=n:=⟨_,rfl⟩;rw [hn] at hL;have hl:n≤1000000:=hL;have CM:=yv cm;have CF:=yv cf;have CD:=yv cd;have HN:=yv hn;clear cm hm cf cd e1 e2 hyes hn al hr ak hLe hpp hL;obtain ⟨k0,k1⟩:=gM (N:=w.heap.size+1) lf (zh (w+1) (w.alloc (.cells #[yy xn,yw yx xp] 90)));go_enter func73,ntmps73;go_wp2_with fail;refine (CM.out _).mono ?_;rintro e w1 ⟨rfl,rfl⟩;go_wp2_with fail;refine CF.out.mono ?_;rintro e w1 ⟨rfl,rfl⟩;go_wp2_with fail;refine CD.out.mono ?_;rintro e wX ⟨a2,c2,am,an,ae⟩;rw [show (L,(0:Int)).1.length=n from HN.out] at am;subst am;obtain ⟨x0,x1⟩:=gM (N:=(w.alloc (.cells #[yy xn,yw yx xp] 90)).heap.size) lh ae;have ai:w.heap.size+1≤wX:=by have:=ae.size;simpa using this
 have he:∀ w' ad cp,sx w' w ad (pf L ⟨xn,xp⟩) cp→yz wX wX w'→oy w (pf L ⟨xn,xp⟩,0) (.returned (zs #[zi ad (pf L ⟨xn,xp⟩).length cp,yw yx 0])) w':=fun w' ad cp h1 h2=>⟨ad,cp,rfl,h1,lV (N:=w.heap.size+1) lf ((ae.mono lh).trans (h2.mono ai))⟩;have HE:=yv he;have HR:=yv (an.more (B':=(·<wX)) fun b hb=>hb.2);clear an ae he k0 k1;have ao:=yv (fun t (ht:t<L.findIdx (se xn))=>fL ht);have aq:=yv (fun h:L.findIdx (se xn)<L.length=>iW h);have ar:=yv (iU L (se xn));have hput:pf L ⟨xn,xp⟩=wl L ⟨xn,xp⟩ (L.findIdx (se xn)):=rfl;obtain ⟨j,hj⟩:∃ j,L.findIdx (se xn)=j:=⟨_,rfl⟩;rw [hj] at ao aq ar hput;have HP:=yv hput;clear hj hput;have jn:j≤n:=by have:=ar.out;rw [HN.out] at this;exact this
 go_wp2
 go_loopw [8,9,10] (fun v d i wr=>∃ k:Nat,k≤n∧i=yw yx k∧d=.bool (decide (j<k))∧vm wX (n8 L ⟨xn,xp⟩ j k) v wr) (fun _ _ i _=>n - (ze i).toNat)
 case atStart=>exact ⟨0,zp _,rfl,by rw [decide_eq_false (zv _)],by unfold n8;rw [if_pos (zp _)];exact ⟨zu _ _ _ _,zh _ _⟩⟩
 case round =>
  obtain ⟨k,hk,rfl,rfl,hown,hbel⟩:=hrel;have y0:=(hbel.cell (p:=⟨w,0,none⟩) (show w.heap.size<wX by have:=ai;omega)).trans x0;have y1:=(hbel.cell (p:=⟨w,1,none⟩) (show w.heap.size<wX by have:=ai;omega)).trans x1;have hlen:=tE L ⟨xn,xp⟩ j k (by rw [HN.out];exact hk);by_cases hlt:k<n
  ·have hkl:k<L.length:=by rw [HN.out];exact hlt
   obtain ⟨ad,rfl,hab,q0,q1⟩:=(HR.out.below (fun _ h=>h) hbel) k hkl;have hab:ad.block<wX:=hab;rw [← o6 hkl] at q0 q1;have s1:=fun h=>nQ (l:=L) (x:=⟨xn,xp⟩) (j:=j) (k:=k) hkl h;have s2:=fun h:j<k=>lX (l:=L) (x:=⟨xn,xp⟩) (j:=j) (k:=k) hkl h;have s3:j=k→n8 L ⟨xn,xp⟩ j (k+1)=n8 L ⟨xn,xp⟩ j k++[⟨xn,xp⟩]++[L[k]!]:=fun h=>by rw [h];exact tU hkl
   have g1:k<j→se xn L[k]! = false:=fun h=>ao.out k h;have g2:j=k→se xn L[k]! = true:=fun h=>by have:=aq.out (by rw [h];exact hkl);rw [h] at this;exact this
   unfold se at g1 g2;obtain ⟨y,hy⟩:∃ y,L[k]! = y:=⟨_,rfl⟩;rw [hy] at q0 q1 s1 s2 s3 g1 g2;obtain ⟨nm,id⟩:=y;simp only at q0 q1 g1 g2;obtain ⟨o,ho⟩:∃ o,n8 L ⟨xn,xp⟩ j k=o:=⟨_,rfl⟩;rw [ho] at s1 s2 s3 hown hlen;clear hy ho;have b0:(0:Int)≤(k:Int):=lf;have b1:(k:Int)<(n:Int):=lf;rcases zw k j with hkj|hkj|hkj
   ·have HS:=yv (s1 hkj);have g3:ry nm xn=true:=by have:=g1 hkj;simpa using this
    rw [show decide (j<k)=false from decide_eq_false lf];have FL:=yv (show decide (j<k+1)=false from decide_eq_false lf);clear s1 s2 s3 g1 g2;rcases jT g3 with g|g
    ·clear g3;go_wp2_with fail;go_quiet (fail);have F:(wr.drewN nq) (ad.add (k * 2))=some (yy nm)∧(wr.drewN nq) ⟨(ad.add (k * 2)).block,(ad.add (k * 2)).off+1,none⟩=some (yw yx id)∧(wr.drewN nq) ⟨w,0,none⟩=some (yy xn)∧(wr.drewN nq) ⟨w,1,none⟩=some (yw yx xp) ∧
      (wr.drewN nq).ownsRow wX 90 2 u8 o.length (l8.flat o)∧yz wX wX (wr.drewN nq):=⟨q0,q1,y0,y1,hown,aB hbel _⟩
     clear q0 q1 y0 y1 hown hbel;generalize wr.drewN nq=wx at F ⊢;obtain ⟨q0,q1,y0,y1,hown,hbel⟩:=F;have tok1:True:=trivial;go_wp2_with (at_builtin;have _t:=tok1;go_loud (refine zf _ rfl _ _ 22 rfl wX.heap.size 90 i0 _ 2 24 underlying22 hi af ag ah rfl li _ _ _ rfl (hown.alloc _) ⟨wx,0,none⟩ 1 1 [yy nm,yw yx id] rfl rfl (aW _ _ _ _) (aY _ _) ln lf (by have:=hbel.size;simp at this ⊢;omega) ?_);intro v1 w1 ab ac _;clear tok1);have aa:yz wX wX w1:=(hbel.alloc hbel.size _).grown ac (by have:=hbel.size;simp at this ⊢;omega) (aA hown);have R:vm wX (n8 L ⟨xn,xp⟩ j (k+1)) v1 w1:=⟨by rw [HS.out,l8.flat_app,zg];exact ab,aa⟩;have RR:=yv R;clear ac hown hbel ab aa q0 q1 y0 y1 R;go_wp2;go_roundw
     case rel=>exact ⟨k+1,lf,by go_num,by rw [FL.out],RR.out⟩
     case measure=>simp [ze];omega
    ·subst g;clear g3;go_wp2_with fail;go_quiet (fail);have F:(wr.drewN nq) (ad.add (k * 2))=some (yy nm)∧(wr.drewN nq) ⟨(ad.add (k * 2)).block,(ad.add (k * 2)).off+1,none⟩=some (yw yx id)∧(wr.drewN nq) ⟨w,0,none⟩=some (yy nm)∧(wr.drewN nq) ⟨w,1,none⟩=some (yw yx xp) ∧
      (wr.drewN nq).ownsRow wX 90 2 u8 o.length (l8.flat o)∧yz wX wX (wr.drewN nq):=⟨q0,q1,y0,y1,hown,aB hbel _⟩
     clear q0 q1 y0 y1 hown hbel;generalize wr.drewN nq=wx at F ⊢;obtain ⟨q0,q1,y0,y1,hown,hbel⟩:=F;have tok1:True:=trivial;go_wp2_with (at_builtin;have _t:=tok1;go_loud (refine zf _ rfl _ _ 22 rfl wX.heap.size 90 i0 _ 2 24 underlying22 hi af ag ah rfl li _ _ _ rfl (hown.alloc _) ⟨wx,0,none⟩ 1 1 [yy nm,yw yx id] rfl rfl (aW _ _ _ _) (aY _ _) ln lf (by have:=hbel.size;simp at this ⊢;omega) ?_);intro v1 w1 ab ac _;clear tok1);have aa:yz wX wX w1:=(hbel.alloc hbel.size _).grown ac (by have:=hbel.size;simp at this ⊢;omega) (aA hown);have R:vm wX (n8 L ⟨nm,xp⟩ j (k+1)) v1 w1:=⟨by rw [HS.out,l8.flat_app,zg];exact ab,aa⟩;have RR:=yv R;clear ac hown hbel ab aa q0 q1 y0 y1 R;go_wp2;go_roundw
     case rel=>exact ⟨k+1,lf,by go_num,by rw [FL.out],RR.out⟩
     case measure=>simp [ze];omega
   ·have HS:=yv (s3 hkj.symm);have g3:ry nm xn=false:=by have:=g2 hkj.symm;simpa using this
    rw [show decide (j<k)=false from decide_eq_false lf];have FL:=yv (show decide (j<k+1)=true from decide_eq_true lf);clear s1 s2 s3 g1 g2;obtain ⟨g1,g2⟩:=oE g3;have av:j≤k:=lf;have aw:k≤j:=lf;clear g3 hkj;go_wp2_with fail;go_quiet (fail);have F:(wr.drewN nq) (ad.add (k * 2))=some (yy nm)∧(wr.drewN nq) ⟨(ad.add (k * 2)).block,(ad.add (k * 2)).off+1,none⟩=some (yw yx id)∧(wr.drewN nq) ⟨w,0,none⟩=some (yy xn)∧(wr.drewN nq) ⟨w,1,none⟩=some (yw yx xp) ∧
     (wr.drewN nq).ownsRow wX 90 2 u8 o.length (l8.flat o)∧yz wX wX (wr.drewN nq):=⟨q0,q1,y0,y1,hown,aB hbel _⟩
    clear q0 q1 y0 y1 hown hbel;generalize wr.drewN nq=wx at F ⊢;obtain ⟨q0,q1,y0,y1,hown,hbel⟩:=F;have tok1:True:=trivial
    go_upto_region 16 with (at_builtin;have _t:=tok1;go_loud (refine zf _ rfl _ _ 22 rfl wX.heap.size 90 i0 _ 2 24 underlying22 hi af ag ah rfl li _ _ _ rfl (hown.alloc _) ⟨wx,0,none⟩ 1 1 [yy xn,yw yx xp] rfl rfl (aW _ _ _ _) (aY _ _) ln lf (by have:=hbel.size;simp at this ⊢;omega) ?_);intro v1 w1 ab ac _;clear tok1)
    have aa:yz wX wX w1:=(hbel.alloc hbel.size _).grown ac (by have:=hbel.size;simp at this ⊢;omega) (aA hown);have e0:w1 (ad.add (k * 2))=some (yy nm):=(aa.cell (p:=ad.add (k * 2)) (by rw [show (ad.add (k * 2)).block=ad.block by unfold zk;split <;> rfl];exact hab)).trans ((hbel.cell (p:=ad.add (k * 2)) (by rw [show (ad.add (k * 2)).block=ad.block by unfold zk;split <;> rfl];exact hab)).symm.trans q0);have e1:w1 ⟨(ad.add (k * 2)).block,(ad.add (k * 2)).off+1,none⟩=some (yw yx id):=(aa.cell (p:=⟨(ad.add (k * 2)).block,(ad.add (k * 2)).off+1,none⟩) (by show (ad.add (k * 2)).block<_;rw [show (ad.add (k * 2)).block=ad.block by unfold zk;split <;> rfl];exact hab)).trans ((hbel.cell (p:=⟨(ad.add (k * 2)).block,(ad.add (k * 2)).off+1,none⟩) (by show (ad.add (k * 2)).block<_;rw [show (ad.add (k * 2)).block=ad.block by unfold zk;split <;> rfl];exact hab)).symm.trans q1);clear ac hown hbel q0 q1 y0 y1;have tok2:True:=trivial;go_wp2_with (at_builtin;have _t:=tok2;go_loud (refine zf _ rfl _ _ 22 rfl wX.heap.size 90 i0 _ 2 24 underlying22 hi af ag ah rfl li _ _ _ rfl (ab.alloc _) ⟨w1,0,none⟩ 1 1 [yy nm,yw yx id] rfl rfl (aW _ _ _ _) (aY _ _) ln lf (by have:=aa.size;simp at this ⊢;omega) ?_);intro v2 w2 aj au _;clear tok2);have ae:yz wX wX w2:=(aa.alloc aa.size _).grown au (by have:=aa.size;simp at this ⊢;omega) (aA ab);have R:vm wX (n8 L ⟨xn,xp⟩ j (k+1)) v2 w2:=⟨by rw [HS.out,l8.flat_app,l8.flat_app,zg,zg];exact aj,ae⟩;have RR:=yv R;clear ab aa aj au ae e0 e1 R;go_wp2;go_roundw
    case rel=>exact ⟨k+1,lf,by go_num,by rw [FL.out],RR.out⟩
    case measure=>simp [ze];omega
   ·have HS:=yv (s2 hkj);rw [show decide (j<k)=true from decide_eq_true lf];have FL:=yv (show decide (j<k+1)=true from decide_eq_true lf);clear s1 s2 s3 g1 g2;go_wp2_with fail;go_quiet (fail);have F:(wr.drewN nq) (ad.add (k * 2))=some (yy nm)∧(wr.drewN nq) ⟨(ad.add (k * 2)).block,(ad.add (k * 2)).off+1,none⟩=some (yw yx id)∧(wr.drewN nq) ⟨w,0,none⟩=some (yy xn)∧(wr.drewN nq) ⟨w,1,none⟩=some (yw yx xp) ∧
     (wr.drewN nq).ownsRow wX 90 2 u8 o.length (l8.flat o)∧yz wX wX (wr.drewN nq):=⟨q0,q1,y0,y1,hown,aB hbel _⟩
    clear q0 q1 y0 y1 hown hbel;generalize wr.drewN nq=wx at F ⊢;obtain ⟨q0,q1,y0,y1,hown,hbel⟩:=F;have tok1:True:=trivial;go_wp2_with (at_builtin;have _t:=tok1;go_loud (refine zf _ rfl _ _ 22 rfl wX.heap.size 90 i0 _ 2 24 underlying22 hi af ag ah rfl li _ _ _ rfl (hown.alloc _) ⟨wx,0,none⟩ 1 1 [yy nm,yw yx id] rfl rfl (aW _ _ _ _) (aY _ _) ln lf (by have:=hbel.size;simp at this ⊢;omega) ?_);intro v1 w1 ab ac _;clear tok1);have aa:yz wX wX w1:=(hbel.alloc hbel.size _).grown ac (by have:=hbel.size;simp at this ⊢;omega) (aA hown);have R:vm wX (n8 L ⟨xn,xp⟩ j (k+1)) v1 w1:=⟨by rw [HS.out,l8.flat_app,zg];exact ab,aa⟩;have RR:=yv R;clear ac hown hbel ab aa q0 q1 y0 y1 R;go_wp2;go_roundw
    case rel=>exact ⟨k+1,lf,by go_num,by rw [FL.out],RR.out⟩
    case measure=>simp [ze];omega
  ·obtain rfl:k=n:=lf;by_cases hjk:j<k
   ·rw [show decide (j<k)=true from decide_eq_true hjk];have he:n8 L ⟨xn,xp⟩ j k=pf L ⟨xn,xp⟩:=by rw [HP.out,← HN.out];exact sO (by rw [HN.out];exact hjk)
    rw [he] at hown;obtain ⟨ad,cp,rfl,hn⟩:=cK hown;have Z:=yv (HE.out wr ad cp (hn.more (by have:=ai;omega)) hbel);clear hn hown hlen he hbel y0 y1;go_wp2;go_ret2;exact Z.out
   ·rw [show decide (j<k)=false from decide_eq_false hjk];obtain rfl:j=k:=lf;have he:n8 L ⟨xn,xp⟩ j j++[⟨xn,xp⟩]=pf L ⟨xn,xp⟩:=by rw [HP.out,← HN.out];exact pN
    obtain ⟨o,ho⟩:∃ o,n8 L ⟨xn,xp⟩ j j=o:=⟨_,rfl⟩;rw [ho] at he hown hlen;have HW:=yv he;clear ho he hjk;have tok1:True:=trivial;go_wp2_with (at_builtin;have _t:=tok1;go_loud (refine zf _ rfl _ _ 22 rfl wX.heap.size 90 i0 _ 2 24 underlying22 hi af ag ah rfl li _ _ _ rfl (hown.alloc _) ⟨wr,0,none⟩ 1 1 [yy xn,yw yx xp] rfl rfl (aW _ _ _ _) (aY _ _) ln lf (by have:=hbel.size;simp at this ⊢;omega) ?_);intro v1 w1 ab ac _;clear tok1);have aa:yz wX wX w1:=(hbel.alloc hbel.size _).grown ac (by have:=hbel.size;simp at this ⊢;omega) (aA hown);have aj:w1.ownsRow wX 90 2 v1 (pf L ⟨xn,xp⟩).length (l8.flat (pf L ⟨xn,xp⟩)):=by
     rw [← HW.out,l8.flat_app,zg];exact ab
    obtain ⟨ad,cp,rfl,hn⟩:=cK aj;have Z:=yv (HE.out w1 ad cp (hn.more (by have:=ai;omega)) aa);clear hn ab aj ac aa hbel hown y0 y1;go_wp2;go_ret2;exact Z.out
theorem nP (a:Option zn) (l:List l8) (c:Nat) (x:l8) (B:Nat→Prop) (w:zd) (hr:o7 w B a l) (hB:∀ b,B b→b<w.heap.size) (hl:l.length≤1000000) (hx:x.name.size≤zq) :
 zm prog 73 #[zi a l.length c,x.v] w (oy w (qx l x)):=by
 unfold qx;by_cases h1:ng x.name.data.toList=false
 ·rw [if_pos h1];exact xX a l.length c x w hx h1
 rw [if_neg h1];have h1:ng x.name.data.toList=true:=by simpa using h1
 by_cases h2:l.findIdx (qo x.name)<l.length
 ·rw [if_pos h2];exact DC a l c x B w hr hB hl hx h1 h2
 rw [if_neg h2];by_cases h3:16≤l.length
 ·rw [if_pos h3];exact yW a l c x B w hr hB hl hx h1 h2 h3
 ·rw [if_neg h3];exact DD a l c x B w hr hB hl hx h1 h2 h3
end Go.Proofs.YtbagenpobcgjnaaGreat
