/-
  MarkRef2
-/
import Derived.Test.YtbagenpobcgjnaaGreatMarkRef
import Derived.Test.YtbagenpobcgjnaaGreatJUtfLeaf
import Derived.Laws.OwnMore
import Derived.Deep.AppendLies
import Derived.Deep.Draws
namespace Go.Proofs.YtbagenpobcgjnaaGreat
open Go.Proofs.Tryz
set_option maxRecDepth 100000
open Lib (hid)
open Go.RowKit
set_option linter.unusedVariables false
def RetSetR (w:World) (r:List Mrk×Int) (e:Ending) (w':World):Prop:=∃ a c,e=.returned (.tuple #[.slice a r.1.length c,.int .i64 r.2])∧MrkR w' w.heap.size a r.1 c∧Below w.heap.size w w'
def RetSet (w:World) (r:List Mrk×Int) (e:Ending) (w':World):Prop:=∃ a c,e=.returned (.tuple #[.slice a r.1.length c,.int .i64 r.2])∧Mrks w' (fun b=>w.heap.size≤b∧b<w'.heap.size) a r.1∧Below w.heap.size w w'
theorem RetSetR.ret {w:World} {r:List Mrk×Int} {e:Ending} {w':World} (h:RetSetR w r e w'):RetSet w r e w':=by
 obtain ⟨a,c,e,hr,hb⟩:=h
 exact ⟨a,c,e,hr.row,hb⟩
def SetR (w0:World) (o:List Mrk) (v:Value) (wr:World):Prop:=wr.ownsRow w0.heap.size 90 2 v o.length (Mrk.flat o)∧Below w0.heap.size w0 wr
set_option maxHeartbeats 800000 in
theorem gQ (a:Option Addr) (l:List Mrk) (c:Nat) (s:ByteArray) (B:Nat→Prop) (w:World) (hr:Mrks w B a l) (hB:∀ b,B b→b<w.heap.size) (hl:l.length≤1000000) :
 Calls prog 48 #[.slice a l.length c,.string s] w (RetSetR w (drpM l s)):=by
 obtain ⟨i0,hi,ab,ac,ae⟩:=info_parts cY
 have cf:=eY a l c s B w hr hl
 by_cases hfo:l.findIdx (nmB s)<l.length
 case neg =>
  have e1:fndM l s=(0,false):=by unfold fndM;rw [if_neg hfo]
  have e2:drpM l s=([],8):=by unfold drpM;rw [if_neg hfo]
  rw [e1] at cf
  rw [e2]
  clear e1 e2 hfo
  have CF:=hid cf;clear cf hr
  obtain ⟨n,hn⟩:∃ n,l.length=n:=⟨_,rfl⟩
  rw [hn] at CF ⊢
  clear hn
  go_enter func48,ntmps48
  go_wp2_with fail
  refine CF.out.mono ?_
  rintro e w1 ⟨rfl,rfl⟩
  go_wp2
  go_ret2
  exact ⟨none,0,rfl,MrkR.none _ _,Below.refl _ _⟩
 have e1:fndM l s=((l[l.findIdx (nmB s)]!).p,true):=by unfold fndM;rw [if_pos hfo]
 have e2:drpM l s=(dropM l s,0):=by unfold drpM;rw [if_pos hfo]
 rw [e1] at cf
 rw [e2]
 obtain ⟨pp,hpp⟩:∃ p,(l[l.findIdx (nmB s)]!).p=p:=⟨_,rfl⟩
 rw [hpp] at cf
 clear e1 e2 hfo hpp
 obtain ⟨n,hn⟩:∃ n,l.length=n:=⟨_,rfl⟩
 rw [hn] at hl cf ⊢
 have HN:=hid hn;have HR:=hid hr;have CF:=hid cf
 clear hn hr cf
 go_enter func48,ntmps48
 go_wp2_with fail
 refine CF.out.mono ?_
 rintro e w1 ⟨rfl,rfl⟩
 go_wp2
 go_loopw [8,9] (fun v i wr=>∃ k:Nat,k≤n∧i=.int .i64 k∧SetR w (dropM (l.take k) s) v wr) (fun _ i _=>n - (intOf i).toNat)
 case atStart=>exact ⟨0,Nat.zero_le _,rfl,World.ownsRow_nil _ _ _ _,Below.refl _ _⟩
 case round =>
  obtain ⟨k,hk,rfl,hown,hbel⟩:=hrel
  by_cases hlt:k<n
  ·have hkl:k<l.length:=by rw [HN.out];exact hlt
   obtain ⟨ad,rfl,hab,q0,q1⟩:=(HR.out.below hB hbel) k hkl
   rw [← mget hkl] at q0 q1
   have hs:=AL l s k hkl
   have ht:=CZ l s k hkl
   have hlen:=lC (l.take k) s
   have hlk:(l.take k).length≤k:=List.length_take_le _ _
   obtain ⟨x,hx⟩:∃ x,l[k]! = x:=⟨_,rfl⟩
   rw [hx] at q0 q1 hs ht
   obtain ⟨nm,id⟩:=x
   simp only at q0 q1 hs ht
   clear hx
   have b0:(0:Int)≤(k:Int):=by omega
   have b1:(k:Int)<(n:Int):=by omega
   by_cases he:nm=s
   ·have HS:=hid (hs he);clear hs ht
    subst he
    go_wp2
    go_roundw
    case rel=>exact ⟨k+1,by omega,by go_num,by rw [HS.out];exact ⟨hown,hbel⟩⟩
    case measure=>simp [intOf];omega
   ·have HS:=hid (ht he);clear hs ht
    have hne:=dI he
    have ag:(nm.toList != s.toList)=true:=by rw [bne,hne];rfl
    clear he
    go_wp2_with (at_builtin;refine wpList_append_own _ rfl _ _ 22 rfl w.heap.size 90 i0 _ 2 24 underlying22 hi ab ac ae rfl (by decide) _ _ _ rfl (hown.alloc _) ⟨wr.heap.size,0,none⟩ 1 1 [.string nm,.int .i64 id] rfl rfl (aV _ _ _ _) (aX _ _) (by unfold maxLen;omega) (by omega) (by have:=hbel.size;simp;omega) ?_;intro v' w1 hown' hgrow _)
    have aa:Below w.heap.size w w1:=(hbel.alloc hbel.size _).grown hgrow (by have:=hbel.size;simp;omega) (aA hown)
    have R:SetR w (dropM (l.take (k+1)) s) v' w1:=⟨by rw [HS.out,Mrk.flat_app,List.length_append];exact hown',aa⟩
    have RR:=hid R
    clear hown' hgrow hown hbel aa R
    go_wp2
    go_roundw
    case rel=>exact ⟨k+1,by omega,by go_num,RR.out⟩
    case measure=>simp [intOf];omega
  ·obtain rfl:k=n:=by omega
   rw [List.take_of_length_le (by rw [HN.out];exact Nat.le_refl _)] at hown
   obtain ⟨ad,cp,rfl,hn⟩:=cH hown
   have af:=hid hn;clear hn hown
   go_wp2
   go_ret2
   exact ⟨ad,cp,rfl,af.out,hbel⟩
theorem gA {w wr:World} {x y:Value} {t:TypeId} {N:Nat} (hN:w.heap.size<N) (h:Below N (w.alloc (.cells #[x,y] t)) wr):wr.cell? ⟨w.heap.size,0,none⟩=some x∧wr.cell? ⟨w.heap.size,1,none⟩=some y:=by
 refine ⟨(h.cell (p:=⟨w.heap.size,0,none⟩) hN).trans ?_,(h.cell (p:=⟨w.heap.size,1,none⟩) hN).trans ?_⟩ <;> simp [World.cell?_alloc_new]
theorem lT {w w':World} {o:Obj} {N:Nat} (hN:w.heap.size≤N) (h:Below N (w.alloc o) w'):Below w.heap.size w w':=((Below.refl w.heap.size w).alloc (Nat.le_refl _) _).trans (h.mono hN)
set_option maxHeartbeats 3200000 in
theorem yO (a:Option Addr) (n:Nat) (c:Nat) (x:Mrk) (w:World) (hx:x.name.size≤maxLen) (hm:markB x.name.data.toList=false) :
 Calls prog 73 #[.slice a n c,x.v] w (RetSetR w ([],7)):=by
 obtain ⟨xn,xp⟩:=x
 have cm:=bK xn hx
 rw [hm] at cm
 have CM:=hid cm;clear cm hm
 go_enter func73,ntmps73
 go_wp2_with fail
 refine (CM.out _).mono ?_
 rintro e w1 ⟨rfl,rfl⟩
 go_wp2
 go_ret2
 exact ⟨none,0,rfl,MrkR.none _ _,(Below.refl w.heap.size w).alloc (Nat.le_refl _) _⟩
set_option maxHeartbeats 3200000 in
theorem yJ (a:Option Addr) (l:List Mrk) (c:Nat) (x:Mrk) (B:Nat→Prop) (w:World) (hr:Mrks w B a l) (hB:∀ b,B b→b<w.heap.size) (hl:l.length≤1000000) (hx:x.name.size≤maxLen) (hm:markB x.name.data.toList=true) (hno:¬ l.findIdx (nmB x.name)<l.length) (h16:16≤l.length) :
 Calls prog 73 #[.slice a l.length c,x.v] w (RetSetR w ([],9)):=by
 obtain ⟨xn,xp⟩:=x
 have cm:=bK xn hx
 rw [hm] at cm
 have aa:Below w.heap.size w (w.alloc (.cells #[.string xn,.int .i64 xp] 90)):=(Below.refl w.heap.size w).alloc (Nat.le_refl _) _
 have cf:=eY a l c xn B _ (hr.below hB aa) hl
 have e1:fndM l xn=(0,false):=by unfold fndM;rw [if_neg hno]
 rw [e1] at cf
 obtain ⟨n,hn⟩:∃ n,l.length=n:=⟨_,rfl⟩
 rw [hn] at hl h16 cf ⊢
 have CM:=hid cm;have CF:=hid cf;clear cm hm cf e1 hno hn hr
 have h16':(16:Int)≤(n:Int):=by omega
 go_enter func73,ntmps73
 go_wp2_with fail
 refine (CM.out _).mono ?_
 rintro e w1 ⟨rfl,rfl⟩
 go_wp2_with fail
 refine CF.out.mono ?_
 rintro e w1 ⟨rfl,rfl⟩
 go_wp2
 go_ret2
 exact ⟨none,0,rfl,MrkR.none _ _,aa⟩
set_option maxHeartbeats 3200000 in
theorem BL (a:Option Addr) (l:List Mrk) (c:Nat) (x:Mrk) (B:Nat→Prop) (w:World) (hr:Mrks w B a l) (hB:∀ b,B b→b<w.heap.size) (hl:l.length≤1000000) (hx:x.name.size≤maxLen) (hm:markB x.name.data.toList=true) (hno:¬ l.findIdx (nmB x.name)<l.length) (h16:¬ 16≤l.length) :
 Calls prog 73 #[.slice a l.length c,x.v] w (RetSetR w (withM l x,0)):=by
 obtain ⟨i0,hi,ae,af,ag⟩:=info_parts cY
 obtain ⟨xn,xp⟩:=x
 have cm:=bK xn hx
 rw [hm] at cm
 have aj:Below w.heap.size w (w.alloc (.cells #[.string xn,.int .i64 xp] 90)):=(Below.refl w.heap.size w).alloc (Nat.le_refl _) _
 have cf:=eY a l c xn B _ (hr.below hB aj) hl
 have e1:fndM l xn=(0,false):=by unfold fndM;rw [if_neg hno]
 rw [e1] at cf
 obtain ⟨wX,hwX⟩:∃ wX,w.alloc (.cells #[.string xn,.int .i64 xp] 90)=wX:=⟨_,rfl⟩
 obtain ⟨x0,x1⟩:=gA (N:=w.heap.size+1) (by omega) (Below.refl (w.heap.size+1) (w.alloc (.cells #[.string xn,.int .i64 xp] 90)))
 have ai:w.heap.size+1≤wX.heap.size:=by rw [← hwX];simp
 have he:∀ w' ad cp,MrkR w' w.heap.size ad (withM l ⟨xn,xp⟩) cp→Below wX.heap.size wX w'→RetSetR w (withM l ⟨xn,xp⟩,0) (.returned (.tuple #[.slice ad (withM l ⟨xn,xp⟩).length cp,.int .i64 0])) w':=fun w' ad cp h1 h2=>⟨ad,cp,rfl,h1,lT (N:=wX.heap.size) (by omega) (by rw [hwX];exact h2)⟩
 have hrX:Mrks wX (·<wX.heap.size) a l:=by rw [← hwX];exact (hr.below hB aj).more fun b hb=>by have:=hB b hb;simp;omega
 rw [hwX] at cf x0 x1
 obtain ⟨L,hL⟩:∃ L,l=L:=⟨_,rfl⟩
 rw [hL] at cf he hrX hl h16 ⊢
 obtain ⟨n,hn⟩:∃ n,L.length=n:=⟨_,rfl⟩
 rw [hn] at cf hl h16 ⊢
 have CM:=hid cm;have CF:=hid cf;have HR:=hid hrX;have HN:=hid hn;have HE:=hid he;have aq:=hid hwX
 have h16':(n:Int)<16:=by omega
 clear cm hm cf e1 hno hn hr aj hrX he hL
 go_enter func73,ntmps73
 go_wp2_with fail
 refine (CM.out _).mono ?_
 rintro e w1 ⟨rfl,rfl⟩
 go_wp2_with fail
 refine CF.out.mono ?_
 rintro e w1 ⟨rfl,rfl⟩
 clear hwX
 have ak:=hid (fun t (ht:t<L.findIdx (gtB xn))=>fB ht)
 have al:=hid (fun h:L.findIdx (gtB xn)<L.length=>iP h)
 have am:=hid (iR L (gtB xn))
 have hput:withM L ⟨xn,xp⟩=putM L ⟨xn,xp⟩ (L.findIdx (gtB xn)):=rfl
 obtain ⟨j,hj⟩:∃ j,L.findIdx (gtB xn)=j:=⟨_,rfl⟩
 rw [hj] at ak al am hput
 have HP:=hid hput
 clear hj hput
 have jn:j≤n:=by have:=am.out;rw [HN.out] at this;exact this
 go_wp2
 go_loopw [8,9,10] (fun v d i wr=>∃ k:Nat,k≤n∧i=.int .i64 k∧d=.bool (decide (j<k))∧SetR wX (withT L ⟨xn,xp⟩ j k) v wr) (fun _ _ i _=>n - (intOf i).toNat)
 case atStart=>exact ⟨0,Nat.zero_le _,rfl,by rw [decide_eq_false (Nat.not_lt_zero _)],by unfold withT;rw [if_pos (Nat.zero_le _)];exact ⟨World.ownsRow_nil _ _ _ _,Below.refl _ _⟩⟩
 case round =>
  obtain ⟨k,hk,rfl,rfl,hown,hbel⟩:=hrel
  have y0:=(hbel.cell (p:=⟨w.heap.size,0,none⟩) (show w.heap.size<wX.heap.size by have:=ai;omega)).trans x0
  have y1:=(hbel.cell (p:=⟨w.heap.size,1,none⟩) (show w.heap.size<wX.heap.size by have:=ai;omega)).trans x1
  have hlen:=qN L ⟨xn,xp⟩ j k (by rw [HN.out];exact hk)
  by_cases hlt:k<n
  ·have hkl:k<L.length:=by rw [HN.out];exact hlt
   obtain ⟨ad,rfl,hab,q0,q1⟩:=(HR.out.below (fun _ h=>h) hbel) k hkl
   have hab:ad.block<wX.heap.size:=hab
   rw [← mget hkl] at q0 q1
   have s1:=fun h=>nF (l:=L) (x:=⟨xn,xp⟩) (j:=j) (k:=k) hkl h
   have s2:=fun h:j<k=>lX (l:=L) (x:=⟨xn,xp⟩) (j:=j) (k:=k) hkl h
   have s3:j=k→withT L ⟨xn,xp⟩ j (k+1)=withT L ⟨xn,xp⟩ j k++[⟨xn,xp⟩]++[L[k]!]:=fun h=>by rw [h];exact uV hkl
   have g1:k<j→gtB xn L[k]! = false:=fun h=>ak.out k h
   have g2:j=k→gtB xn L[k]! = true:=fun h=>by have:=al.out (by rw [h];exact hkl);rw [h] at this;exact this
   unfold gtB at g1 g2
   obtain ⟨y,hy⟩:∃ y,L[k]! = y:=⟨_,rfl⟩
   rw [hy] at q0 q1 s1 s2 s3 g1 g2
   obtain ⟨nm,id⟩:=y
   simp only at q0 q1 g1 g2
   obtain ⟨o,ho⟩:∃ o,withT L ⟨xn,xp⟩ j k=o:=⟨_,rfl⟩
   rw [ho] at s1 s2 s3 hown hlen
   clear hy ho
   have b0:(0:Int)≤(k:Int):=by omega
   have b1:(k:Int)<(n:Int):=by omega
   rcases Nat.lt_trichotomy k j with hkj|hkj|hkj
   ·have HS:=hid (s1 hkj)
    have g3:nleB nm xn=true:=by have:=g1 hkj;simpa using this
    rw [show decide (j<k)=false from decide_eq_false (by omega)]
    have FL:=hid (show decide (j<k+1)=false from decide_eq_false (by omega))
    clear s1 s2 s3 g1 g2
    rcases jP g3 with g|g
    ·clear g3
     go_wp2_with fail
     go_quiet (fail)
     have F:(wr.drewN nq).cell? (ad.add (k * 2))=some (.string nm)∧(wr.drewN nq).cell? ⟨(ad.add (k * 2)).block,(ad.add (k * 2)).off+1,none⟩=some (.int .i64 id)∧(wr.drewN nq).cell? ⟨w.heap.size,0,none⟩=some (.string xn)∧(wr.drewN nq).cell? ⟨w.heap.size,1,none⟩=some (.int .i64 xp) ∧
      (wr.drewN nq).ownsRow wX.heap.size 90 2 u8 o.length (Mrk.flat o)∧Below wX.heap.size wX (wr.drewN nq):=⟨q0,q1,y0,y1,hown,aB hbel _⟩
     clear q0 q1 y0 y1 hown hbel
     generalize wr.drewN nq=wx at F ⊢
     obtain ⟨q0,q1,y0,y1,hown,hbel⟩:=F
     have tok1:True:=trivial
     go_wp2_with (at_builtin;have _t:=tok1;go_loud (refine wpList_append_own _ rfl _ _ 22 rfl wX.heap.size 90 i0 _ 2 24 underlying22 hi ae af ag rfl (by decide) _ _ _ rfl (hown.alloc _) ⟨wx.heap.size,0,none⟩ 1 1 [.string nm,.int .i64 id] rfl rfl (aV _ _ _ _) (aX _ _) (by unfold maxLen;omega) (by omega) (by have:=hbel.size;simp at this ⊢;omega) ?_);intro v1 w1 ab ac _;clear tok1)
     have aa:Below wX.heap.size wX w1:=(hbel.alloc hbel.size _).grown ac (by have:=hbel.size;simp at this ⊢;omega) (aA hown)
     have R:SetR wX (withT L ⟨xn,xp⟩ j (k+1)) v1 w1:=⟨by rw [HS.out,Mrk.flat_app,List.length_append];exact ab,aa⟩
     have RR:=hid R
     clear ac hown hbel ab aa q0 q1 y0 y1 R
     go_wp2
     go_roundw
     case rel=>exact ⟨k+1,by omega,by go_num,by rw [FL.out],RR.out⟩
     case measure=>simp [intOf];omega
    ·subst g
     clear g3
     go_wp2_with fail
     go_quiet (fail)
     have F:(wr.drewN nq).cell? (ad.add (k * 2))=some (.string nm)∧(wr.drewN nq).cell? ⟨(ad.add (k * 2)).block,(ad.add (k * 2)).off+1,none⟩=some (.int .i64 id)∧(wr.drewN nq).cell? ⟨w.heap.size,0,none⟩=some (.string nm)∧(wr.drewN nq).cell? ⟨w.heap.size,1,none⟩=some (.int .i64 xp) ∧
      (wr.drewN nq).ownsRow wX.heap.size 90 2 u8 o.length (Mrk.flat o)∧Below wX.heap.size wX (wr.drewN nq):=⟨q0,q1,y0,y1,hown,aB hbel _⟩
     clear q0 q1 y0 y1 hown hbel
     generalize wr.drewN nq=wx at F ⊢
     obtain ⟨q0,q1,y0,y1,hown,hbel⟩:=F
     have tok1:True:=trivial
     go_wp2_with (at_builtin;have _t:=tok1;go_loud (refine wpList_append_own _ rfl _ _ 22 rfl wX.heap.size 90 i0 _ 2 24 underlying22 hi ae af ag rfl (by decide) _ _ _ rfl (hown.alloc _) ⟨wx.heap.size,0,none⟩ 1 1 [.string nm,.int .i64 id] rfl rfl (aV _ _ _ _) (aX _ _) (by unfold maxLen;omega) (by omega) (by have:=hbel.size;simp at this ⊢;omega) ?_);intro v1 w1 ab ac _;clear tok1)
     have aa:Below wX.heap.size wX w1:=(hbel.alloc hbel.size _).grown ac (by have:=hbel.size;simp at this ⊢;omega) (aA hown)
     have R:SetR wX (withT L ⟨nm,xp⟩ j (k+1)) v1 w1:=⟨by rw [HS.out,Mrk.flat_app,List.length_append];exact ab,aa⟩
     have RR:=hid R
     clear ac hown hbel ab aa q0 q1 y0 y1 R
     go_wp2
     go_roundw
     case rel=>exact ⟨k+1,by omega,by go_num,by rw [FL.out],RR.out⟩
     case measure=>simp [intOf];omega
   ·have HS:=hid (s3 hkj.symm)
    have g3:nleB nm xn=false:=by have:=g2 hkj.symm;simpa using this
    rw [show decide (j<k)=false from decide_eq_false (by omega)]
    have FL:=hid (show decide (j<k+1)=true from decide_eq_true (by omega))
    clear s1 s2 s3 g1 g2
    obtain ⟨g1,g2⟩:=oM g3
    have ar:j≤k:=by omega
    have au:k≤j:=by omega
    clear g3 hkj
    go_wp2_with fail
    go_quiet (fail)
    have F:(wr.drewN nq).cell? (ad.add (k * 2))=some (.string nm)∧(wr.drewN nq).cell? ⟨(ad.add (k * 2)).block,(ad.add (k * 2)).off+1,none⟩=some (.int .i64 id)∧(wr.drewN nq).cell? ⟨w.heap.size,0,none⟩=some (.string xn)∧(wr.drewN nq).cell? ⟨w.heap.size,1,none⟩=some (.int .i64 xp) ∧
     (wr.drewN nq).ownsRow wX.heap.size 90 2 u8 o.length (Mrk.flat o)∧Below wX.heap.size wX (wr.drewN nq):=⟨q0,q1,y0,y1,hown,aB hbel _⟩
    clear q0 q1 y0 y1 hown hbel
    generalize wr.drewN nq=wx at F ⊢
    obtain ⟨q0,q1,y0,y1,hown,hbel⟩:=F
    have tok1:True:=trivial
    go_upto_region 16 with (at_builtin;have _t:=tok1;go_loud (refine wpList_append_own _ rfl _ _ 22 rfl wX.heap.size 90 i0 _ 2 24 underlying22 hi ae af ag rfl (by decide) _ _ _ rfl (hown.alloc _) ⟨wx.heap.size,0,none⟩ 1 1 [.string xn,.int .i64 xp] rfl rfl (aV _ _ _ _) (aX _ _) (by unfold maxLen;omega) (by omega) (by have:=hbel.size;simp at this ⊢;omega) ?_);intro v1 w1 ab ac _;clear tok1)
    have aa:Below wX.heap.size wX w1:=(hbel.alloc hbel.size _).grown ac (by have:=hbel.size;simp at this ⊢;omega) (aA hown)
    have e0:w1.cell? (ad.add (k * 2))=some (.string nm):=(aa.cell (p:=ad.add (k * 2)) (by rw [show (ad.add (k * 2)).block=ad.block by unfold Addr.add;split <;> rfl];exact hab)).trans ((hbel.cell (p:=ad.add (k * 2)) (by rw [show (ad.add (k * 2)).block=ad.block by unfold Addr.add;split <;> rfl];exact hab)).symm.trans q0)
    have e1:w1.cell? ⟨(ad.add (k * 2)).block,(ad.add (k * 2)).off+1,none⟩=some (.int .i64 id):=(aa.cell (p:=⟨(ad.add (k * 2)).block,(ad.add (k * 2)).off+1,none⟩) (by show (ad.add (k * 2)).block<_;rw [show (ad.add (k * 2)).block=ad.block by unfold Addr.add;split <;> rfl];exact hab)).trans ((hbel.cell (p:=⟨(ad.add (k * 2)).block,(ad.add (k * 2)).off+1,none⟩) (by show (ad.add (k * 2)).block<_;rw [show (ad.add (k * 2)).block=ad.block by unfold Addr.add;split <;> rfl];exact hab)).symm.trans q1)
    clear ac hown hbel q0 q1 y0 y1
    have tok2:True:=trivial
    go_wp2_with (at_builtin;have _t:=tok2;go_loud (refine wpList_append_own _ rfl _ _ 22 rfl wX.heap.size 90 i0 _ 2 24 underlying22 hi ae af ag rfl (by decide) _ _ _ rfl (ab.alloc _) ⟨w1.heap.size,0,none⟩ 1 1 [.string nm,.int .i64 id] rfl rfl (aV _ _ _ _) (aX _ _) (by unfold maxLen;omega) (by omega) (by have:=aa.size;simp at this ⊢;omega) ?_);intro v2 w2 ah an _;clear tok2)
    have ao:Below wX.heap.size wX w2:=(aa.alloc aa.size _).grown an (by have:=aa.size;simp at this ⊢;omega) (aA ab)
    have R:SetR wX (withT L ⟨xn,xp⟩ j (k+1)) v2 w2:=⟨by rw [HS.out,Mrk.flat_app,Mrk.flat_app,List.length_append,List.length_append];exact ah,ao⟩
    have RR:=hid R
    clear ab aa ah an ao e0 e1 R
    go_wp2
    go_roundw
    case rel=>exact ⟨k+1,by omega,by go_num,by rw [FL.out],RR.out⟩
    case measure=>simp [intOf];omega
   ·have HS:=hid (s2 hkj)
    rw [show decide (j<k)=true from decide_eq_true (by omega)]
    have FL:=hid (show decide (j<k+1)=true from decide_eq_true (by omega))
    clear s1 s2 s3 g1 g2
    go_wp2_with fail
    go_quiet (fail)
    have F:(wr.drewN nq).cell? (ad.add (k * 2))=some (.string nm)∧(wr.drewN nq).cell? ⟨(ad.add (k * 2)).block,(ad.add (k * 2)).off+1,none⟩=some (.int .i64 id)∧(wr.drewN nq).cell? ⟨w.heap.size,0,none⟩=some (.string xn)∧(wr.drewN nq).cell? ⟨w.heap.size,1,none⟩=some (.int .i64 xp) ∧
     (wr.drewN nq).ownsRow wX.heap.size 90 2 u8 o.length (Mrk.flat o)∧Below wX.heap.size wX (wr.drewN nq):=⟨q0,q1,y0,y1,hown,aB hbel _⟩
    clear q0 q1 y0 y1 hown hbel
    generalize wr.drewN nq=wx at F ⊢
    obtain ⟨q0,q1,y0,y1,hown,hbel⟩:=F
    have tok1:True:=trivial
    go_wp2_with (at_builtin;have _t:=tok1;go_loud (refine wpList_append_own _ rfl _ _ 22 rfl wX.heap.size 90 i0 _ 2 24 underlying22 hi ae af ag rfl (by decide) _ _ _ rfl (hown.alloc _) ⟨wx.heap.size,0,none⟩ 1 1 [.string nm,.int .i64 id] rfl rfl (aV _ _ _ _) (aX _ _) (by unfold maxLen;omega) (by omega) (by have:=hbel.size;simp at this ⊢;omega) ?_);intro v1 w1 ab ac _;clear tok1)
    have aa:Below wX.heap.size wX w1:=(hbel.alloc hbel.size _).grown ac (by have:=hbel.size;simp at this ⊢;omega) (aA hown)
    have R:SetR wX (withT L ⟨xn,xp⟩ j (k+1)) v1 w1:=⟨by rw [HS.out,Mrk.flat_app,List.length_append];exact ab,aa⟩
    have RR:=hid R
    clear ac hown hbel ab aa q0 q1 y0 y1 R
    go_wp2
    go_roundw
    case rel=>exact ⟨k+1,by omega,by go_num,by rw [FL.out],RR.out⟩
    case measure=>simp [intOf];omega
  ·obtain rfl:k=n:=by omega
   by_cases hjk:j<k
   ·rw [show decide (j<k)=true from decide_eq_true hjk]
    have he:withT L ⟨xn,xp⟩ j k=withM L ⟨xn,xp⟩:=by rw [HP.out,← HN.out];exact sJ (by rw [HN.out];exact hjk)
    rw [he] at hown
    obtain ⟨ad,cp,rfl,hn⟩:=cH hown
    have Z:=hid (HE.out wr ad cp (hn.more (by have:=ai;omega)) hbel)
    clear hn hown hlen he hbel y0 y1
    go_wp2
    go_ret2
    exact Z.out
   ·rw [show decide (j<k)=false from decide_eq_false hjk]
    obtain rfl:j=k:=by omega
    have he:withT L ⟨xn,xp⟩ j j++[⟨xn,xp⟩]=withM L ⟨xn,xp⟩:=by rw [HP.out,← HN.out];exact oT
    obtain ⟨o,ho⟩:∃ o,withT L ⟨xn,xp⟩ j j=o:=⟨_,rfl⟩
    rw [ho] at he hown hlen
    have HW:=hid he
    clear ho he hjk
    have tok1:True:=trivial
    go_wp2_with (at_builtin;have _t:=tok1;go_loud (refine wpList_append_own _ rfl _ _ 22 rfl wX.heap.size 90 i0 _ 2 24 underlying22 hi ae af ag rfl (by decide) _ _ _ rfl (hown.alloc _) ⟨wr.heap.size,0,none⟩ 1 1 [.string xn,.int .i64 xp] rfl rfl (aV _ _ _ _) (aX _ _) (by unfold maxLen;omega) (by omega) (by have:=hbel.size;simp at this ⊢;omega) ?_);intro v1 w1 ab ac _;clear tok1)
    have aa:Below wX.heap.size wX w1:=(hbel.alloc hbel.size _).grown ac (by have:=hbel.size;simp at this ⊢;omega) (aA hown)
    have ah:w1.ownsRow wX.heap.size 90 2 v1 (withM L ⟨xn,xp⟩).length (Mrk.flat (withM L ⟨xn,xp⟩)):=by
     rw [← HW.out,Mrk.flat_app,List.length_append]
     exact ab
    obtain ⟨ad,cp,rfl,hn⟩:=cH ah
    have Z:=hid (HE.out w1 ad cp (hn.more (by have:=ai;omega)) aa)
    clear hn ab ah ac aa hbel hown y0 y1
    go_wp2
    go_ret2
    exact Z.out
set_option maxHeartbeats 3200000 in
theorem zZ (a:Option Addr) (l:List Mrk) (c:Nat) (x:Mrk) (B:Nat→Prop) (w:World) (hr:Mrks w B a l) (hB:∀ b,B b→b<w.heap.size) (hl:l.length≤1000000) (hx:x.name.size≤maxLen) (hm:markB x.name.data.toList=true) (hyes:l.findIdx (nmB x.name)<l.length) :
 Calls prog 73 #[.slice a l.length c,x.v] w (RetSetR w (withM (dropM l x.name) x,0)):=by
 obtain ⟨i0,hi,af,ag,ah⟩:=info_parts cY
 obtain ⟨xn,xp⟩:=x
 have cm:=bK xn hx
 rw [hm] at cm
 have ak:Below w.heap.size w (w.alloc (.cells #[.string xn,.int .i64 xp] 90)):=(Below.refl w.heap.size w).alloc (Nat.le_refl _) _
 have cf:=eY a l c xn B _ (hr.below hB ak) hl
 have cd:=(gQ a l c xn B _ (hr.below hB ak) (fun b hb=>by have:=hB b hb;simp;omega) hl).mono fun _ _ h=>RetSetR.ret h
 have hyes:l.findIdx (nmB xn)<l.length:=hyes
 have e1:fndM l xn=((l[l.findIdx (nmB xn)]!).p,true):=by unfold fndM;rw [if_pos hyes]
 have e2:drpM l xn=(dropM l xn,0):=by unfold drpM;rw [if_pos hyes]
 rw [e1] at cf
 rw [e2] at cd
 have hL:(dropM l xn).length≤1000000:=by have:=lC l xn;omega
 obtain ⟨L,hLe⟩:∃ L,dropM l xn=L:=⟨_,rfl⟩
 obtain ⟨pp,hpp⟩:∃ p,(l[l.findIdx (nmB xn)]!).p=p:=⟨_,rfl⟩
 show Calls _ _ _ w (RetSetR w (withM (dropM l xn) ⟨xn,xp⟩,0))
 rw [hLe] at cd hL ⊢
 rw [hpp] at cf
 obtain ⟨n0,al⟩:∃ n,l.length=n:=⟨_,rfl⟩
 rw [al] at cf cd ⊢
 obtain ⟨n,hn⟩:∃ n,L.length=n:=⟨_,rfl⟩
 rw [hn] at hL
 have hl:n≤1000000:=hL
 have CM:=hid cm;have CF:=hid cf;have CD:=hid cd;have HN:=hid hn
 clear cm hm cf cd e1 e2 hyes hn al hr ak hLe hpp hL
 obtain ⟨k0,k1⟩:=gA (N:=w.heap.size+1) (by omega) (Below.refl (w.heap.size+1) (w.alloc (.cells #[.string xn,.int .i64 xp] 90)))
 go_enter func73,ntmps73
 go_wp2_with fail
 refine (CM.out _).mono ?_
 rintro e w1 ⟨rfl,rfl⟩
 go_wp2_with fail
 refine CF.out.mono ?_
 rintro e w1 ⟨rfl,rfl⟩
 go_wp2_with fail
 refine CD.out.mono ?_
 rintro e wX ⟨a2,c2,am,an,ae⟩
 rw [show (L,(0:Int)).1.length=n from HN.out] at am
 subst am
 obtain ⟨x0,x1⟩:=gA (N:=(w.alloc (.cells #[.string xn,.int .i64 xp] 90)).heap.size) (by simp) ae
 have ai:w.heap.size+1≤wX.heap.size:=by have:=ae.size;simpa using this
 have he:∀ w' ad cp,MrkR w' w.heap.size ad (withM L ⟨xn,xp⟩) cp→Below wX.heap.size wX w'→RetSetR w (withM L ⟨xn,xp⟩,0) (.returned (.tuple #[.slice ad (withM L ⟨xn,xp⟩).length cp,.int .i64 0])) w':=fun w' ad cp h1 h2=>⟨ad,cp,rfl,h1,lT (N:=w.heap.size+1) (by omega) ((ae.mono (by simp)).trans (h2.mono ai))⟩
 have HE:=hid he
 have HR:=hid (an.more (B':=(·<wX.heap.size)) fun b hb=>hb.2)
 clear an ae he k0 k1
 have ao:=hid (fun t (ht:t<L.findIdx (gtB xn))=>fB ht)
 have aq:=hid (fun h:L.findIdx (gtB xn)<L.length=>iP h)
 have ar:=hid (iR L (gtB xn))
 have hput:withM L ⟨xn,xp⟩=putM L ⟨xn,xp⟩ (L.findIdx (gtB xn)):=rfl
 obtain ⟨j,hj⟩:∃ j,L.findIdx (gtB xn)=j:=⟨_,rfl⟩
 rw [hj] at ao aq ar hput
 have HP:=hid hput
 clear hj hput
 have jn:j≤n:=by have:=ar.out;rw [HN.out] at this;exact this
 go_wp2
 go_loopw [8,9,10] (fun v d i wr=>∃ k:Nat,k≤n∧i=.int .i64 k∧d=.bool (decide (j<k))∧SetR wX (withT L ⟨xn,xp⟩ j k) v wr) (fun _ _ i _=>n - (intOf i).toNat)
 case atStart=>exact ⟨0,Nat.zero_le _,rfl,by rw [decide_eq_false (Nat.not_lt_zero _)],by unfold withT;rw [if_pos (Nat.zero_le _)];exact ⟨World.ownsRow_nil _ _ _ _,Below.refl _ _⟩⟩
 case round =>
  obtain ⟨k,hk,rfl,rfl,hown,hbel⟩:=hrel
  have y0:=(hbel.cell (p:=⟨w.heap.size,0,none⟩) (show w.heap.size<wX.heap.size by have:=ai;omega)).trans x0
  have y1:=(hbel.cell (p:=⟨w.heap.size,1,none⟩) (show w.heap.size<wX.heap.size by have:=ai;omega)).trans x1
  have hlen:=qN L ⟨xn,xp⟩ j k (by rw [HN.out];exact hk)
  by_cases hlt:k<n
  ·have hkl:k<L.length:=by rw [HN.out];exact hlt
   obtain ⟨ad,rfl,hab,q0,q1⟩:=(HR.out.below (fun _ h=>h) hbel) k hkl
   have hab:ad.block<wX.heap.size:=hab
   rw [← mget hkl] at q0 q1
   have s1:=fun h=>nF (l:=L) (x:=⟨xn,xp⟩) (j:=j) (k:=k) hkl h
   have s2:=fun h:j<k=>lX (l:=L) (x:=⟨xn,xp⟩) (j:=j) (k:=k) hkl h
   have s3:j=k→withT L ⟨xn,xp⟩ j (k+1)=withT L ⟨xn,xp⟩ j k++[⟨xn,xp⟩]++[L[k]!]:=fun h=>by rw [h];exact uV hkl
   have g1:k<j→gtB xn L[k]! = false:=fun h=>ao.out k h
   have g2:j=k→gtB xn L[k]! = true:=fun h=>by have:=aq.out (by rw [h];exact hkl);rw [h] at this;exact this
   unfold gtB at g1 g2
   obtain ⟨y,hy⟩:∃ y,L[k]! = y:=⟨_,rfl⟩
   rw [hy] at q0 q1 s1 s2 s3 g1 g2
   obtain ⟨nm,id⟩:=y
   simp only at q0 q1 g1 g2
   obtain ⟨o,ho⟩:∃ o,withT L ⟨xn,xp⟩ j k=o:=⟨_,rfl⟩
   rw [ho] at s1 s2 s3 hown hlen
   clear hy ho
   have b0:(0:Int)≤(k:Int):=by omega
   have b1:(k:Int)<(n:Int):=by omega
   rcases Nat.lt_trichotomy k j with hkj|hkj|hkj
   ·have HS:=hid (s1 hkj)
    have g3:nleB nm xn=true:=by have:=g1 hkj;simpa using this
    rw [show decide (j<k)=false from decide_eq_false (by omega)]
    have FL:=hid (show decide (j<k+1)=false from decide_eq_false (by omega))
    clear s1 s2 s3 g1 g2
    rcases jP g3 with g|g
    ·clear g3
     go_wp2_with fail
     go_quiet (fail)
     have F:(wr.drewN nq).cell? (ad.add (k * 2))=some (.string nm)∧(wr.drewN nq).cell? ⟨(ad.add (k * 2)).block,(ad.add (k * 2)).off+1,none⟩=some (.int .i64 id)∧(wr.drewN nq).cell? ⟨w.heap.size,0,none⟩=some (.string xn)∧(wr.drewN nq).cell? ⟨w.heap.size,1,none⟩=some (.int .i64 xp) ∧
      (wr.drewN nq).ownsRow wX.heap.size 90 2 u8 o.length (Mrk.flat o)∧Below wX.heap.size wX (wr.drewN nq):=⟨q0,q1,y0,y1,hown,aB hbel _⟩
     clear q0 q1 y0 y1 hown hbel
     generalize wr.drewN nq=wx at F ⊢
     obtain ⟨q0,q1,y0,y1,hown,hbel⟩:=F
     have tok1:True:=trivial
     go_wp2_with (at_builtin;have _t:=tok1;go_loud (refine wpList_append_own _ rfl _ _ 22 rfl wX.heap.size 90 i0 _ 2 24 underlying22 hi af ag ah rfl (by decide) _ _ _ rfl (hown.alloc _) ⟨wx.heap.size,0,none⟩ 1 1 [.string nm,.int .i64 id] rfl rfl (aV _ _ _ _) (aX _ _) (by unfold maxLen;omega) (by omega) (by have:=hbel.size;simp at this ⊢;omega) ?_);intro v1 w1 ab ac _;clear tok1)
     have aa:Below wX.heap.size wX w1:=(hbel.alloc hbel.size _).grown ac (by have:=hbel.size;simp at this ⊢;omega) (aA hown)
     have R:SetR wX (withT L ⟨xn,xp⟩ j (k+1)) v1 w1:=⟨by rw [HS.out,Mrk.flat_app,List.length_append];exact ab,aa⟩
     have RR:=hid R
     clear ac hown hbel ab aa q0 q1 y0 y1 R
     go_wp2
     go_roundw
     case rel=>exact ⟨k+1,by omega,by go_num,by rw [FL.out],RR.out⟩
     case measure=>simp [intOf];omega
    ·subst g
     clear g3
     go_wp2_with fail
     go_quiet (fail)
     have F:(wr.drewN nq).cell? (ad.add (k * 2))=some (.string nm)∧(wr.drewN nq).cell? ⟨(ad.add (k * 2)).block,(ad.add (k * 2)).off+1,none⟩=some (.int .i64 id)∧(wr.drewN nq).cell? ⟨w.heap.size,0,none⟩=some (.string nm)∧(wr.drewN nq).cell? ⟨w.heap.size,1,none⟩=some (.int .i64 xp) ∧
      (wr.drewN nq).ownsRow wX.heap.size 90 2 u8 o.length (Mrk.flat o)∧Below wX.heap.size wX (wr.drewN nq):=⟨q0,q1,y0,y1,hown,aB hbel _⟩
     clear q0 q1 y0 y1 hown hbel
     generalize wr.drewN nq=wx at F ⊢
     obtain ⟨q0,q1,y0,y1,hown,hbel⟩:=F
     have tok1:True:=trivial
     go_wp2_with (at_builtin;have _t:=tok1;go_loud (refine wpList_append_own _ rfl _ _ 22 rfl wX.heap.size 90 i0 _ 2 24 underlying22 hi af ag ah rfl (by decide) _ _ _ rfl (hown.alloc _) ⟨wx.heap.size,0,none⟩ 1 1 [.string nm,.int .i64 id] rfl rfl (aV _ _ _ _) (aX _ _) (by unfold maxLen;omega) (by omega) (by have:=hbel.size;simp at this ⊢;omega) ?_);intro v1 w1 ab ac _;clear tok1)
     have aa:Below wX.heap.size wX w1:=(hbel.alloc hbel.size _).grown ac (by have:=hbel.size;simp at this ⊢;omega) (aA hown)
     have R:SetR wX (withT L ⟨nm,xp⟩ j (k+1)) v1 w1:=⟨by rw [HS.out,Mrk.flat_app,List.length_append];exact ab,aa⟩
     have RR:=hid R
     clear ac hown hbel ab aa q0 q1 y0 y1 R
     go_wp2
     go_roundw
     case rel=>exact ⟨k+1,by omega,by go_num,by rw [FL.out],RR.out⟩
     case measure=>simp [intOf];omega
   ·have HS:=hid (s3 hkj.symm)
    have g3:nleB nm xn=false:=by have:=g2 hkj.symm;simpa using this
    rw [show decide (j<k)=false from decide_eq_false (by omega)]
    have FL:=hid (show decide (j<k+1)=true from decide_eq_true (by omega))
    clear s1 s2 s3 g1 g2
    obtain ⟨g1,g2⟩:=oM g3
    have av:j≤k:=by omega
    have aw:k≤j:=by omega
    clear g3 hkj
    go_wp2_with fail
    go_quiet (fail)
    have F:(wr.drewN nq).cell? (ad.add (k * 2))=some (.string nm)∧(wr.drewN nq).cell? ⟨(ad.add (k * 2)).block,(ad.add (k * 2)).off+1,none⟩=some (.int .i64 id)∧(wr.drewN nq).cell? ⟨w.heap.size,0,none⟩=some (.string xn)∧(wr.drewN nq).cell? ⟨w.heap.size,1,none⟩=some (.int .i64 xp) ∧
     (wr.drewN nq).ownsRow wX.heap.size 90 2 u8 o.length (Mrk.flat o)∧Below wX.heap.size wX (wr.drewN nq):=⟨q0,q1,y0,y1,hown,aB hbel _⟩
    clear q0 q1 y0 y1 hown hbel
    generalize wr.drewN nq=wx at F ⊢
    obtain ⟨q0,q1,y0,y1,hown,hbel⟩:=F
    have tok1:True:=trivial
    go_upto_region 16 with (at_builtin;have _t:=tok1;go_loud (refine wpList_append_own _ rfl _ _ 22 rfl wX.heap.size 90 i0 _ 2 24 underlying22 hi af ag ah rfl (by decide) _ _ _ rfl (hown.alloc _) ⟨wx.heap.size,0,none⟩ 1 1 [.string xn,.int .i64 xp] rfl rfl (aV _ _ _ _) (aX _ _) (by unfold maxLen;omega) (by omega) (by have:=hbel.size;simp at this ⊢;omega) ?_);intro v1 w1 ab ac _;clear tok1)
    have aa:Below wX.heap.size wX w1:=(hbel.alloc hbel.size _).grown ac (by have:=hbel.size;simp at this ⊢;omega) (aA hown)
    have e0:w1.cell? (ad.add (k * 2))=some (.string nm):=(aa.cell (p:=ad.add (k * 2)) (by rw [show (ad.add (k * 2)).block=ad.block by unfold Addr.add;split <;> rfl];exact hab)).trans ((hbel.cell (p:=ad.add (k * 2)) (by rw [show (ad.add (k * 2)).block=ad.block by unfold Addr.add;split <;> rfl];exact hab)).symm.trans q0)
    have e1:w1.cell? ⟨(ad.add (k * 2)).block,(ad.add (k * 2)).off+1,none⟩=some (.int .i64 id):=(aa.cell (p:=⟨(ad.add (k * 2)).block,(ad.add (k * 2)).off+1,none⟩) (by show (ad.add (k * 2)).block<_;rw [show (ad.add (k * 2)).block=ad.block by unfold Addr.add;split <;> rfl];exact hab)).trans ((hbel.cell (p:=⟨(ad.add (k * 2)).block,(ad.add (k * 2)).off+1,none⟩) (by show (ad.add (k * 2)).block<_;rw [show (ad.add (k * 2)).block=ad.block by unfold Addr.add;split <;> rfl];exact hab)).symm.trans q1)
    clear ac hown hbel q0 q1 y0 y1
    have tok2:True:=trivial
    go_wp2_with (at_builtin;have _t:=tok2;go_loud (refine wpList_append_own _ rfl _ _ 22 rfl wX.heap.size 90 i0 _ 2 24 underlying22 hi af ag ah rfl (by decide) _ _ _ rfl (ab.alloc _) ⟨w1.heap.size,0,none⟩ 1 1 [.string nm,.int .i64 id] rfl rfl (aV _ _ _ _) (aX _ _) (by unfold maxLen;omega) (by omega) (by have:=aa.size;simp at this ⊢;omega) ?_);intro v2 w2 aj au _;clear tok2)
    have ae:Below wX.heap.size wX w2:=(aa.alloc aa.size _).grown au (by have:=aa.size;simp at this ⊢;omega) (aA ab)
    have R:SetR wX (withT L ⟨xn,xp⟩ j (k+1)) v2 w2:=⟨by rw [HS.out,Mrk.flat_app,Mrk.flat_app,List.length_append,List.length_append];exact aj,ae⟩
    have RR:=hid R
    clear ab aa aj au ae e0 e1 R
    go_wp2
    go_roundw
    case rel=>exact ⟨k+1,by omega,by go_num,by rw [FL.out],RR.out⟩
    case measure=>simp [intOf];omega
   ·have HS:=hid (s2 hkj)
    rw [show decide (j<k)=true from decide_eq_true (by omega)]
    have FL:=hid (show decide (j<k+1)=true from decide_eq_true (by omega))
    clear s1 s2 s3 g1 g2
    go_wp2_with fail
    go_quiet (fail)
    have F:(wr.drewN nq).cell? (ad.add (k * 2))=some (.string nm)∧(wr.drewN nq).cell? ⟨(ad.add (k * 2)).block,(ad.add (k * 2)).off+1,none⟩=some (.int .i64 id)∧(wr.drewN nq).cell? ⟨w.heap.size,0,none⟩=some (.string xn)∧(wr.drewN nq).cell? ⟨w.heap.size,1,none⟩=some (.int .i64 xp) ∧
     (wr.drewN nq).ownsRow wX.heap.size 90 2 u8 o.length (Mrk.flat o)∧Below wX.heap.size wX (wr.drewN nq):=⟨q0,q1,y0,y1,hown,aB hbel _⟩
    clear q0 q1 y0 y1 hown hbel
    generalize wr.drewN nq=wx at F ⊢
    obtain ⟨q0,q1,y0,y1,hown,hbel⟩:=F
    have tok1:True:=trivial
    go_wp2_with (at_builtin;have _t:=tok1;go_loud (refine wpList_append_own _ rfl _ _ 22 rfl wX.heap.size 90 i0 _ 2 24 underlying22 hi af ag ah rfl (by decide) _ _ _ rfl (hown.alloc _) ⟨wx.heap.size,0,none⟩ 1 1 [.string nm,.int .i64 id] rfl rfl (aV _ _ _ _) (aX _ _) (by unfold maxLen;omega) (by omega) (by have:=hbel.size;simp at this ⊢;omega) ?_);intro v1 w1 ab ac _;clear tok1)
    have aa:Below wX.heap.size wX w1:=(hbel.alloc hbel.size _).grown ac (by have:=hbel.size;simp at this ⊢;omega) (aA hown)
    have R:SetR wX (withT L ⟨xn,xp⟩ j (k+1)) v1 w1:=⟨by rw [HS.out,Mrk.flat_app,List.length_append];exact ab,aa⟩
    have RR:=hid R
    clear ac hown hbel ab aa q0 q1 y0 y1 R
    go_wp2
    go_roundw
    case rel=>exact ⟨k+1,by omega,by go_num,by rw [FL.out],RR.out⟩
    case measure=>simp [intOf];omega
  ·obtain rfl:k=n:=by omega
   by_cases hjk:j<k
   ·rw [show decide (j<k)=true from decide_eq_true hjk]
    have he:withT L ⟨xn,xp⟩ j k=withM L ⟨xn,xp⟩:=by rw [HP.out,← HN.out];exact sJ (by rw [HN.out];exact hjk)
    rw [he] at hown
    obtain ⟨ad,cp,rfl,hn⟩:=cH hown
    have Z:=hid (HE.out wr ad cp (hn.more (by have:=ai;omega)) hbel)
    clear hn hown hlen he hbel y0 y1
    go_wp2
    go_ret2
    exact Z.out
   ·rw [show decide (j<k)=false from decide_eq_false hjk]
    obtain rfl:j=k:=by omega
    have he:withT L ⟨xn,xp⟩ j j++[⟨xn,xp⟩]=withM L ⟨xn,xp⟩:=by rw [HP.out,← HN.out];exact oT
    obtain ⟨o,ho⟩:∃ o,withT L ⟨xn,xp⟩ j j=o:=⟨_,rfl⟩
    rw [ho] at he hown hlen
    have HW:=hid he
    clear ho he hjk
    have tok1:True:=trivial
    go_wp2_with (at_builtin;have _t:=tok1;go_loud (refine wpList_append_own _ rfl _ _ 22 rfl wX.heap.size 90 i0 _ 2 24 underlying22 hi af ag ah rfl (by decide) _ _ _ rfl (hown.alloc _) ⟨wr.heap.size,0,none⟩ 1 1 [.string xn,.int .i64 xp] rfl rfl (aV _ _ _ _) (aX _ _) (by unfold maxLen;omega) (by omega) (by have:=hbel.size;simp at this ⊢;omega) ?_);intro v1 w1 ab ac _;clear tok1)
    have aa:Below wX.heap.size wX w1:=(hbel.alloc hbel.size _).grown ac (by have:=hbel.size;simp at this ⊢;omega) (aA hown)
    have aj:w1.ownsRow wX.heap.size 90 2 v1 (withM L ⟨xn,xp⟩).length (Mrk.flat (withM L ⟨xn,xp⟩)):=by
     rw [← HW.out,Mrk.flat_app,List.length_append]
     exact ab
    obtain ⟨ad,cp,rfl,hn⟩:=cH aj
    have Z:=hid (HE.out w1 ad cp (hn.more (by have:=ai;omega)) aa)
    clear hn ab aj ac aa hbel hown y0 y1
    go_wp2
    go_ret2
    exact Z.out
theorem nI (a:Option Addr) (l:List Mrk) (c:Nat) (x:Mrk) (B:Nat→Prop) (w:World) (hr:Mrks w B a l) (hB:∀ b,B b→b<w.heap.size) (hl:l.length≤1000000) (hx:x.name.size≤maxLen) :
 Calls prog 73 #[.slice a l.length c,x.v] w (RetSetR w (setM l x)):=by
 unfold setM
 by_cases h1:markB x.name.data.toList=false
 ·rw [if_pos h1]
  exact yO a l.length c x w hx h1
 rw [if_neg h1]
 have h1:markB x.name.data.toList=true:=by simpa using h1
 by_cases h2:l.findIdx (nmB x.name)<l.length
 ·rw [if_pos h2]
  exact zZ a l c x B w hr hB hl hx h1 h2
 rw [if_neg h2]
 by_cases h3:16≤l.length
 ·rw [if_pos h3]
  exact yJ a l c x B w hr hB hl hx h1 h2 h3
 ·rw [if_neg h3]
  exact BL a l c x B w hr hB hl hx h1 h2 h3
end Go.Proofs.YtbagenpobcgjnaaGreat
