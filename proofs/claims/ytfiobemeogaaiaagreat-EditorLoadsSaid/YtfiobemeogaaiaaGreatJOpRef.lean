/-
  Joined: OpRef, OpRef2, TallyAdd.
-/
import Derived.Test.YtfiobemeogaaiaaGreatJUtfRTake
import Derived.Test.YtfiobemeogaaiaaGreatJUtfLeaf
import Derived.Test.YtfiobemeogaaiaaGreatJBlk
import Derived.Laws.OwnMore
import Derived.Deep.AppendLies
import Derived.Deep.Draws
namespace Go.Proofs.YtfiobemeogaaiaaGreat
open Go.RowKit
theorem qQ (s:ByteArray):s.data.toList.length=s.size:=by simp
open Go.Proofs.Tryz
open Lib (hid)
theorem gH (a:Addr) (n:Nat):(a.add n).block=a.block:=by unfold Addr.add;split <;> rfl
structure Cnt where
 b:Int
 r:Int
 l:Int
def Cnt.plus (x y:Cnt):Cnt:=⟨wrap64 (x.b+y.b),wrap64 (x.r+y.r),wrap64 (x.l+y.l)⟩
def Cnt.sum (l:List Cnt):Cnt:=l.foldl Cnt.plus ⟨0,0,0⟩
theorem Cnt.sum_snoc (l:List Cnt) (x:Cnt):Cnt.sum (l++[x])=(Cnt.sum l).plus x:=by unfold Cnt.sum;rw [List.foldl_append];rfl
def Cnts (w:World) (B:Nat) (a:Option Addr) (l:List Cnt):Prop:=
 ∀ (k:Nat) (h:k<l.length),∃ ad,a=some ad∧ad.block<B∧w.cell? (ad.add (k * 3))=some (.int .i64 (l[k]).b)∧w.cell? ⟨(ad.add (k * 3)).block,(ad.add (k * 3)).off+1,none⟩=some (.int .i64 (l[k]).r)∧w.cell? ⟨(ad.add (k * 3)).block,(ad.add (k * 3)).off+2,none⟩=some (.int .i64 (l[k]).l)
theorem Cnts.keep {w w':World} {B:Nat} {a:Option Addr} {l:List Cnt} (h:Cnts w B a l) (hk:∀ p:Addr,p.block<B→w'.cell? p=w.cell? p):Cnts w' B a l:=fun k hl=>by
 obtain ⟨ad,e,hb,h1,h2,h3⟩:=h k hl
 exact ⟨ad,e,hb,(hk _ (by rw [gH];exact hb)).trans h1,(hk _ (by rw [gH];exact hb)).trans h2,(hk _ (by rw [gH];exact hb)).trans h3⟩
theorem Cnts.below {w w':World} {B:Nat} {a:Option Addr} {l:List Cnt} (h:Cnts w B a l) (hb:Below B w w'):Cnts w' B a l:=h.keep fun _ hp=>hb.cell hp
theorem Cnts.more {w:World} {B B':Nat} {a:Option Addr} {l:List Cnt} (h:Cnts w B a l) (hB:B≤B'):Cnts w B' a l:=fun k hl=>by
 obtain ⟨ad,e,hb,h1⟩:=h k hl
 exact ⟨ad,e,by omega,h1⟩
theorem vH (l:List Cnt) (k:Nat) (h:k<l.length):Cnt.sum (l.take (k+1))=(Cnt.sum (l.take k)).plus (l[k]'h):=by
 rw [List.take_succ_eq_append_getElem h,Cnt.sum_snoc]
set_option maxRecDepth 100000 in
set_option maxHeartbeats 400000 in
theorem KU (a:Option Addr) (l:List Cnt) (c:Nat) (hl:l.length≤1000) (w:World) (hr:Cnts w w.heap.size a l) :
 Calls prog 167 #[.slice a l.length c] w fun e w'=>e=.returned (cntV (Cnt.sum l).b (Cnt.sum l).r (Cnt.sum l).l)∧Below w.heap.size w w':=by
 obtain ⟨n,hn⟩:∃ n,l.length=n:=⟨_,rfl⟩
 have HN:=hid hn
 rw [hn] at hl ⊢
 clear hn
 have HR:=hid hr;clear hr
 go_enter func167,ntmps167
 go_wp2
 go_loopw [9] (fun i wr=>∃ k:Nat,k≤n∧i=.int .i64 k∧Below w.heap.size w wr∧Blk3 wr w.heap.size (.int .i64 0) (.int .i64 0) (.int .i64 0) 94∧Blk3 wr (w.heap.size+1) (.int .i64 (Cnt.sum (l.take k)).b) (.int .i64 (Cnt.sum (l.take k)).r) (.int .i64 (Cnt.sum (l.take k)).l) 94) (fun i _=>n - (intOf i).toNat)
 case atStart=>exact ⟨0,by omega,rfl,((Below.refl _ _).alloc (Nat.le_refl _) _).alloc (by simp) _,(Blk3.new _ _ _ _ _).alloc _,Blk3.new (w.alloc (.cells #[.int .i64 0,.int .i64 0,.int .i64 0] 94)) (.int .i64 0) (.int .i64 0) (.int .i64 0) 94 |> fun h=>by rw [show (w.alloc (.cells #[.int .i64 0,.int .i64 0,.int .i64 0] 94)).heap.size=w.heap.size+1 by simp] at h;exact h⟩
 case round =>
  obtain ⟨k,hk,rfl,hbel,ab,aa⟩:=hrel
  by_cases hlt:k<n
  ·have hs:=vH l k (by rw [HN.out];exact hlt)
   have ac:=HR.out.below hbel
   obtain ⟨ad,rfl,hb,q1,q2,q3⟩:=ac k (by rw [HN.out];exact hlt)
   clear ac
   obtain ⟨x,hx⟩:∃ x,l[k]'(by rw [HN.out];exact hlt)=x:=⟨_,rfl⟩
   obtain ⟨y,hy⟩:∃ y,Cnt.sum (l.take k)=y:=⟨_,rfl⟩
   rw [hx] at hs q1 q2 q3
   rw [hy] at hs aa
   have HS:=hid hs;clear hs hx hy
   have ae:=aa.lt
   have f0:=aa.c0
   have f1:=aa.c1
   have f2:=aa.c2
   have f3:=aa.free 0
   have f4:=aa.free 1
   have f5:=aa.free 2
   have H0:=hid ab;have H1:=hid aa
   clear ab aa
   go_wp2
   go_roundw
   case rel =>
    refine ⟨k+1,by omega,by go_num,?_,?_,?_⟩
    ·exact (((hbel.setCell (p:=⟨w.heap.size+1,0,none⟩) (by simp) _).setCell (p:=⟨w.heap.size+1,1,none⟩) (by simp) _).setCell (p:=⟨w.heap.size+1,2,none⟩) (by simp) _).alloc (by simpa using hbel.size) _
    ·exact (((H0.out.other ⟨w.heap.size+1,0,none⟩ (by simp) _).other ⟨w.heap.size+1,1,none⟩ (by simp) _).other ⟨w.heap.size+1,2,none⟩ (by simp) _).alloc _
    ·rw [HS.out];exact (((H1.out.s0 _).s1 _).s2 _).alloc _
   case measure=>simp [intOf];omega
  ·have e:l.take k=l:=List.take_of_length_le (by rw [HN.out];omega)
   rw [e] at aa;clear e
   have f0:=aa.c0
   have f1:=aa.c1
   have f2:=aa.c2
   have g0:=ab.c0
   have g1:=ab.c1
   have g2:=ab.c2
   have g3:=ab.free 0
   have g4:=ab.free 1
   have g5:=ab.free 2
   have ae:=aa.lt
   clear ab aa
   go_wp2
   refine bodyPost_ret (v:=cntV (Cnt.sum l).b (Cnt.sum l).r (Cnt.sum l).l) (by simp [results,results167,go_sem,g0,g1,g2]) rfl ⟨rfl,?_⟩
   exact ((hbel.setCell (p:=⟨w.heap.size,0,none⟩) (Nat.le_refl _) _).setCell (p:=⟨w.heap.size,1,none⟩) (Nat.le_refl _) _).setCell (p:=⟨w.heap.size,2,none⟩) (Nat.le_refl _) _
end Go.Proofs.YtfiobemeogaaiaaGreat
