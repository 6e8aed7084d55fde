/-
  Joined: StaSize, StaRef.
-/
import Derived.Test.YtbagenpobcgjnaaGreatStaIter
import Derived.RangeFuncBound
open Go renaming World->zq,callsIn_wide->Ag,results->zy,undef->zo
open Go.Lib renaming hid->zk
open Go.Obj renaming cells->zr
open Go.Value renaming agg->Aa,bool->zn,pointer->zt,slice->zm,string->zp
open List renaming all_append->Ak,all_eq_false->Ad,all_eq_true->Ae,getElem_mem->zx,mem_iff_getElem->Af
open Nat renaming le_refl->Aj,lt_or_ge->Ab,not_lt_zero->zz,zero_le->Al
namespace Go.Proofs.YtbagenpobcgjnaaGreat
open Go.Proofs.Tryz
set_option maxRecDepth 100000
open Lib (hid)
open Go.RowKit
set_option linter.unusedVariables false
set_option linter.unusedSimpArgs false
attribute [local go_sem] Oper.semAt_some
theorem cL {P:Program} {n:Nat} {fn:Func} {tmps:Array Value} {R:Ending→zq→Prop} {D:Nat} {w:zq} {v:Value} (hK:w.heap[D]? = some (.deferred (some []))) (hr:(zy fn tmps).run P (w.putObj D (.deferred none))=.ok v (w.putObj D (.deferred none))) (h:R (.returned v) (w.putObj D (.deferred none))) :
 LeavesInM Fence.wide n P fn tmps R [{ target:=.collected D,args:=#[] }] .returning w:=
 ⟨li,.inl ⟨_,_,rfl,run_takeDeferred hK,_,hr,h⟩⟩
theorem pG {w:zq} {D:Nat} {o:Obj} {p:Addr} (h:p.block≠D):(w.putObj D o) p=w p:=World.cell?_of_block (World.putObj_heap_other h)
theorem jH {P:Program} {fn:Func} {p:Tmp} {ty:TypeId} (h:fn.results=#[.cell p ty]) (ht:P.underlying ty=some .bool) (ha:∀ w,(isAgg ty).run P w=.ok false w) (tmps:Array Value) (w:zq) (ad:Addr) (b:Bool) (hp:tmps.getD p zo=zt (some ad)) (hc:w ad=some (zn b)):(zy fn tmps).run P w=.ok (zn b) w:=by
 have hp':tmps[p]?.getD zo=zt (some ad):=by simpa using hp
 simp only [zy,h];simp [Sem.run_bind,Result.andThen,loadVar,go_sem,hp',hc,ha]
theorem FQ (s:l7) (w:zq):Calls prog 104 #[s.v] w fun e w'=>e=.returned (.func (.func 132) #[] #[zt (some ⟨w,0,none⟩)])∧w'=w.alloc (zr s.cs 26):=by
 have hmf:∀ (fn:Fn) (first cap:Array Value) (w:zq),(Instr.makeFunc fn first cap).run prog w=.ok (.func fn first cap) w:=fun _ _ _ _=>rfl;unfold l7.v l7.cs;go_enter func104,ntmps104;go_wp2;go_ret;exact ⟨rfl,rfl⟩
def o8 (x:l8):Bool:=decide (1≤max x.o.size x.n.size) && decide (max x.o.size x.n.size≤512)
def MeJ (w:zq) (s:l7) (k:Nat) (A:zq):Prop:=Boxed A (w+1) 4 (zn false)∧Below w w A∧∀ j,j<k→o8 (s.edits[j]!)=true
def MeX (w:zq) (s:l7) (c:Code) (A:zq):Prop:=c=.ret∧Boxed A (w+1) 4 (zn false)∧Below w w A∧s.edits.all o8=false
set_option maxHeartbeats 1600000 in
theorem vY (s:l7) (w:zq) (hin:ol w s) (hu:s.u.l.length≤100) (hr:s.r.l.length≤100) (hz:∀ x∈s.rows,x.l.length≤1000000) :
 Calls prog 83 #[s.v] w fun e w'=>e=.returned (zn (s.edits.all o8))∧Below w w w':=by
 have hmix:prog.follows .mixedOrders=true:=lh;obtain ⟨W1,aa⟩:∃ W1,(w.alloc (zr s.cs 26)).alloc (zr #[zn false] 4)=W1:=⟨_,rfl⟩;have ad:W1.heap.size=w+2:=by rw [← aa];simp
 have ab:Below w w W1:=by rw [← aa];exact qk _ _ _
 have ae:Boxed W1 (w+1) 4 (zn false):=by
  have:=Boxed.new (w.alloc (zr s.cs 26)) 4 (zn false);rw [World.size_alloc] at this;rw [← aa];exact this
 have hbx:ur W1.heap.size (zp s.t) (zm s.m.a s.m.l.length s.m.c) (zm s.u.a s.u.l.length s.u.c) (zm s.r.a s.r.l.length s.r.c) (zn s.o) (zm s.g.a s.g.l.length s.g.c) (W1.alloc (zr s.cs 26)):=ur.new _ _ _ _ _ _ _ _;have hg:=BC s hin (ab.trans ((ns W1 (zr s.cs 26)).mono ab.size)) hbx hu hr hz;have af:=zk aa;have HG:=zk hg;have ag:=zk ae;have ac:=zk ab;have ak:=zk ad;clear aa hg ae ab hbx hin hu hr hz ad;obtain ⟨R,hR⟩:∃ R,s.edits.all o8=R:=⟨_,rfl⟩;rw [hR];have HR:=zk hR;clear hR;refine (Ag (n:=5)).1 ?_;unfold l7.v l7.cs at *;refine callsIn_of_wp_marks func83 rfl trivial ?_ rfl;simp only [ntmps83,List.size_toArray,List.length_cons,List.length_nil,Nat.reduceAdd,Nat.reduceSub,Array.replicate_succ,Array.replicate_zero,List.push_toArray,List.append_toArray,List.nil_append,List.cons_append]
 gi_wp2_with fail
 rw [af.out];refine ⟨trivial,(Ag.2 (FQ s _)).mono ?_⟩;rintro e w2 ⟨rfl,rfl⟩
 gi_wp2_with fail
 unfold l7.cs;have hg:=HG.out;have ah:(W1.alloc (zr #[zp s.t,zm s.m.a s.m.l.length s.m.c,zm s.u.a s.u.l.length s.u.c,zm s.r.a s.r.l.length s.r.c,zn s.o,zm s.g.a s.g.l.length s.g.c] 26)).heap.size=W1+1:=li;have hp:=ag.out.alloc (zr #[zp s.t,zm s.m.a s.m.l.length s.m.c,zm s.u.a s.u.l.length s.u.c,zm s.r.a s.r.l.length s.r.c,zn s.o,zm s.g.a s.g.l.length s.g.c] 26);have hb:=ac.out.alloc ac.out.size (zr #[zp s.t,zm s.m.a s.m.l.length s.m.c,zm s.u.a s.u.l.length s.u.c,zm s.r.a s.r.l.length s.r.c,zn s.o,zm s.g.a s.g.l.length s.g.c] 26);obtain ⟨W0,ai⟩:∃ W0,W1.alloc (zr #[zp s.t,zm s.m.a s.m.l.length s.m.c,zm s.u.a s.u.l.length s.u.c,zm s.r.a s.r.l.length s.r.c,zn s.o,zm s.g.a s.g.l.length s.g.c] 26)=W0:=⟨_,rfl⟩;rw [ai] at hg ah hp hb ⊢;have hlt:w.heap.size+2<W0.heap.size:=by have:=ak.out;omega
 clear ai af HG ag ac ah;refine qJ (gf:=132) (lb:=#[zt (some ⟨W1,0,none⟩)]) rfl (enters_of func132 lh rfl) hg (Below.refl _ _) lg (fun _=>rfl)
  (MeJ w s) (MeX w s)
  (fun k A B ⟨x1,x2,x3⟩ hA hT=>⟨hT.box x1 lg,x2.trans (hT.bel.mono lg),x3⟩)
  (fun c A B ⟨e,x1,x2,x3⟩ hA hT=>⟨e,hT.box x1 lg,x2.trans (hT.bel.mono lg),x3⟩)
  ⟨hp,hb,fun j hj=>absurd hj (zz _)⟩
  (fun x b=>{ tmps:=#[Aa #[zp s.t,zm s.m.a s.m.l.length s.m.c,zm s.u.a s.u.l.length s.u.c,zm s.r.a s.r.l.length s.r.c,zn s.o,zm s.g.a s.g.l.length s.g.c],zt (some ⟨w,0,none⟩),zt (some ⟨w+1,0,none⟩),zt (some ⟨b,0,none⟩),zo,Aa #[zp s.t,zm s.m.a s.m.l.length s.m.c,zm s.u.a s.u.l.length s.u.c,zm s.r.a s.r.l.length s.r.c,zn s.o,zm s.g.a s.g.l.length s.g.c],.func (.func 132) #[] #[zt (some ⟨W1,0,none⟩)],Aa #[.int .i64 x.p,zp x.o,zp x.n],zo,zo,zo,zo,zo,zo,zo,zo,zo,zo,zo,zo,zo],defers:=[] })
  (fun x=>zr #[.int .i64 x.p,zp x.o,zp x.n] 92) ?assign ?body ?done ?stop
 case assign =>
  intro l x W K hK
  gi_wp2
  exact hK
 case body =>
  rintro l k x k' b W am hob ⟨hkl,hxe,rfl⟩ ⟨j1,j2,j3⟩;have hyes:o8 x=true→∀ j,j<k+1→o8 (s.edits[j]!)=true:=fun h j hj=>by
   rcases Ab j k with g|g
   ·exact j3 j g
   ·obtain rfl:j=k:=lg;rw [← hxe];exact h
  have hno:o8 x=false→s.edits.all o8=false:=fun h=>by
   rw [Ad];exact ⟨s.edits[k]!,by rw [tu hkl];exact zx hkl,by rw [← hxe,h];simp⟩
  obtain ⟨p,o,m⟩:=x;obtain ⟨M,hM⟩:∃ M,max o.size m.size=M:=⟨_,rfl⟩;have an:max (o.size:Int) (m.size:Int)=(M:Int):=lg;have hok:o8 ⟨p,o,m⟩=(decide (1≤M) && decide (M≤512)):=by unfold o8;simp only [hM]
  rw [hok] at hyes hno;have q1:W ⟨b,1,none⟩=some (zp o):=by simp [World.cell?,hob]
  have q2:W ⟨b,2,none⟩=some (zp m):=by simp [World.cell?,hob]
  have f1:=j1.cell;have f2:=j1.frozen;have J1:=zk j1;have J2:=zk j2;have HY:=zk hyes;have HN:=zk hno;clear hyes hno hok j1 j2 j3 hxe hM;by_cases h1:M<1
  ·have g1:(M:Int)<1:=lg;have hn:=zk (HN.out (by rw [decide_eq_false lg];rfl))
   gi_wp2
   exact ⟨(Kq.refl _ _ _ _).set lg lg _,rfl,J1.out.set _,J2.out.setCell (p:=⟨w+1,0,none⟩) (by show w.heap.size≤w+1;omega) _,hn.out⟩
  ·have g1:¬ (M:Int)<1:=lg;by_cases h2:512<M
   ·have g2:(512:Int)<(M:Int):=lg;have hn:=zk (HN.out (by rw [decide_eq_false (p:=M≤512) lg,Bool.and_false]))
    gi_wp2
    exact ⟨(Kq.refl _ _ _ _).set lg lg _,rfl,J1.out.set _,J2.out.setCell (p:=⟨w+1,0,none⟩) (by show w.heap.size≤w+1;omega) _,hn.out⟩
   ·have g2:(M:Int)≤512:=lg;have hy:=zk (HY.out (by rw [decide_eq_true lg,decide_eq_true lg];rfl))
    gi_wp2
    exact ⟨Kq.refl _ _ _ _,J1.out,J2.out,hy.out⟩
 case done =>
  rintro D' W hD al ⟨j1,j2,j3⟩ hK;have hall:s.edits.all o8=true:=by
   rw [Ae];intro y hy;obtain ⟨j,hj,rfl⟩:=Af.1 hy;rw [← tu hj];exact j3 j hj
  obtain rfl:R=true:=by rw [← HR.out];exact hall
  have f1:=j1.cell;have f2:=j1.frozen;have J1:=zk (j1.set (zn true));have J2:=zk (j2.setCell (p:=⟨w+1,0,none⟩) (by show w.heap.size≤w+1;omega) (zn true));have aj:(W.setCell ⟨w+1,0,none⟩ (zn true)).heap[D']? = some (.deferred (some [])):=(Below.heap_setCell _ _ _ _ (by show D'≠w+1;omega)).trans hK;clear j1 j2 j3 hall
  gi_wp2
  refine cL (v:=zn true) aj (jH rfl underlying4 (by intro w;kernel_rfl) _ _ ⟨w+1,0,none⟩ true rfl ?_) ⟨rfl,?_⟩
  ·rw [pG (by show w+1≠D';omega)];exact J1.out.cell
  ·exact J2.out.trans (belowK_b (w:=w) (Aj _) _ D' _ _ lg aj rfl rfl)
 case stop =>
  rintro D' c W hD al ⟨rfl,j1,j2,j3⟩ hK;obtain rfl:R=false:=by rw [← HR.out];exact j3
  have J1:=zk j1;have J2:=zk j2;clear j1 j2 j3
  gi_wp2
  refine cL (v:=zn false) hK (jH rfl underlying4 (by intro w;kernel_rfl) _ _ ⟨w+1,0,none⟩ false rfl ?_) ⟨rfl,?_⟩
  ·rw [pG (by show w+1≠D';omega)];exact J1.out.cell
  ·exact J2.out.trans (belowK_b (w:=w) (Aj _) _ D' _ _ lg hK rfl rfl)
def oz (l:List mo):Bool:=l.all fun x=>x.l.all o8
theorem EF {l:List mo} {k j:Nat} (hk:k<l.length) (hj:j<(l[k]!).l.length) (h:o8 ((l[k]!).l[j]!)=false):oz l=false:=by
 unfold oz;rw [Ad];refine ⟨l[k]!,by rw [og hk];exact zx hk,?_⟩;rw [Bool.not_eq_true,Ad];exact ⟨(l[k]!).l[j]!,by rw [tu hj];exact zx hj,by rw [h];simp⟩
theorem GB {l:List mo} (h:∀ k,k<l.length→(l[k]!).l.all o8=true):oz l=true:=by
 unfold oz;rw [Ae];intro x hx;obtain ⟨k,hk,rfl⟩:=Af.1 hx;rw [← og hk];exact h k hk
theorem qK (s:l7):s.edits.all o8=(oz s.u.l && (oz s.r.l && oz [s.g])):=by
 unfold l7.edits l7.rows r9 oz;rw [List.all_flatMap,Ak,Ak,Bool.and_assoc]
theorem dC (x:l8):o8 x=true↔x.o.size≤512∧x.n.size≤512∧(1≤x.o.size∨1≤x.n.size):=by
 unfold o8;simp only [Bool.and_eq_true,decide_eq_true_eq];omega
theorem QV {x:l8} (h:¬ (x.o.size≤512∧x.n.size≤512∧(1≤x.o.size∨1≤x.n.size))):o8 x=false:=by
 cases e:o8 x
 ·rfl
 ·exact absurd ((dC x).1 e) h
theorem yY {s:ByteArray} (h:s.size=0):s=⟨#[]⟩:=by
 obtain ⟨⟨l⟩⟩:=s;cases l with
 | nil=>rfl
 | cons x r=>cases h
theorem jJ {s:ByteArray} (h:¬ s.size=0):¬ s.toList=[]:=fun e=>h (by
 have e2:=dQ (a:=s) (b:=⟨#[]⟩) (fun e3=>h (by rw [e3];rfl));rw [e] at e2;exact absurd e2 (by decide +kernel))
set_option maxHeartbeats 3200000 in
theorem lI (a:Option Addr) (l:List mo) (c:Nat) (w:zq) (hp:nz w ⟨a,l,c⟩) (hl:l.length≤1000000) (hz:∀ x∈l,x.l.length≤1000000) :
 Calls prog 39 #[zm a l.length c] w fun e w'=>e=.returned (zn (oz l))∧Below w w w':=by
 obtain ⟨n,hn⟩:∃ n,l.length=n:=⟨_,rfl⟩;obtain ⟨r,hfr⟩:∃ r,oz l=r:=⟨_,rfl⟩;rw [hn] at hl ⊢;rw [hfr];have HP:=zk hp;have HN:=zk hn;have HF:=zk hfr;have HZ:=zk hz;clear hn hfr hp hz;go_enter func39,ntmps39;go_wp2
 go_loopw [3] (fun i wr=>∃ k:Nat,k≤n∧i=.int .i64 k∧(∀ j,j<k→(l[j]!).l.all o8=true)∧Below w w wr) (fun i _=>n - (intOf i).toNat)
 case atStart=>exact ⟨0,Al _,rfl,fun j hj=>absurd hj (zz _),Below.refl _ _⟩
 case round =>
  obtain ⟨k,hk,rfl,hall,hbel⟩:=hrel;by_cases hlt:k<n
  ·have hkl:k<l.length:=by rw [HN.out];exact hlt
   obtain ⟨ad,rfl,hab,q0⟩:=HP.out.row k hkl;have ac:=HP.out.all.at k hkl;have ae:=HZ.out (l[k]!) (by rw [og hkl];exact zx hkl);have hyes:(l[k]!).l.all o8=true→∀ j,j<k+1→(l[j]!).l.all o8=true:=fun h j hj=>by
    rcases Ab j k with g|g
    ·exact hall j g
    ·obtain rfl:j=k:=lg;exact h
   have hno:=fun j (hj:j<(l[k]!).l.length)=>EF hkl hj;obtain ⟨x,hx⟩:∃ x,l[k]! = x:=⟨_,rfl⟩;simp only at q0;rw [hx] at q0 ac ae hyes hno;obtain ⟨xa,xl,xc⟩:=x;simp only [mo.v] at q0 ae hyes hno;obtain ⟨m,hm⟩:∃ m,xl.length=m:=⟨_,rfl⟩;rw [hm] at q0 ae hno;rw [HF.out] at hno;have af:(ad.add k).block<w:=by rw [aX];exact hab
   have b0:(0:Int)≤(k:Int):=lg;have b1:(k:Int)<(n:Int):=lg;have ak:=zk ac;have HM:=zk hm;have HY:=zk hyes;have al:=zk hno;have am:=zk q0;have an:=zk af;clear hall hx ac hyes hno hm hab q0 af;go_wp2
   go_loopw [4] (fun i wr=>∃ j:Nat,j≤m∧i=.int .i64 j∧(∀ q,q<j→o8 (xl[q]!)=true)∧Below w w wr) (fun i _=>m - (intOf i).toNat)
   case atStart=>exact ⟨0,Al _,rfl,fun q hq=>absurd hq (zz _),hbel⟩
   case round =>
    obtain ⟨j,hj,rfl,hall,ab⟩:=hrel;have q0:=(ab.cell an.out).trans am.out;by_cases hjm:j<m
    ·have hjl:j<xl.length:=by rw [HM.out];exact hjm
     obtain ⟨xd,rfl,hxb,p0,p1,p2⟩:=(ak.out.later ab).row.at j hjl;have hyes:o8 (xl[j]!)=true→∀ q,q<j+1→o8 (xl[q]!)=true:=fun h q hq=>by
      rcases Ab q j with g|g
      ·exact hall q g
      ·obtain rfl:q=j:=lg;exact h
     have ag:=al.out j hjm;obtain ⟨y,hy⟩:∃ y,xl[j]! = y:=⟨_,rfl⟩;simp only at p0 p1 p2;rw [hy] at p0 p1 p2 hyes ag;have h1:=dC y;have h2:=@QV y;obtain ⟨p,o,nn⟩:=y;simp only at p0 p1 p2 h1 h2;have d0:(0:Int)≤(j:Int):=lg;have d1:(j:Int)<(m:Int):=lg;have aj:=zk hyes;have ah:=zk ag;have H1:=zk h1;have H2:=zk h2;have aa:=zk ab;clear hall hyes ag h1 h2 hy hxb;by_cases g1:512<o.size
     ·obtain rfl:=ah.out (H2.out lg);have g2:(512:Int)<(o.size:Int):=lg;go_wp2;go_ret;exact ⟨rfl,aa.out.trans ((ns _ _).mono aa.out.size)⟩
     by_cases g2:512<nn.size
     ·obtain rfl:=ah.out (H2.out lg);have g3:(o.size:Int)≤512:=lg;have g4:(512:Int)<(nn.size:Int):=lg;go_wp2;go_ret;exact ⟨rfl,aa.out.trans ((ns _ _).mono aa.out.size)⟩
     have g3:(o.size:Int)≤512:=lg;have g4:(nn.size:Int)≤512:=lg;by_cases g5:o.size=0
     ·obtain rfl:=yY g5;by_cases g6:nn.size=0
      ·obtain rfl:=yY g6;obtain rfl:=ah.out (H2.out lg);clear g5 g6;go_wp2;go_ret;exact ⟨rfl,aa.out.trans ((ns _ _).mono aa.out.size)⟩
      ·have g7:=jJ g6;have g8:nn.toList.isEmpty=false:=by cases e:nn.toList with|nil=>exact absurd e g7|cons _ _=>rfl
       have ai:=zk (aj.out (H1.out.2 ⟨lg,lg,lg⟩));clear g5 g6 ab;go_wp2;go_roundw
       case rel=>exact ⟨j+1,lg,by go_num,ai.out,aa.out.trans ((ns _ _).mono aa.out.size)⟩
       case measure=>simp [intOf];omega
     ·have g7:=jJ g5;have g8:o.toList.isEmpty=false:=by cases e:o.toList with|nil=>exact absurd e g7|cons _ _=>rfl
      have ai:=zk (aj.out (H1.out.2 ⟨lg,lg,lg⟩));clear g5 ab;go_wp2;go_roundw
      case rel=>exact ⟨j+1,lg,by go_num,ai.out,aa.out.trans ((ns _ _).mono aa.out.size)⟩
      case measure=>simp [intOf];omega
    ·obtain rfl:j=m:=lg;have hxl:xl.all o8=true:=by
      rw [Ae];intro y hy;obtain ⟨q,hq,rfl⟩:=Af.1 hy;rw [← tu hq];exact hall q (by rw [← HM.out];exact hq)
     have HK:=zk (HY.out hxl);have aa:=zk ab;clear hall hxl ab;go_wp2;go_roundw
     case rel=>exact ⟨k+1,lg,by go_num,HK.out,aa.out⟩
     case measure=>simp [intOf];omega
  ·obtain rfl:k=n:=lg;have h0:r=true:=by
    rw [← HF.out];exact GB (by rw [HN.out];exact hall)
   subst h0;have aa:=zk hbel;clear hall hbel;go_wp2;go_ret;exact ⟨rfl,aa.out⟩
end Go.Proofs.YtbagenpobcgjnaaGreat
