/-
  Joined: StaSize, StaRef.
-/
import Derived.Test.YtbagenpobcgjnaaGreatStaIter
import Derived.RangeFuncBound
open Go renaming World->zd,callsIn_wide->zs,results->zk,undef->yy
open Go.Lib renaming hid->yv
open Go.Obj renaming cells->ze
open Go.Value renaming agg->zn,bool->yx,pointer->zf,slice->yw,string->yz
open List renaming all_append->zw,all_eq_false->zp,all_eq_true->zq,getElem_mem->zj,mem_iff_getElem->zr
open Nat renaming le_refl->zv,lt_or_ge->zo,not_lt_zero->zm,zero_le->zx
namespace Go.Proofs.YtbagenpobcgjnaaGreat
open Go.Proofs.Tryz
set_option maxRecDepth 100000
open Lib (hid)
open Go.RowKit
set_option linter.unusedVariables false
set_option linter.unusedSimpArgs false
attribute [local go_sem] Oper.semAt_some
theorem aO {P:Program} {n:Nat} {fn:Func} {tmps:Array Value} {R:Ending→zd→Prop} {D:Nat} {w:zd} {v:Value} (hK:w.heap[D]? = some (.deferred (some []))) (hr:(zk fn tmps).run P (w.putObj D (.deferred none))=.ok v (w.putObj D (.deferred none))) (h:R (.returned v) (w.putObj D (.deferred none))) :
 LeavesInM Fence.wide n P fn tmps R [{ target:=.collected D,args:=#[] }] .returning w:=
 ⟨lh,.inl ⟨_,_,rfl,run_takeDeferred hK,_,hr,h⟩⟩
theorem gQ {w:zd} {D:Nat} {o:Obj} {p:Addr} (h:p.block≠D):(w.putObj D o) p=w p:=World.cell?_of_block (World.putObj_heap_other h)
theorem dT {P:Program} {fn:Func} {p:Tmp} {ty:TypeId} (h:fn.results=#[.cell p ty]) (ht:P.underlying ty=some .bool) (ha:∀ w,(isAgg ty).run P w=.ok false w) (tmps:Array Value) (w:zd) (ad:Addr) (b:Bool) (hp:tmps.getD p yy=zf (some ad)) (hc:w ad=some (yx b)):(zk fn tmps).run P w=.ok (yx b) w:=by
 have hp':tmps[p]?.getD yy=zf (some ad):=by simpa using hp
 simp only [zk,h];simp [Sem.run_bind,Result.andThen,loadVar,go_sem,hp',hc,ha]
theorem DS (s:lz) (w:zd):Calls prog 104 #[s.v] w fun e w'=>e=.returned (.func (.func 132) #[] #[zf (some ⟨w,0,none⟩)])∧w'=w.alloc (ze s.cs 26):=by
 have hmf:∀ (fn:Fn) (first cap:Array Value) (w:zd),(Instr.makeFunc fn first cap).run prog w=.ok (.func fn first cap) w:=fun _ _ _ _=>rfl;unfold lz.v lz.cs;go_enter func104,ntmps104;go_wp2;go_ret;exact ⟨rfl,rfl⟩
def pb (x:l7):Bool:=decide (1≤max x.o.size x.n.size) && decide (max x.o.size x.n.size≤512)
def MeJ (w:zd) (s:lz) (k:Nat) (A:zd):Prop:=Boxed A (w+1) 4 (yx false)∧Below w w A∧∀ j,j<k→pb (s.edits[j]!)=true
def MeX (w:zd) (s:lz) (c:Code) (A:zd):Prop:=c=.ret∧Boxed A (w+1) 4 (yx false)∧Below w w A∧s.edits.all pb=false
set_option maxHeartbeats 1600000 in
theorem vX (s:lz) (w:zd) (hin:n9 w s) (hu:s.u.l.length≤100) (hr:s.r.l.length≤100) (hz:∀ x∈s.rows,x.l.length≤1000000) :
 Calls prog 83 #[s.v] w fun e w'=>e=.returned (yx (s.edits.all pb))∧Below w w w':=by
 have hmix:prog.follows .mixedOrders=true:=lg;obtain ⟨W1,aa⟩:∃ W1,(w.alloc (ze s.cs 26)).alloc (ze #[yx false] 4)=W1:=⟨_,rfl⟩;have ad:W1.heap.size=w+2:=by rw [← aa];simp
 have ab:Below w w W1:=by rw [← aa];exact qj _ _ _
 have ae:Boxed W1 (w+1) 4 (yx false):=by
  have:=Boxed.new (w.alloc (ze s.cs 26)) 4 (yx false);rw [World.size_alloc] at this;rw [← aa];exact this
 have hbx:tw W1.heap.size (yz s.t) (yw s.m.a s.m.l.length s.m.c) (yw s.u.a s.u.l.length s.u.c) (yw s.r.a s.r.l.length s.r.c) (yx s.o) (yw s.g.a s.g.l.length s.g.c) (W1.alloc (ze s.cs 26)):=tw.new _ _ _ _ _ _ _ _;have hg:=yX s hin (ab.trans ((ni W1 (ze s.cs 26)).mono ab.size)) hbx hu hr hz;have af:=yv aa;have HG:=yv hg;have ag:=yv ae;have ac:=yv ab;have ak:=yv ad;clear aa hg ae ab hbx hin hu hr hz ad;obtain ⟨R,hR⟩:∃ R,s.edits.all pb=R:=⟨_,rfl⟩;rw [hR];have HR:=yv hR;clear hR;refine (zs (n:=5)).1 ?_;unfold lz.v lz.cs at *;refine callsIn_of_wp_marks func83 rfl trivial ?_ rfl;simp only [ntmps83,List.size_toArray,List.length_cons,List.length_nil,Nat.reduceAdd,Nat.reduceSub,Array.replicate_succ,Array.replicate_zero,List.push_toArray,List.append_toArray,List.nil_append,List.cons_append]
 gi_wp2_with fail
 rw [af.out];refine ⟨trivial,(zs.2 (DS s _)).mono ?_⟩;rintro e w2 ⟨rfl,rfl⟩
 gi_wp2_with fail
 unfold lz.cs;have hg:=HG.out;have ah:(W1.alloc (ze #[yz s.t,yw s.m.a s.m.l.length s.m.c,yw s.u.a s.u.l.length s.u.c,yw s.r.a s.r.l.length s.r.c,yx s.o,yw s.g.a s.g.l.length s.g.c] 26)).heap.size=W1+1:=lh;have hp:=ag.out.alloc (ze #[yz s.t,yw s.m.a s.m.l.length s.m.c,yw s.u.a s.u.l.length s.u.c,yw s.r.a s.r.l.length s.r.c,yx s.o,yw s.g.a s.g.l.length s.g.c] 26);have hb:=ac.out.alloc ac.out.size (ze #[yz s.t,yw s.m.a s.m.l.length s.m.c,yw s.u.a s.u.l.length s.u.c,yw s.r.a s.r.l.length s.r.c,yx s.o,yw s.g.a s.g.l.length s.g.c] 26);obtain ⟨W0,ai⟩:∃ W0,W1.alloc (ze #[yz s.t,yw s.m.a s.m.l.length s.m.c,yw s.u.a s.u.l.length s.u.c,yw s.r.a s.r.l.length s.r.c,yx s.o,yw s.g.a s.g.l.length s.g.c] 26)=W0:=⟨_,rfl⟩;rw [ai] at hg ah hp hb ⊢;have hlt:w.heap.size+2<W0.heap.size:=by have:=ak.out;omega
 clear ai af HG ag ac ah;refine pU (gf:=132) (lb:=#[zf (some ⟨W1,0,none⟩)]) rfl (enters_of func132 lg rfl) hg (Below.refl _ _) lf (fun _=>rfl)
  (MeJ w s) (MeX w s)
  (fun k A B ⟨x1,x2,x3⟩ hA hT=>⟨hT.box x1 lf,x2.trans (hT.bel.mono lf),x3⟩)
  (fun c A B ⟨e,x1,x2,x3⟩ hA hT=>⟨e,hT.box x1 lf,x2.trans (hT.bel.mono lf),x3⟩)
  ⟨hp,hb,fun j hj=>absurd hj (zm _)⟩
  (fun x b=>{ tmps:=#[zn #[yz s.t,yw s.m.a s.m.l.length s.m.c,yw s.u.a s.u.l.length s.u.c,yw s.r.a s.r.l.length s.r.c,yx s.o,yw s.g.a s.g.l.length s.g.c],zf (some ⟨w,0,none⟩),zf (some ⟨w+1,0,none⟩),zf (some ⟨b,0,none⟩),yy,zn #[yz s.t,yw s.m.a s.m.l.length s.m.c,yw s.u.a s.u.l.length s.u.c,yw s.r.a s.r.l.length s.r.c,yx s.o,yw s.g.a s.g.l.length s.g.c],.func (.func 132) #[] #[zf (some ⟨W1,0,none⟩)],zn #[.int .i64 x.p,yz x.o,yz x.n],yy,yy,yy,yy,yy,yy,yy,yy,yy,yy,yy,yy,yy],defers:=[] })
  (fun x=>ze #[.int .i64 x.p,yz x.o,yz x.n] 92) ?assign ?body ?done ?stop
 case assign =>
  intro l x W K hK
  gi_wp2
  exact hK
 case body =>
  rintro l k x k' b W am hob ⟨hkl,hxe,rfl⟩ ⟨j1,j2,j3⟩;have hyes:pb x=true→∀ j,j<k+1→pb (s.edits[j]!)=true:=fun h j hj=>by
   rcases zo j k with g|g
   ·exact j3 j g
   ·obtain rfl:j=k:=lf;rw [← hxe];exact h
  have hno:pb x=false→s.edits.all pb=false:=fun h=>by
   rw [zp];exact ⟨s.edits[k]!,by rw [tj hkl];exact zj hkl,by rw [← hxe,h];simp⟩
  obtain ⟨p,o,m⟩:=x;obtain ⟨M,hM⟩:∃ M,max o.size m.size=M:=⟨_,rfl⟩;have an:max (o.size:Int) (m.size:Int)=(M:Int):=lf;have hok:pb ⟨p,o,m⟩=(decide (1≤M) && decide (M≤512)):=by unfold pb;simp only [hM]
  rw [hok] at hyes hno;have q1:W ⟨b,1,none⟩=some (yz o):=by simp [World.cell?,hob]
  have q2:W ⟨b,2,none⟩=some (yz m):=by simp [World.cell?,hob]
  have f1:=j1.cell;have f2:=j1.frozen;have J1:=yv j1;have J2:=yv j2;have HY:=yv hyes;have HN:=yv hno;clear hyes hno hok j1 j2 j3 hxe hM;by_cases h1:M<1
  ·have g1:(M:Int)<1:=lf;have hn:=yv (HN.out (by rw [decide_eq_false lf];rfl))
   gi_wp2
   exact ⟨(Kq.refl _ _ _ _).set lf lf _,rfl,J1.out.set _,J2.out.setCell (p:=⟨w+1,0,none⟩) (by show w.heap.size≤w+1;omega) _,hn.out⟩
  ·have g1:¬ (M:Int)<1:=lf;by_cases h2:512<M
   ·have g2:(512:Int)<(M:Int):=lf;have hn:=yv (HN.out (by rw [decide_eq_false (p:=M≤512) lf,Bool.and_false]))
    gi_wp2
    exact ⟨(Kq.refl _ _ _ _).set lf lf _,rfl,J1.out.set _,J2.out.setCell (p:=⟨w+1,0,none⟩) (by show w.heap.size≤w+1;omega) _,hn.out⟩
   ·have g2:(M:Int)≤512:=lf;have hy:=yv (HY.out (by rw [decide_eq_true lf,decide_eq_true lf];rfl))
    gi_wp2
    exact ⟨Kq.refl _ _ _ _,J1.out,J2.out,hy.out⟩
 case done =>
  rintro D' W hD al ⟨j1,j2,j3⟩ hK;have hall:s.edits.all pb=true:=by
   rw [zq];intro y hy;obtain ⟨j,hj,rfl⟩:=zr.1 hy;rw [← tj hj];exact j3 j hj
  obtain rfl:R=true:=by rw [← HR.out];exact hall
  have f1:=j1.cell;have f2:=j1.frozen;have J1:=yv (j1.set (yx true));have J2:=yv (j2.setCell (p:=⟨w+1,0,none⟩) (by show w.heap.size≤w+1;omega) (yx true));have aj:(W.setCell ⟨w+1,0,none⟩ (yx true)).heap[D']? = some (.deferred (some [])):=(Below.heap_setCell _ _ _ _ (by show D'≠w+1;omega)).trans hK;clear j1 j2 j3 hall
  gi_wp2
  refine aO (v:=yx true) aj (dT rfl underlying4 (by intro w;kernel_rfl) _ _ ⟨w+1,0,none⟩ true rfl ?_) ⟨rfl,?_⟩
  ·rw [gQ (by show w+1≠D';omega)];exact J1.out.cell
  ·exact J2.out.trans (belowK_b (w:=w) (zv _) _ D' _ _ lf aj rfl rfl)
 case stop =>
  rintro D' c W hD al ⟨rfl,j1,j2,j3⟩ hK;obtain rfl:R=false:=by rw [← HR.out];exact j3
  have J1:=yv j1;have J2:=yv j2;clear j1 j2 j3
  gi_wp2
  refine aO (v:=yx false) hK (dT rfl underlying4 (by intro w;kernel_rfl) _ _ ⟨w+1,0,none⟩ false rfl ?_) ⟨rfl,?_⟩
  ·rw [gQ (by show w+1≠D';omega)];exact J1.out.cell
  ·exact J2.out.trans (belowK_b (w:=w) (zv _) _ D' _ _ lf hK rfl rfl)
def o3 (l:List mo):Bool:=l.all fun x=>x.l.all pb
theorem BC {l:List mo} {k j:Nat} (hk:k<l.length) (hj:j<(l[k]!).l.length) (h:pb ((l[k]!).l[j]!)=false):o3 l=false:=by
 unfold o3;rw [zp];refine ⟨l[k]!,by rw [og hk];exact zj hk,?_⟩;rw [Bool.not_eq_true,zp];exact ⟨(l[k]!).l[j]!,by rw [tj hj];exact zj hj,by rw [h];simp⟩
theorem DB {l:List mo} (h:∀ k,k<l.length→(l[k]!).l.all pb=true):o3 l=true:=by
 unfold o3;rw [zq];intro x hx;obtain ⟨k,hk,rfl⟩:=zr.1 hx;rw [← og hk];exact h k hk
theorem pR (s:lz):s.edits.all pb=(o3 s.u.l && (o3 s.r.l && o3 [s.g])):=by
 unfold lz.edits lz.rows r9 o3;rw [List.all_flatMap,zw,zw,Bool.and_assoc]
theorem cQ (x:l7):pb x=true↔x.o.size≤512∧x.n.size≤512∧(1≤x.o.size∨1≤x.n.size):=by
 unfold pb;simp only [Bool.and_eq_true,decide_eq_true_eq];omega
theorem PH {x:l7} (h:¬ (x.o.size≤512∧x.n.size≤512∧(1≤x.o.size∨1≤x.n.size))):pb x=false:=by
 cases e:pb x
 ·rfl
 ·exact absurd ((cQ x).1 e) h
theorem vY {s:ByteArray} (h:s.size=0):s=⟨#[]⟩:=by
 obtain ⟨⟨l⟩⟩:=s;cases l with
 | nil=>rfl
 | cons x r=>cases h
theorem iR {s:ByteArray} (h:¬ s.size=0):¬ s.toList=[]:=fun e=>h (by
 have e2:=dG (a:=s) (b:=⟨#[]⟩) (fun e3=>h (by rw [e3];rfl));rw [e] at e2;exact absurd e2 (by decide +kernel))
set_option maxHeartbeats 3200000 in
theorem kJ (a:Option Addr) (l:List mo) (c:Nat) (w:zd) (hp:nx w ⟨a,l,c⟩) (hl:l.length≤1000000) (hz:∀ x∈l,x.l.length≤1000000) :
 Calls prog 39 #[yw a l.length c] w fun e w'=>e=.returned (yx (o3 l))∧Below w w w':=by
 obtain ⟨n,hn⟩:∃ n,l.length=n:=⟨_,rfl⟩;obtain ⟨r,hfr⟩:∃ r,o3 l=r:=⟨_,rfl⟩;rw [hn] at hl ⊢;rw [hfr];have HP:=yv hp;have HN:=yv hn;have HF:=yv hfr;have HZ:=yv hz;clear hn hfr hp hz;go_enter func39,ntmps39;go_wp2
 go_loopw [3] (fun i wr=>∃ k:Nat,k≤n∧i=.int .i64 k∧(∀ j,j<k→(l[j]!).l.all pb=true)∧Below w w wr) (fun i _=>n - (intOf i).toNat)
 case atStart=>exact ⟨0,zx _,rfl,fun j hj=>absurd hj (zm _),Below.refl _ _⟩
 case round =>
  obtain ⟨k,hk,rfl,hall,hbel⟩:=hrel;by_cases hlt:k<n
  ·have hkl:k<l.length:=by rw [HN.out];exact hlt
   obtain ⟨ad,rfl,hab,q0⟩:=HP.out.row k hkl;have ac:=HP.out.all.at k hkl;have ae:=HZ.out (l[k]!) (by rw [og hkl];exact zj hkl);have hyes:(l[k]!).l.all pb=true→∀ j,j<k+1→(l[j]!).l.all pb=true:=fun h j hj=>by
    rcases zo j k with g|g
    ·exact hall j g
    ·obtain rfl:j=k:=lf;exact h
   have hno:=fun j (hj:j<(l[k]!).l.length)=>BC hkl hj;obtain ⟨x,hx⟩:∃ x,l[k]! = x:=⟨_,rfl⟩;simp only at q0;rw [hx] at q0 ac ae hyes hno;obtain ⟨xa,xl,xc⟩:=x;simp only [mo.v] at q0 ae hyes hno;obtain ⟨m,hm⟩:∃ m,xl.length=m:=⟨_,rfl⟩;rw [hm] at q0 ae hno;rw [HF.out] at hno;have af:(ad.add k).block<w:=by rw [aI];exact hab
   have b0:(0:Int)≤(k:Int):=lf;have b1:(k:Int)<(n:Int):=lf;have ak:=yv ac;have HM:=yv hm;have HY:=yv hyes;have al:=yv hno;have am:=yv q0;have an:=yv af;clear hall hx ac hyes hno hm hab q0 af;go_wp2
   go_loopw [4] (fun i wr=>∃ j:Nat,j≤m∧i=.int .i64 j∧(∀ q,q<j→pb (xl[q]!)=true)∧Below w w wr) (fun i _=>m - (intOf i).toNat)
   case atStart=>exact ⟨0,zx _,rfl,fun q hq=>absurd hq (zm _),hbel⟩
   case round =>
    obtain ⟨j,hj,rfl,hall,ab⟩:=hrel;have q0:=(ab.cell an.out).trans am.out;by_cases hjm:j<m
    ·have hjl:j<xl.length:=by rw [HM.out];exact hjm
     obtain ⟨xd,rfl,hxb,p0,p1,p2⟩:=(ak.out.later ab).row.at j hjl;have hyes:pb (xl[j]!)=true→∀ q,q<j+1→pb (xl[q]!)=true:=fun h q hq=>by
      rcases zo q j with g|g
      ·exact hall q g
      ·obtain rfl:q=j:=lf;exact h
     have ag:=al.out j hjm;obtain ⟨y,hy⟩:∃ y,xl[j]! = y:=⟨_,rfl⟩;simp only at p0 p1 p2;rw [hy] at p0 p1 p2 hyes ag;have h1:=cQ y;have h2:=@PH y;obtain ⟨p,o,nn⟩:=y;simp only at p0 p1 p2 h1 h2;have d0:(0:Int)≤(j:Int):=lf;have d1:(j:Int)<(m:Int):=lf;have aj:=yv hyes;have ah:=yv ag;have H1:=yv h1;have H2:=yv h2;have aa:=yv ab;clear hall hyes ag h1 h2 hy hxb;by_cases g1:512<o.size
     ·obtain rfl:=ah.out (H2.out lf);have g2:(512:Int)<(o.size:Int):=lf;go_wp2;go_ret;exact ⟨rfl,aa.out.trans ((ni _ _).mono aa.out.size)⟩
     by_cases g2:512<nn.size
     ·obtain rfl:=ah.out (H2.out lf);have g3:(o.size:Int)≤512:=lf;have g4:(512:Int)<(nn.size:Int):=lf;go_wp2;go_ret;exact ⟨rfl,aa.out.trans ((ni _ _).mono aa.out.size)⟩
     have g3:(o.size:Int)≤512:=lf;have g4:(nn.size:Int)≤512:=lf;by_cases g5:o.size=0
     ·obtain rfl:=vY g5;by_cases g6:nn.size=0
      ·obtain rfl:=vY g6;obtain rfl:=ah.out (H2.out lf);clear g5 g6;go_wp2;go_ret;exact ⟨rfl,aa.out.trans ((ni _ _).mono aa.out.size)⟩
      ·have g7:=iR g6;have g8:nn.toList.isEmpty=false:=by cases e:nn.toList with|nil=>exact absurd e g7|cons _ _=>rfl
       have ai:=yv (aj.out (H1.out.2 ⟨lf,lf,lf⟩));clear g5 g6 ab;go_wp2;go_roundw
       case rel=>exact ⟨j+1,lf,by go_num,ai.out,aa.out.trans ((ni _ _).mono aa.out.size)⟩
       case measure=>simp [intOf];omega
     ·have g7:=iR g5;have g8:o.toList.isEmpty=false:=by cases e:o.toList with|nil=>exact absurd e g7|cons _ _=>rfl
      have ai:=yv (aj.out (H1.out.2 ⟨lf,lf,lf⟩));clear g5 ab;go_wp2;go_roundw
      case rel=>exact ⟨j+1,lf,by go_num,ai.out,aa.out.trans ((ni _ _).mono aa.out.size)⟩
      case measure=>simp [intOf];omega
    ·obtain rfl:j=m:=lf;have hxl:xl.all pb=true:=by
      rw [zq];intro y hy;obtain ⟨q,hq,rfl⟩:=zr.1 hy;rw [← tj hq];exact hall q (by rw [← HM.out];exact hq)
     have HK:=yv (HY.out hxl);have aa:=yv ab;clear hall hxl ab;go_wp2;go_roundw
     case rel=>exact ⟨k+1,lf,by go_num,HK.out,aa.out⟩
     case measure=>simp [intOf];omega
  ·obtain rfl:k=n:=lf;have h0:r=true:=by
    rw [← HF.out];exact DB (by rw [HN.out];exact hall)
   subst h0;have aa:=yv hbel;clear hall hbel;go_wp2;go_ret;exact ⟨rfl,aa.out⟩
end Go.Proofs.YtbagenpobcgjnaaGreat
