/-
  Joined: StaSize, StaRef.
-/
import Derived.Test.YtbagenpobcgjnaaGreatStaIter
import Derived.RangeFuncNested
import Derived.RangeFuncBound
import Derived.RangeFuncCalls
import Derived.RangeFuncLeaves
import Derived.Lib.MinMax
import Derived.BigQuiet
import Derived.Deep.DeepCutAuto
import Derived.Deep.QuietTactic
namespace Go.Proofs.YtbagenpobcgjnaaGreat
open Go.Proofs.Tryz
set_option maxRecDepth 100000
open Lib (hid)
open Go.RowKit
set_option linter.unusedVariables false
set_option linter.unusedSimpArgs false
attribute [local go_sem] Oper.semAt_some
theorem bZ {P:Program} {n:Nat} {fn:Func} {tmps:Array Value} {R:Ending→World→Prop} {D:Nat} {w:World} {v:Value} (hK:w.heap[D]? = some (.deferred (some []))) (hr:(results fn tmps).run P (w.putObj D (.deferred none))=.ok v (w.putObj D (.deferred none))) (h:R (.returned v) (w.putObj D (.deferred none))) :
 LeavesInM Fence.wide n P fn tmps R [{ target:=.collected D,args:=#[] }] .returning w:=
 ⟨by simp,.inl ⟨_,_,rfl,run_takeDeferred hK,_,hr,h⟩⟩
theorem mZ {w:World} {D:Nat} {o:Obj} {p:Addr} (h:p.block≠D):(w.putObj D o).cell? p=w.cell? p:=World.cell?_of_block (World.putObj_heap_other h)
theorem gV {P:Program} {fn:Func} {p:Tmp} {ty:TypeId} (h:fn.results=#[.cell p ty]) (ht:P.underlying ty=some .bool) (ha:∀ w,(isAgg ty).run P w=.ok false w) (tmps:Array Value) (w:World) (ad:Addr) (b:Bool) (hp:tmps.getD p undef=.pointer (some ad)) (hc:w.cell? ad=some (.bool b)):(results fn tmps).run P w=.ok (.bool b) w:=by
 have hp':tmps[p]?.getD undef=.pointer (some ad):=by simpa using hp
 simp only [results,h]
 simp [Sem.run_bind,Result.andThen,loadVar,go_sem,hp',hc,ha]
theorem yA (s:Sta) (w:World):Calls prog 104 #[s.v] w fun e w'=>e=.returned (.func (.func 132) #[] #[.pointer (some ⟨w.heap.size,0,none⟩)])∧w'=w.alloc (.cells s.cs 26):=by
 have hmf:∀ (fn:Fn) (first cap:Array Value) (w:World),(Instr.makeFunc fn first cap).run prog w=.ok (.func fn first cap) w:=fun _ _ _ _=>rfl
 unfold Sta.v Sta.cs
 go_enter func104,ntmps104
 go_wp2
 go_ret
 exact ⟨rfl,rfl⟩
def okE5 (x:Edt):Bool:=decide (1≤max x.o.size x.n.size) && decide (max x.o.size x.n.size≤512)
def MeJ (w:World) (s:Sta) (k:Nat) (A:World):Prop:=Boxed A (w.heap.size+1) 4 (.bool false)∧Below w.heap.size w A∧∀ j,j<k→okE5 (s.edits[j]!)=true
def MeX (w:World) (s:Sta) (c:Code) (A:World):Prop:=c=.ret∧Boxed A (w.heap.size+1) 4 (.bool false)∧Below w.heap.size w A∧s.edits.all okE5=false
set_option maxHeartbeats 1600000 in
theorem uO (s:Sta) (w:World) (hin:StaIn w s) (hu:s.u.l.length≤100) (hr:s.r.l.length≤100) (hz:∀ x∈s.rows,x.l.length≤1000000) :
 Calls prog 83 #[s.v] w fun e w'=>e=.returned (.bool (s.edits.all okE5))∧Below w.heap.size w w':=by
 have hmix:prog.follows .mixedOrders=true:=by kernel_rfl
 obtain ⟨W1,aa⟩:∃ W1,(w.alloc (.cells s.cs 26)).alloc (.cells #[.bool false] 4)=W1:=⟨_,rfl⟩
 have ad:W1.heap.size=w.heap.size+2:=by rw [← aa];simp
 have ab:Below w.heap.size w W1:=by rw [← aa];exact below2 _ _ _
 have ae:Boxed W1 (w.heap.size+1) 4 (.bool false):=by
  have:=Boxed.new (w.alloc (.cells s.cs 26)) 4 (.bool false)
  rw [World.size_alloc] at this
  rw [← aa];exact this
 have hbx:Box6 W1.heap.size (.string s.t) (.slice s.m.a s.m.l.length s.m.c) (.slice s.u.a s.u.l.length s.u.c) (.slice s.r.a s.r.l.length s.r.c) (.bool s.o) (.slice s.g.a s.g.l.length s.g.c) (W1.alloc (.cells s.cs 26)):=Box6.new _ _ _ _ _ _ _ _
 have hg:=wY s hin (ab.trans ((below1 W1 (.cells s.cs 26)).mono ab.size)) hbx hu hr hz
 have af:=hid aa;have HG:=hid hg;have ag:=hid ae;have ac:=hid ab;have ak:=hid ad
 clear aa hg ae ab hbx hin hu hr hz ad
 obtain ⟨R,hR⟩:∃ R,s.edits.all okE5=R:=⟨_,rfl⟩
 rw [hR]
 have HR:=hid hR
 clear hR
 refine (callsIn_wide (n:=5)).1 ?_
 unfold Sta.v Sta.cs at *
 refine callsIn_of_wp_marks func83 rfl trivial ?_ rfl
 simp only [ntmps83,List.size_toArray,List.length_cons,List.length_nil,Nat.reduceAdd,Nat.reduceSub,Array.replicate_succ,Array.replicate_zero,List.push_toArray,List.append_toArray,List.nil_append,List.cons_append]
 gi_wp2_with fail
 rw [af.out]
 refine ⟨trivial,(callsIn_wide.2 (yA s _)).mono ?_⟩
 rintro e w2 ⟨rfl,rfl⟩
 gi_wp2_with fail
 unfold Sta.cs
 have hg:=HG.out
 have ah:(W1.alloc (.cells #[.string s.t,.slice s.m.a s.m.l.length s.m.c,.slice s.u.a s.u.l.length s.u.c,.slice s.r.a s.r.l.length s.r.c,.bool s.o,.slice s.g.a s.g.l.length s.g.c] 26)).heap.size=W1.heap.size+1:=by simp
 have hp:=ag.out.alloc (.cells #[.string s.t,.slice s.m.a s.m.l.length s.m.c,.slice s.u.a s.u.l.length s.u.c,.slice s.r.a s.r.l.length s.r.c,.bool s.o,.slice s.g.a s.g.l.length s.g.c] 26)
 have hb:=ac.out.alloc ac.out.size (.cells #[.string s.t,.slice s.m.a s.m.l.length s.m.c,.slice s.u.a s.u.l.length s.u.c,.slice s.r.a s.r.l.length s.r.c,.bool s.o,.slice s.g.a s.g.l.length s.g.c] 26)
 obtain ⟨W0,ai⟩:∃ W0,W1.alloc (.cells #[.string s.t,.slice s.m.a s.m.l.length s.m.c,.slice s.u.a s.u.l.length s.u.c,.slice s.r.a s.r.l.length s.r.c,.bool s.o,.slice s.g.a s.g.l.length s.g.c] 26)=W0:=⟨_,rfl⟩
 rw [ai] at hg ah hp hb ⊢
 have hlt:w.heap.size+2<W0.heap.size:=by have:=ak.out;omega
 clear ai af HG ag ac ah
 refine oB (gf:=132) (lb:=#[.pointer (some ⟨W1.heap.size,0,none⟩)]) rfl (enters_of func132 (by kernel_rfl) rfl) hg (Below.refl _ _) (by omega) (fun _=>rfl)
  (MeJ w s) (MeX w s)
  (fun k A B ⟨x1,x2,x3⟩ hA hT=>⟨hT.box x1 (by omega),x2.trans (hT.bel.mono (by omega)),x3⟩)
  (fun c A B ⟨e,x1,x2,x3⟩ hA hT=>⟨e,hT.box x1 (by omega),x2.trans (hT.bel.mono (by omega)),x3⟩)
  ⟨hp,hb,fun j hj=>absurd hj (Nat.not_lt_zero _)⟩
  (fun x b=>{ tmps:=#[Value.agg #[Value.string s.t,Value.slice s.m.a s.m.l.length s.m.c,Value.slice s.u.a s.u.l.length s.u.c,Value.slice s.r.a s.r.l.length s.r.c,Value.bool s.o,Value.slice s.g.a s.g.l.length s.g.c],.pointer (some ⟨w.heap.size,0,none⟩),.pointer (some ⟨w.heap.size+1,0,none⟩),.pointer (some ⟨b,0,none⟩),undef,Value.agg #[Value.string s.t,Value.slice s.m.a s.m.l.length s.m.c,Value.slice s.u.a s.u.l.length s.u.c,Value.slice s.r.a s.r.l.length s.r.c,Value.bool s.o,Value.slice s.g.a s.g.l.length s.g.c],.func (.func 132) #[] #[.pointer (some ⟨W1.heap.size,0,none⟩)],.agg #[.int .i64 x.p,.string x.o,.string x.n],undef,undef,undef,undef,undef,undef,undef,undef,undef,undef,undef,undef,undef],defers:=[] })
  (fun x=>.cells #[.int .i64 x.p,.string x.o,.string x.n] 92) ?assign ?body ?done ?stop
 case assign =>
  intro l x W K hK
  gi_wp2
  exact hK
 case body =>
  rintro l k x k' b W am hob ⟨hkl,hxe,rfl⟩ ⟨j1,j2,j3⟩
  have hyes:okE5 x=true→∀ j,j<k+1→okE5 (s.edits[j]!)=true:=fun h j hj=>by
   rcases Nat.lt_or_ge j k with g|g
   ·exact j3 j g
   ·obtain rfl:j=k:=by omega
    rw [← hxe];exact h
  have hno:okE5 x=false→s.edits.all okE5=false:=fun h=>by
   rw [List.all_eq_false]
   exact ⟨s.edits[k]!,by rw [eget hkl];exact List.getElem_mem hkl,by rw [← hxe,h];simp⟩
  obtain ⟨p,o,m⟩:=x
  obtain ⟨M,hM⟩:∃ M,max o.size m.size=M:=⟨_,rfl⟩
  have an:max (o.size:Int) (m.size:Int)=(M:Int):=by omega
  have hok:okE5 ⟨p,o,m⟩=(decide (1≤M) && decide (M≤512)):=by unfold okE5;simp only [hM]
  rw [hok] at hyes hno
  have q1:W.cell? ⟨b,1,none⟩=some (.string o):=by simp [World.cell?,hob]
  have q2:W.cell? ⟨b,2,none⟩=some (.string m):=by simp [World.cell?,hob]
  have f1:=j1.cell
  have f2:=j1.frozen
  have J1:=hid j1;have J2:=hid j2;have HY:=hid hyes;have HN:=hid hno
  clear hyes hno hok j1 j2 j3 hxe hM
  by_cases h1:M<1
  ·have g1:(M:Int)<1:=by omega
   have hn:=hid (HN.out (by rw [decide_eq_false (by omega)];rfl))
   gi_wp2
   exact ⟨(Kq.refl _ _ _ _).set (by omega) (by omega) _,rfl,J1.out.set _,J2.out.setCell (p:=⟨w.heap.size+1,0,none⟩) (by show w.heap.size≤w.heap.size+1;omega) _,hn.out⟩
  ·have g1:¬ (M:Int)<1:=by omega
   by_cases h2:512<M
   ·have g2:(512:Int)<(M:Int):=by omega
    have hn:=hid (HN.out (by rw [decide_eq_false (p:=M≤512) (by omega),Bool.and_false]))
    gi_wp2
    exact ⟨(Kq.refl _ _ _ _).set (by omega) (by omega) _,rfl,J1.out.set _,J2.out.setCell (p:=⟨w.heap.size+1,0,none⟩) (by show w.heap.size≤w.heap.size+1;omega) _,hn.out⟩
   ·have g2:(M:Int)≤512:=by omega
    have hy:=hid (HY.out (by rw [decide_eq_true (by omega),decide_eq_true (by omega)];rfl))
    gi_wp2
    exact ⟨Kq.refl _ _ _ _,J1.out,J2.out,hy.out⟩
 case done =>
  rintro D' W hD al ⟨j1,j2,j3⟩ hK
  have hall:s.edits.all okE5=true:=by
   rw [List.all_eq_true]
   intro y hy
   obtain ⟨j,hj,rfl⟩:=List.mem_iff_getElem.1 hy
   rw [← eget hj]
   exact j3 j hj
  obtain rfl:R=true:=by rw [← HR.out];exact hall
  have f1:=j1.cell
  have f2:=j1.frozen
  have J1:=hid (j1.set (.bool true));have J2:=hid (j2.setCell (p:=⟨w.heap.size+1,0,none⟩) (by show w.heap.size≤w.heap.size+1;omega) (.bool true))
  have aj:(W.setCell ⟨w.heap.size+1,0,none⟩ (.bool true)).heap[D']? = some (.deferred (some [])):=(Below.heap_setCell _ _ _ _ (by show D'≠w.heap.size+1;omega)).trans hK
  clear j1 j2 j3 hall
  gi_wp2
  refine bZ (v:=.bool true) aj (gV rfl underlying4 (by intro w;kernel_rfl) _ _ ⟨w.heap.size+1,0,none⟩ true rfl ?_) ⟨rfl,?_⟩
  ·rw [mZ (by show w.heap.size+1≠D';omega)]
   exact J1.out.cell
  ·exact J2.out.trans (belowK_b (w:=w) (Nat.le_refl _) _ D' _ _ (by omega) aj rfl rfl)
 case stop =>
  rintro D' c W hD al ⟨rfl,j1,j2,j3⟩ hK
  obtain rfl:R=false:=by rw [← HR.out];exact j3
  have J1:=hid j1;have J2:=hid j2
  clear j1 j2 j3
  gi_wp2
  refine bZ (v:=.bool false) hK (gV rfl underlying4 (by intro w;kernel_rfl) _ _ ⟨w.heap.size+1,0,none⟩ false rfl ?_) ⟨rfl,?_⟩
  ·rw [mZ (by show w.heap.size+1≠D';omega)]
   exact J1.out.cell
  ·exact J2.out.trans (belowK_b (w:=w) (Nat.le_refl _) _ D' _ _ (by omega) hK rfl rfl)
def smallE (l:List EPc):Bool:=l.all fun x=>x.l.all okE5
theorem yR (s:Sta):s.edits.all okE5=(smallE s.u.l && (smallE s.r.l && smallE [s.g])):=by
 unfold Sta.edits Sta.rows flatE smallE
 rw [List.all_flatMap,List.all_append,List.all_append,Bool.and_assoc]
theorem dK (x:Edt):okE5 x=true↔x.o.size≤512∧x.n.size≤512∧(1≤x.o.size∨1≤x.n.size):=by
 unfold okE5
 simp only [Bool.and_eq_true,decide_eq_true_eq]
 omega
end Go.Proofs.YtbagenpobcgjnaaGreat
