/-
  StaIter
-/
import Derived.Test.YtbagenpobcgjnaaGreatJStaSame
import Derived.Test.YtbagenpobcgjnaaGreatJStepRef2
import Derived.Test.YtbagenpobcgjnaaGreatJRound
import Derived.LoopIn
import Derived.OwnWalkIn
import Derived.TacticsInMore
import Derived.StillTailTactics
variable {lo:Nat} {W W':Go.World}
namespace Go.Proofs.YtbagenpobcgjnaaGreat
open Go.Proofs.Tryz
set_option maxRecDepth 100000
open Lib (hid)
open Go.RowKit
set_option linter.unusedVariables false
set_option linter.unusedSimpArgs false
attribute [local go_sem] Oper.semAt_some
def flatE (L:List EPc):List Edt:=L.flatMap EPc.l
def Sta.rows (s:Sta):List EPc:=s.u.l++s.r.l++[s.g]
def Sta.edits (s:Sta):List Edt:=flatE s.rows
def YE (E:List Edt) (k:Nat) (x:Edt) (k':Nat):Prop:=k<E.length∧x=E[k]! ∧ k'=k+1
def offE (L:List EPc) (k:Nat):Nat:=(flatE (L.take k)).length
theorem yX (L:List EPc) (k:Nat) (h:k<L.length):flatE (L.take (k+1))=flatE (L.take k)++(L[k]!).l:=by
 unfold flatE
 rw [List.take_succ_eq_append_getElem h,List.flatMap_append,epget h]
 simp
theorem GL (L:List EPc) (k:Nat) (h:k<L.length):offE L (k+1)=offE L k+(L[k]!).l.length:=by
 unfold offE
 rw [yX L k h,List.length_append]
theorem wL (L:List EPc) (k:Nat) (h:k<L.length):flatE L=flatE (L.take k)++((L[k]!).l++flatE (L.drop (k+1))):=by
 have e:L=L.take k++(L[k]! :: L.drop (k+1)):=by
  rw [epget h,← List.drop_eq_getElem_cons h,List.take_append_drop]
 unfold flatE
 conv=>lhs;rw [e]
 rw [List.flatMap_append,List.flatMap_cons]
theorem IX (L:List EPc) (k j:Nat) (h:k<L.length) (hj:j<(L[k]!).l.length):offE L k+j<(flatE L).length∧(flatE L)[offE L k+j]! = (L[k]!).l[j]! :=by
 have e:=wL L k h
 have hl:offE L k+j<(flatE L).length:=by
  rw [e];unfold offE;simp only [List.length_append];omega
 refine ⟨hl,?_⟩
 rw [eget hl,eget hj]
 have h2:(flatE L)[offE L k+j]? = some ((L[k]!).l[j]):=by
  rw [e]
  unfold offE
  rw [List.getElem?_append_right (by omega),Nat.add_sub_cancel_left,List.getElem?_append_left hj,List.getElem?_eq_getElem hj]
 rw [List.getElem?_eq_getElem hl] at h2
 exact Option.some.inj h2
theorem LN (L:List EPc) (k:Nat) (h:L.length≤k):offE L k=(flatE L).length:=by unfold offE;rw [List.take_of_length_le h]
theorem Kq.cell_far {B:Nat} (h:Kq (fun _=>False) lo B W W') {p:Addr} {v:Value} (hp:B≤p.block) (hc:W.cell? p=some v):W'.cell? p=some v:=by
 have hlt:=World.block_lt_of_cell? W _ hc
 have:=h.far p.block _ hp (Array.getElem?_eq_getElem hlt) (fun _ _ _ _ hf=>hf)
 exact (World.cell?_of_block (this.trans (Array.getElem?_eq_getElem hlt).symm)).trans hc
theorem PU {B:Nat} {a:Option Addr} {L:List EPc} (h:Scs W (B≤·) a L) (hk:Kq (fun _=>False) lo B W W'):Scs W' (B≤·) a L:=fun k hl=>by
 obtain ⟨ad,e,hb,q⟩:=h k hl
 exact ⟨ad,e,hb,hk.cell_far (by rw [bD];exact hb) q⟩
def Low (W:World) (lo:Nat) (L:List EPc):Prop:=∀ x∈L,Edts W (·<lo) x.a x.l
theorem OP {T:TypeId→Prop} {B:Nat} {L:List EPc} (h:Low W lo L) (hk:Kq T lo B W W'):Low W' lo L:=fun x hx=>(h x hx).keep fun p hp=>World.cell?_of_block (hk.mid p.block hp)
theorem gM {L:List EPc} (h:Low W lo L) (hb:Below lo W W'):Low W' lo L:=fun x hx=>(h x hx).below (fun _ h=>h) hb
theorem OS {w:World} {s:Sta} (h:StaIn w s):Low w w.heap.size s.rows:=fun x hx=>by
 unfold Sta.rows at hx
 simp only [List.mem_append,List.mem_singleton] at hx
 rcases hx with (hx|hx)|rfl
 ·exact (h.u.all x hx).row
 ·exact (h.r.all x hx).row
 ·exact h.g.row
theorem LI (s:Sta) (W:World) (hin:StaIn W s) (hu:s.u.l.length≤100) (hr:s.r.l.length≤100) (t t2:TypeId) :
 Calls prog 133 #[.slice (some ⟨W.heap.size+1,0,none⟩) 3 3] ((W.alloc (.cells #[.slice s.g.a s.g.l.length s.g.c] t)).alloc (.cells #[.slice s.u.a s.u.l.length s.u.c,.slice s.r.a s.r.l.length s.r.c,.slice (some ⟨W.heap.size,0,none⟩) 1 1] t2))
  (RetSRow ((W.alloc (.cells #[.slice s.g.a s.g.l.length s.g.c] t)).alloc (.cells #[.slice s.u.a s.u.l.length s.u.c,.slice s.r.a s.r.l.length s.r.c,.slice (some ⟨W.heap.size,0,none⟩) 1 1] t2)) s.rows):=by
 have hb:=below2 W (.cells #[.slice s.g.a s.g.l.length s.g.c] t) (.cells #[.slice s.u.a s.u.l.length s.u.c,.slice s.r.a s.r.l.length s.r.c,.slice (some ⟨W.heap.size,0,none⟩) 1 1] t2)
 obtain ⟨W1,ad⟩:∃ W1,W.alloc (.cells #[.slice s.g.a s.g.l.length s.g.c] t)=W1:=⟨_,rfl⟩
 have ac:W1.heap.size=W.heap.size+1:=by rw [← ad];simp
 have ae:W1.cell? ⟨W.heap.size,0,none⟩=some (.slice s.g.a s.g.l.length s.g.c):=by rw [← ad];simp [World.cell?_alloc_new]
 rw [ad] at hb ⊢
 obtain ⟨W2,aa⟩:∃ W2,W1.alloc (.cells #[.slice s.u.a s.u.l.length s.u.c,.slice s.r.a s.r.l.length s.r.c,.slice (some ⟨W.heap.size,0,none⟩) 1 1] t2)=W2:=⟨_,rfl⟩
 have af:W2.cell? ⟨W.heap.size+1,0,none⟩=some (.slice s.u.a s.u.l.length s.u.c):=by rw [← aa,← ac];simp [World.cell?_alloc_new]
 have ag:W2.cell? ⟨W.heap.size+1,1,none⟩=some (.slice s.r.a s.r.l.length s.r.c):=by rw [← aa,← ac];simp [World.cell?_alloc_new]
 have ah:W2.cell? ⟨W.heap.size+1,2,none⟩=some (.slice (some ⟨W.heap.size,0,none⟩) 1 1):=by rw [← aa,← ac];simp [World.cell?_alloc_new]
 have ai:W2.cell? ⟨W.heap.size,0,none⟩=some (.slice s.g.a s.g.l.length s.g.c):=by rw [← aa];exact ((below1 W1 _).cell (p:=⟨W.heap.size,0,none⟩) (by show W.heap.size<_;omega)).trans ae
 have aj:W2.heap.size=W.heap.size+2:=by rw [← aa];simp [ac]
 rw [aa] at hb ⊢
 have ab:=hin.later hb
 have h3:SPcs W2 ⟨some ⟨W.heap.size,0,none⟩,[s.g],1⟩:=⟨fun k hk=>by
  have:k=0:=by have h:k<1:=hk;omega
  subst this
  exact ⟨_,rfl,by show W.heap.size<_;omega,ai⟩,fun x hx=>by
  obtain rfl:=List.mem_singleton.1 hx
  exact ab.g,fun e=>(by cases e),Nat.le_refl _,by show 1≤maxLen;unfold maxLen;omega⟩
 have h:=wW (W.heap.size+1) [s.u,s.r,⟨some ⟨W.heap.size,0,none⟩,[s.g],1⟩] W2 (by omega) (fun k hk=>by
  match k,hk with
  | 0,_=>exact af
  | 1,_=>exact ag
  | 2,_=>exact ah) (fun k hk=>by
  match k,hk with
  | 0,_=>exact ab.u
  | 1,_=>exact ab.r
  | 2,_=>exact h3) (by simp) (by simp [ssumP];omega)
 have e:scatP [s.u,s.r,⟨some ⟨W.heap.size,0,none⟩,[s.g],1⟩]=s.rows:=by simp [scatP,Sta.rows]
 rw [e] at h
 exact h
set_option maxHeartbeats 1600000 in
theorem wY (s:Sta) {b1:Nat} {w0 w:World} (hin:StaIn w0 s) (hb:Below w0.heap.size w0 w) (h1:Box6 b1 (.string s.t) (.slice s.m.a s.m.l.length s.m.c) (.slice s.u.a s.u.l.length s.u.c) (.slice s.r.a s.r.l.length s.r.c) (.bool s.o) (.slice s.g.a s.g.l.length s.g.c) w)
 (hu:s.u.l.length≤100) (hr:s.r.l.length≤100) (hz:∀ x∈s.rows,x.l.length≤1000000) :
 Hoes prog (fun _=>False) w0.heap.size 132 #[.pointer (some ⟨b1,0,none⟩)] (fun x:Edt=>#[.agg #[.int .i64 x.p,.string x.o,.string x.n]]) (YE s.edits) 0 s.edits.length w:=by
 intro n l J Jx W hW a8 hJ hJx hY h0
 have hbW:=hb.trans (hW.mono hb.size)
 have hinW:=hin.later hbW
 have cc:=LI s W hinW hu hr 54 23
 have hB:=h1.on hW h1.lt
 have hlowW:=gM (OS hin) hbW
 have ax:w0.heap.size≤W.heap.size:=hbW.size
 have al:=below2 W (.cells #[.slice s.g.a s.g.l.length s.g.c] 54) (.cells #[.slice s.u.a s.u.l.length s.u.c,.slice s.r.a s.r.l.length s.r.c,.slice (some ⟨W.heap.size,0,none⟩) 1 1] 23)
 obtain ⟨L,hL⟩:∃ L,s.rows=L:=⟨_,rfl⟩
 have hE:s.edits=flatE L:=by unfold Sta.edits;rw [hL]
 rw [hL] at cc hlowW hz
 rw [hE] at hY ⊢
 have hLl:L.length≤201:=by rw [← hL];unfold Sta.rows;simp;omega
 have c2:=hB.x2
 have c3:=hB.x3
 have c5:=hB.x5
 obtain ⟨W2,am⟩:∃ W2,(W.alloc (.cells #[.slice s.g.a s.g.l.length s.g.c] 54)).alloc (.cells #[.slice s.u.a s.u.l.length s.u.c,.slice s.r.a s.r.l.length s.r.c,.slice (some ⟨W.heap.size,0,none⟩) 1 1] 23)=W2:=⟨_,rfl⟩
 rw [am] at cc al
 have CC:=hid cc;have au:=hid hlowW;have HZ:=hid hz;have HY:=hid hY;have HJ:=hid hJ;have ae:=hid al;have ay:=hid am;have az:=hid hLl
 clear cc hlowW hz hY hJ hJx hB hbW hinW h1 hb hW hin hE hL hu hr al am hLl
 refine callsIn_of_wp func132 rfl trivial ?_ rfl
 simp only [ntmps132,List.size_toArray,List.length_cons,List.length_nil,Nat.reduceAdd,Nat.reduceSub,Array.replicate_succ,Array.replicate_zero,List.push_toArray,List.append_toArray,List.nil_append,List.cons_append]
 gi_wp2_with fail
 rw [ay.out]
 refine ⟨trivial,fun e=>(by cases e),(callsIn_wide.2 CC.out).mono ?_⟩;rintro e W3 ⟨a,c,rfl,hrow,ak⟩
 have a0:=HJ.out _ _ _ h0 (Nat.le_refl _) (Turns.of_below (ae.out.trans (ak.mono ae.out.size)) (Nat.le_refl _))
 have av:W.heap.size≤W3.heap.size:=Nat.le_trans ae.out.size ak.size
 have ab:=gM au.out ((ae.out.trans (ak.mono ae.out.size)).mono ax)
 have af:Scs W3 (W.heap.size≤·) a L:=hrow.row.more fun b hb=>Nat.le_trans ae.out.size hb.1
 obtain ⟨N,hN⟩:∃ N,L.length=N:=⟨_,rfl⟩
 have hNN:N≤201:=by rw [← hN];exact az.out
 rw [hN]
 have HN:=hid hN
 clear hN hrow ak CC c2 c3 c5 h0
 gi_wp2
 gi_loopw [18] (fun i wr=>∃ k:Nat,i=.int .i64 k∧k≤N∧J (offE L k) wr∧W.heap.size≤wr.heap.size∧Scs wr (W.heap.size≤·) a L∧Low wr w0.heap.size L) (fun i _=>N - (intOf i).toNat)
 case atStart=>exact ⟨0,rfl,Nat.zero_le _,a0,av,af,ab⟩
 case round =>
  obtain ⟨k,rfl,hk,hJk,hsz,hsc,hlow⟩:=hrel
  by_cases hlt:k<N
  ·have hkl:k<L.length:=by rw [HN.out];exact hlt
   obtain ⟨ad,rfl,hab,q0⟩:=hsc k hkl
   have hm:=HZ.out (L[k]!) (by rw [epget hkl];exact List.getElem_mem hkl)
   have hat:=fun j=>IX L k j hkl
   have hof:=GL L k hkl
   have hlk:=hlow (L[k]!) (by rw [epget hkl];exact List.getElem_mem hkl)
   have hmem:L[k]! ∈ L:=by rw [epget hkl];exact List.getElem_mem hkl
   obtain ⟨x,hx⟩:∃ x,L[k]! = x:=⟨_,rfl⟩
   rw [hx] at q0 hm hat hof hlk hmem
   obtain ⟨xa,xl,xc⟩:=x
   simp only [EPc.v] at q0 hm hat hof
   obtain ⟨M,hM⟩:∃ M,xl.length=M:=⟨_,rfl⟩
   rw [hM] at q0 hm hof
   have b0:(0:Int)≤(k:Int):=by omega
   have b1':(k:Int)<(N:Int):=by omega
   have a1:=hid hsc;have a2:=hid hlow;have a3:=hid hat;have a4:=hid hof;have HM:=hid hM;have aw:=hid hmem;have a5:=hid hJk
   clear hlow hlk hat hof hM hx hsc hmem hJk hab
   gi_wp2
   gi_loopw [25] (fun i wr'=>∃ j:Nat,i=.int .i64 j∧j≤M∧J (offE L k+j) wr'∧W.heap.size≤wr'.heap.size∧Scs wr' (W.heap.size≤·) (some ad) L∧Low wr' w0.heap.size L) (fun i _=>M - (intOf i).toNat)
   case atStart =>
    have hbx:=below1 wr (.cells #[.slice xa M xc] 54)
    refine ⟨0,rfl,Nat.zero_le _,HJ.out _ _ _ a5.out hsz (Turns.of_below hbx hsz),Nat.le_trans hsz hbx.size,?_,gM a2.out (hbx.mono (by omega))⟩
    exact fun i hi=>by
     obtain ⟨ad',e,hb,q⟩:=a1.out i hi
     exact ⟨ad',e,hb,(hbx.cell (by have:=World.block_lt_of_cell? _ _ q;exact this)).trans q⟩
   case round =>
    obtain ⟨j,rfl,hj,hJj,ac,ag,aa⟩:=hrel
    by_cases hjm:j<M
    ·have hjl:j<xl.length:=by rw [HM.out];exact hjm
     obtain ⟨xd,rfl,hxb,p0,p1,p2⟩:=(aa _ aw.out).at j hjl
     obtain ⟨an,hget⟩:=a3.out j hjl
     have hy:=fun A=>HY.out (offE L k+j) (xl[j]!) (offE L k+j+1) A ⟨an,hget.symm,rfl⟩
     obtain ⟨y,hyy⟩:∃ y,xl[j]! = y:=⟨_,rfl⟩
     simp only at p0 p1 p2
     rw [hyy] at p0 p1 p2 hy
     obtain ⟨p,o,m⟩:=y
     simp only at p0 p1 p2 hy
     have hbx:=below1 wr (.cells #[.int .i64 p,.string o,.string m] 92)
     have hy:=hy _ (Nat.le_trans ac hbx.size) (HJ.out _ _ _ hJj ac (Turns.of_below hbx ac))
     obtain ⟨fn,tmps,assign,body,hyr,hR⟩:=dD hy
     have ab:=gM aa (hbx.mono (by omega))
     have af:Scs _ (W.heap.size≤·) (some ad) L:=fun i hi=>by
      obtain ⟨ad',e,hb,q⟩:=ag i hi
      exact ⟨ad',e,hb,(hbx.cell (by have:=World.block_lt_of_cell? _ _ q;exact this)).trans q⟩
     have d0:(0:Int)≤(j:Int):=by omega
     have d1:(j:Int)<(M:Int):=by omega
     have HR:=hid hR;have ai:=hid ab;have aj:=hid af;have a6:=hid hbx
     clear hy hR aa ag ab af hbx hJj hget an hyy hxb
     gi_wp2_with fail
     refine ⟨fun e=>(by cases e),(HR.out none _).mono ?_⟩
     rintro e W4 (⟨rfl,ar,ao⟩|⟨rfl,a7,ao⟩)
     ·have ah:=hid ar;have aq:=hid ao
      clear ar ao HR
      gi_wp2
      go_roundw
      case rel=>exact ⟨j+1,by go_num,by omega,ah.out,Nat.le_trans ac (Nat.le_trans a6.out.size aq.out.size),PU aj.out aq.out,OP ai.out aq.out⟩
      case measure=>simp [intOf];omega
     ·gi_wp2
      refine bodyPost_ret (results_none rfl _ _ _) rfl ?_
      exact ⟨⟨_,rfl⟩,.inr a7⟩
    ·obtain rfl:j=M:=by omega
     have ah:=hid hJj;have aj:=hid ag;have ai:=hid aa
     clear hJj ag aa
     gi_wp2
     go_roundw
     case rel=>exact ⟨k+1,by go_num,by omega,by rw [a4.out];exact ah.out,ac,aj.out,ai.out⟩
     case measure=>simp [intOf];omega
  ·obtain rfl:k=N:=by omega
   have ah:=hid hJk
   clear hJk hsc hlow
   gi_wp2
   go_end0
   refine ⟨⟨_,rfl⟩,.inl ?_⟩
   have:=ah.out
   rwa [LN L k (by rw [HN.out];exact Nat.le_refl _)] at this
end Go.Proofs.YtbagenpobcgjnaaGreat
