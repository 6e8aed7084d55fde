/-
  StaIter
-/
import Derived.Test.YtbagenpobcgjnaaGreatJStaSame
import Derived.LoopIn
import Derived.OwnWalkIn
import Derived.TacticsInMore
open Array renaming getElem?_eq_getElem->zy
open Go.Obj renaming cells->zn
open Go.Value renaming slice->zk,string->zp
open Go.World renaming block_lt_of_cell?->zt,cell?_alloc_new->zq,cell?_of_block->zz
open List renaming flatMap_append->zv,getElem?_eq_getElem->zx,getElem_mem->zu,length_append->zw,mem_singleton->Aa
open Nat renaming le_refl->zr,le_trans->zo,zero_le->Ab
variable {lo:Nat} {W W':Go.World}
namespace Go.Proofs.YtbagenpobcgjnaaGreat
open Go.Proofs.Tryz
set_option maxRecDepth 100000
open Lib (hid)
open Go.RowKit
set_option linter.unusedVariables false
set_option linter.unusedSimpArgs false
attribute [local go_sem] Oper.semAt_some
def r9 (L:List mo):List l8:=L.flatMap mo.l
def l7.rows (s:l7):List mo:=s.u.l++s.r.l++[s.g]
def l7.edits (s:l7):List l8:=r9 s.rows
def YE (E:List l8) (k:Nat) (x:l8) (k':Nat):Prop:=k<E.length∧x=E[k]! ∧ k'=k+1
def vi (L:List mo) (k:Nat):Nat:=(r9 (L.take k)).length
theorem GW (L:List mo) (k:Nat) (h:k<L.length):r9 (L.take (k+1))=r9 (L.take k)++(L[k]!).l:=by
 unfold r9;rw [List.take_succ_eq_append_getElem h,zv,og h];simp
theorem JZ (L:List mo) (k:Nat) (h:k<L.length):vi L (k+1)=vi L k+(L[k]!).l.length:=by
 unfold vi;rw [GW L k h,zw]
theorem AU (L:List mo) (k:Nat) (h:k<L.length):r9 L=r9 (L.take k)++((L[k]!).l++r9 (L.drop (k+1))):=by
 have e:L=L.take k++(L[k]! :: L.drop (k+1)):=by
  rw [og h,← List.drop_eq_getElem_cons h,List.take_append_drop]
 unfold r9
 conv=>lhs;rw [e]
 rw [zv,List.flatMap_cons]
theorem QJ (L:List mo) (k j:Nat) (h:k<L.length) (hj:j<(L[k]!).l.length):vi L k+j<(r9 L).length∧(r9 L)[vi L k+j]! = (L[k]!).l[j]! :=by
 have e:=AU L k h;have hl:vi L k+j<(r9 L).length:=by
  rw [e];unfold vi;simp only [zw];omega
 refine ⟨hl,?_⟩;rw [tu hl,tu hj];have h2:(r9 L)[vi L k+j]? = some ((L[k]!).l[j]):=by
  rw [e];unfold vi;rw [List.getElem?_append_right lg,Nat.add_sub_cancel_left,List.getElem?_append_left hj,zx hj]
 rw [zx hl] at h2;exact Option.some.inj h2
theorem MZ (L:List mo) (k:Nat) (h:L.length≤k):vi L k=(r9 L).length:=by unfold vi;rw [List.take_of_length_le h]
theorem Kq.cell_far {B:Nat} (h:Kq (fun _=>False) lo B W W') {p:Addr} {v:Value} (hp:B≤p.block) (hc:W p=some v):W' p=some v:=by
 have hlt:=zt W _ hc;have:=h.far p.block _ hp (zy hlt) (fun _ _ _ _ hf=>hf);exact (zz (this.trans (zy hlt).symm)).trans hc
theorem TV {B:Nat} {a:Option Addr} {L:List mo} (h:vj W (B≤·) a L) (hk:Kq (fun _=>False) lo B W W'):vj W' (B≤·) a L:=fun k hl=>by
 obtain ⟨ad,e,hb,q⟩:=h k hl;exact ⟨ad,e,hb,hk.cell_far (by rw [aX];exact hb) q⟩
def Low (W:World) (lo:Nat) (L:List mo):Prop:=∀ x∈L,qf W (·<lo) x.a x.l
theorem UH {T:TypeId→Prop} {B:Nat} {L:List mo} (h:Low W lo L) (hk:Kq T lo B W W'):Low W' lo L:=fun x hx=>(h x hx).keep fun p hp=>zz (hk.mid p.block hp)
theorem jD {L:List mo} (h:Low W lo L) (hb:Below lo W W'):Low W' lo L:=fun x hx=>(h x hx).below (fun _ h=>h) hb
theorem SX {w:World} {s:l7} (h:ol w s):Low w w s.rows:=fun x hx=>by
 unfold l7.rows at hx;simp only [List.mem_append,Aa] at hx;rcases hx with (hx|hx)|rfl
 ·exact (h.u.all x hx).row
 ·exact (h.r.all x hx).row
 ·exact h.g.row
theorem NT (s:l7) (W:World) (hin:ol W s) (hu:s.u.l.length≤100) (hr:s.r.l.length≤100) (t t2:TypeId) :
 Calls prog 133 #[zk (some ⟨W+1,0,none⟩) 3 3] ((W.alloc (zn #[zk s.g.a s.g.l.length s.g.c] t)).alloc (zn #[zk s.u.a s.u.l.length s.u.c,zk s.r.a s.r.l.length s.r.c,zk (some ⟨W,0,none⟩) 1 1] t2))
  (pw ((W.alloc (zn #[zk s.g.a s.g.l.length s.g.c] t)).alloc (zn #[zk s.u.a s.u.l.length s.u.c,zk s.r.a s.r.l.length s.r.c,zk (some ⟨W,0,none⟩) 1 1] t2)) s.rows):=by
 have hb:=qk W (zn #[zk s.g.a s.g.l.length s.g.c] t) (zn #[zk s.u.a s.u.l.length s.u.c,zk s.r.a s.r.l.length s.r.c,zk (some ⟨W,0,none⟩) 1 1] t2);obtain ⟨W1,ad⟩:∃ W1,W.alloc (zn #[zk s.g.a s.g.l.length s.g.c] t)=W1:=⟨_,rfl⟩;have ac:W1.heap.size=W+1:=by rw [← ad];simp
 have ae:W1 ⟨W,0,none⟩=some (zk s.g.a s.g.l.length s.g.c):=by rw [← ad];simp [zq]
 rw [ad] at hb ⊢;obtain ⟨W2,aa⟩:∃ W2,W1.alloc (zn #[zk s.u.a s.u.l.length s.u.c,zk s.r.a s.r.l.length s.r.c,zk (some ⟨W,0,none⟩) 1 1] t2)=W2:=⟨_,rfl⟩;have af:W2 ⟨W+1,0,none⟩=some (zk s.u.a s.u.l.length s.u.c):=by rw [← aa,← ac];simp [zq]
 have ag:W2 ⟨W+1,1,none⟩=some (zk s.r.a s.r.l.length s.r.c):=by rw [← aa,← ac];simp [zq]
 have ah:W2 ⟨W+1,2,none⟩=some (zk (some ⟨W,0,none⟩) 1 1):=by rw [← aa,← ac];simp [zq]
 have ai:W2 ⟨W,0,none⟩=some (zk s.g.a s.g.l.length s.g.c):=by rw [← aa];exact ((ns W1 _).cell (p:=⟨W,0,none⟩) (by show W.heap.size<_;omega)).trans ae
 have aj:W2.heap.size=W+2:=by rw [← aa];simp [ac]
 rw [aa] at hb ⊢;have ab:=hin.later hb;have h3:nz W2 ⟨some ⟨W,0,none⟩,[s.g],1⟩:=⟨fun k hk=>by
  have:k=0:=by have h:k<1:=hk;omega
  subst this;exact ⟨_,rfl,by show W.heap.size<_;omega,ai⟩,fun x hx=>by
  obtain rfl:=Aa.1 hx;exact ab.g,fun e=>(by cases e),zr _,by show 1≤maxLen;unfold maxLen;omega⟩
 have h:=zE (W+1) [s.u,s.r,⟨some ⟨W,0,none⟩,[s.g],1⟩] W2 lg (fun k hk=>by
  match k,hk with
  | 0,_=>exact af
  | 1,_=>exact ag
  | 2,_=>exact ah) (fun k hk=>by
  match k,hk with
  | 0,_=>exact ab.u
  | 1,_=>exact ab.r
  | 2,_=>exact h3) li (by simp [qd];omega)
 have e:qj [s.u,s.r,⟨some ⟨W,0,none⟩,[s.g],1⟩]=s.rows:=by simp [qj,l7.rows]
 rw [e] at h;exact h
set_option maxHeartbeats 1600000 in
theorem BC (s:l7) {b1:Nat} {w0 w:World} (hin:ol w0 s) (hb:Below w0 w0 w) (h1:ur b1 (zp s.t) (zk s.m.a s.m.l.length s.m.c) (zk s.u.a s.u.l.length s.u.c) (zk s.r.a s.r.l.length s.r.c) (.bool s.o) (zk s.g.a s.g.l.length s.g.c) w)
 (hu:s.u.l.length≤100) (hr:s.r.l.length≤100) (hz:∀ x∈s.rows,x.l.length≤1000000) :
 Hoes prog (fun _=>False) w0 132 #[.pointer (some ⟨b1,0,none⟩)] (fun x:l8=>#[.agg #[.int .i64 x.p,zp x.o,zp x.n]]) (YE s.edits) 0 s.edits.length w:=by
 intro n l J Jx W hW a8 hJ hJx hY h0;have hbW:=hb.trans (hW.mono hb.size);have hinW:=hin.later hbW;have cc:=NT s W hinW hu hr 54 23;have hB:=h1.on hW h1.lt;have hlowW:=jD (SX hin) hbW;have ax:w0.heap.size≤W:=hbW.size;have al:=qk W (zn #[zk s.g.a s.g.l.length s.g.c] 54) (zn #[zk s.u.a s.u.l.length s.u.c,zk s.r.a s.r.l.length s.r.c,zk (some ⟨W,0,none⟩) 1 1] 23);obtain ⟨L,hL⟩:∃ L,s.rows=L:=⟨_,rfl⟩;have hE:s.edits=r9 L:=by unfold l7.edits;rw [hL]
 rw [hL] at cc hlowW hz;rw [hE] at hY ⊢;have hLl:L.length≤201:=by rw [← hL];unfold l7.rows;simp;omega
 have c2:=hB.x2;have c3:=hB.x3;have c5:=hB.x5;obtain ⟨W2,am⟩:∃ W2,(W.alloc (zn #[zk s.g.a s.g.l.length s.g.c] 54)).alloc (zn #[zk s.u.a s.u.l.length s.u.c,zk s.r.a s.r.l.length s.r.c,zk (some ⟨W,0,none⟩) 1 1] 23)=W2:=⟨_,rfl⟩;rw [am] at cc al;have CC:=hid cc;have au:=hid hlowW;have HZ:=hid hz;have HY:=hid hY;have HJ:=hid hJ;have ae:=hid al;have ay:=hid am;have az:=hid hLl;clear cc hlowW hz hY hJ hJx hB hbW hinW h1 hb hW hin hE hL hu hr al am hLl;refine callsIn_of_wp func132 rfl trivial ?_ rfl;simp only [ntmps132,List.size_toArray,List.length_cons,List.length_nil,Nat.reduceAdd,Nat.reduceSub,Array.replicate_succ,Array.replicate_zero,List.push_toArray,List.append_toArray,List.nil_append,List.cons_append]
 gi_wp2_with fail
 rw [ay.out];refine ⟨trivial,fun e=>(by cases e),(callsIn_wide.2 CC.out).mono ?_⟩;rintro e W3 ⟨a,c,rfl,hrow,ak⟩;have a0:=HJ.out _ _ _ h0 (zr _) (ng.of_below (ae.out.trans (ak.mono ae.out.size)) (zr _));have av:W.heap.size≤W3:=zo ae.out.size ak.size;have ab:=jD au.out ((ae.out.trans (ak.mono ae.out.size)).mono ax);have af:vj W3 (W≤·) a L:=hrow.row.more fun b hb=>zo ae.out.size hb.1;obtain ⟨N,hN⟩:∃ N,L.length=N:=⟨_,rfl⟩;have hNN:N≤201:=by rw [← hN];exact az.out
 rw [hN];have HN:=hid hN;clear hN hrow ak CC c2 c3 c5 h0
 gi_wp2
 gi_loopw [18] (fun i wr=>∃ k:Nat,i=.int .i64 k∧k≤N∧J (vi L k) wr∧W.heap.size≤wr∧vj wr (W≤·) a L∧Low wr w0 L) (fun i _=>N - (intOf i).toNat)
 case atStart=>exact ⟨0,rfl,Ab _,a0,av,af,ab⟩
 case round =>
  obtain ⟨k,rfl,hk,hJk,hsz,hsc,hlow⟩:=hrel;by_cases hlt:k<N
  ·have hkl:k<L.length:=by rw [HN.out];exact hlt
   obtain ⟨ad,rfl,hab,q0⟩:=hsc k hkl;have hm:=HZ.out (L[k]!) (by rw [og hkl];exact zu hkl);have hat:=fun j=>QJ L k j hkl;have hof:=JZ L k hkl;have hlk:=hlow (L[k]!) (by rw [og hkl];exact zu hkl);have hmem:L[k]! ∈ L:=by rw [og hkl];exact zu hkl
   obtain ⟨x,hx⟩:∃ x,L[k]! = x:=⟨_,rfl⟩;rw [hx] at q0 hm hat hof hlk hmem;obtain ⟨xa,xl,xc⟩:=x;simp only [mo.v] at q0 hm hat hof;obtain ⟨M,hM⟩:∃ M,xl.length=M:=⟨_,rfl⟩;rw [hM] at q0 hm hof;have b0:(0:Int)≤(k:Int):=lg;have b1':(k:Int)<(N:Int):=lg;have a1:=hid hsc;have a2:=hid hlow;have a3:=hid hat;have a4:=hid hof;have HM:=hid hM;have aw:=hid hmem;have a5:=hid hJk;clear hlow hlk hat hof hM hx hsc hmem hJk hab
   gi_wp2
   gi_loopw [25] (fun i wr'=>∃ j:Nat,i=.int .i64 j∧j≤M∧J (vi L k+j) wr'∧W.heap.size≤wr'∧vj wr' (W≤·) (some ad) L∧Low wr' w0 L) (fun i _=>M - (intOf i).toNat)
   case atStart =>
    have hbx:=ns wr (zn #[zk xa M xc] 54);refine ⟨0,rfl,Ab _,HJ.out _ _ _ a5.out hsz (ng.of_below hbx hsz),zo hsz hbx.size,?_,jD a2.out (hbx.mono lg)⟩;exact fun i hi=>by
     obtain ⟨ad',e,hb,q⟩:=a1.out i hi;exact ⟨ad',e,hb,(hbx.cell (by have:=zt _ _ q;exact this)).trans q⟩
   case round =>
    obtain ⟨j,rfl,hj,hJj,ac,ag,aa⟩:=hrel;by_cases hjm:j<M
    ·have hjl:j<xl.length:=by rw [HM.out];exact hjm
     obtain ⟨xd,rfl,hxb,p0,p1,p2⟩:=(aa _ aw.out).at j hjl;obtain ⟨an,hget⟩:=a3.out j hjl;have hy:=fun A=>HY.out (vi L k+j) (xl[j]!) (vi L k+j+1) A ⟨an,hget.symm,rfl⟩;obtain ⟨y,hyy⟩:∃ y,xl[j]! = y:=⟨_,rfl⟩;simp only at p0 p1 p2;rw [hyy] at p0 p1 p2 hy;obtain ⟨p,o,m⟩:=y;simp only at p0 p1 p2 hy;have hbx:=ns wr (zn #[.int .i64 p,zp o,zp m] 92);have hy:=hy _ (zo ac hbx.size) (HJ.out _ _ _ hJj ac (ng.of_below hbx ac));obtain ⟨fn,tmps,assign,body,hyr,hR⟩:=dW hy;have ab:=jD aa (hbx.mono lg);have af:vj _ (W≤·) (some ad) L:=fun i hi=>by
      obtain ⟨ad',e,hb,q⟩:=ag i hi;exact ⟨ad',e,hb,(hbx.cell (by have:=zt _ _ q;exact this)).trans q⟩
     have d0:(0:Int)≤(j:Int):=lg;have d1:(j:Int)<(M:Int):=lg;have HR:=hid hR;have ai:=hid ab;have aj:=hid af;have a6:=hid hbx;clear hy hR aa ag ab af hbx hJj hget an hyy hxb
     gi_wp2_with fail
     refine ⟨fun e=>(by cases e),(HR.out none _).mono ?_⟩;rintro e W4 (⟨rfl,ar,ao⟩|⟨rfl,a7,ao⟩)
     ·have ah:=hid ar;have aq:=hid ao;clear ar ao HR
      gi_wp2
      go_roundw
      case rel=>exact ⟨j+1,by go_num,lg,ah.out,zo ac (zo a6.out.size aq.out.size),TV aj.out aq.out,UH ai.out aq.out⟩
      case measure=>simp [intOf];omega
     ·gi_wp2
      refine bodyPost_ret (results_none rfl _ _ _) rfl ?_;exact ⟨⟨_,rfl⟩,.inr a7⟩
    ·obtain rfl:j=M:=lg;have ah:=hid hJj;have aj:=hid ag;have ai:=hid aa;clear hJj ag aa
     gi_wp2
     go_roundw
     case rel=>exact ⟨k+1,by go_num,lg,by rw [a4.out];exact ah.out,ac,aj.out,ai.out⟩
     case measure=>simp [intOf];omega
  ·obtain rfl:k=N:=lg;have ah:=hid hJk;clear hJk hsc hlow
   gi_wp2
   go_end0
   refine ⟨⟨_,rfl⟩,.inl ?_⟩;have:=ah.out;rwa [MZ L k (by rw [HN.out];exact zr _)] at this
end Go.Proofs.YtbagenpobcgjnaaGreat
