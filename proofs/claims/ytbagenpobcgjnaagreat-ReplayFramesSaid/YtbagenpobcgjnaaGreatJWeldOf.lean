/-
  Joined: WeldOf, LawWeld, RopeDev, RopeRef, RopeIns, RopeSlice, LawRope.
-/
import Derived.Test.YtbagenpobcgjnaaGreatJWeldTogether
open And renaming intro->zx
open ByteArray renaming size_append->Ad
open Go renaming Calls->zr,Ending->Aa,Value->zy,World->zu,maxLen->Af
open Go.Ending renaming returned->zq
open Go.IntKind renaming i64->zn
open Go.Lib renaming hid->zk
open Go.RowKit renaming Below->zo
open Go.RowKit.Below renaming refl->zt
open Go.Value renaming int->zm,ownBlock->Aj,pointer->zp,string->zv,tuple->zw
open Int renaming eq_ofNat_of_zero_le->zz
open List renaming length_append->Ah
open Nat renaming le_refl->Ag,le_trans->Ai,lt_of_lt_of_le->Ak,zero_le->Ae
variable {S s x:ByteArray} {i n:Int} {L:List ByteArray} {p r:Option Go.Addr} {w w':Go.World}
namespace Go.Proofs.YtbagenpobcgjnaaGreat
open Go.Proofs.Tryz
set_option maxRecDepth 100000
open Lib (hid)
open Go.RowKit
set_option linter.unusedVariables false
set_option linter.unusedSimpArgs false
theorem GU {base b n size:Nat} {t T:TypeId} {v:zy} {xs:List zy} {cs:Array zy} (h:w.ownsRow base t size v n xs) (hb:l6 w b cs T) (hT:T≠t):some b≠v.ownBlock:=by
 intro e;rcases h.2 with ⟨rfl,-⟩|⟨g,cap,cur,rfl,-,hB,-⟩
 ·simp [Aj] at e
 ·simp [Aj] at e;subst e;unfold l6 at hb;rw [hB] at hb;simp at hb;exact hT hb.2.symm
structure OfI (w:zu) (M:List ByteArray) (v:zy) (K:List pd) (wr:zu):Prop where
 own:wr.ownsRow w 128 1 v M.length (nu K)
 fl:flat K=M
 len:K.length=M.length
 kids:∀ x∈K,mb wr (tm w wr) 0 x.b x.L
 bel:zo w w wr
theorem OfI.grown {w wr w1 wm:zu} {M:List ByteArray} {v v':zy} {K:List pd} {s:ByteArray} {b:Nat} {o1:Obj} (I:OfI w M v K wr) (hf:qt s)
 (hb1:zo wr wr w1) (hlb:w≤b) (hB:l6 w1 b (kcs 1 s s s (.slice none 0 0)) 212)
 (h1:wm.ownsRow w 128 1 v' (M.length+1) (nu K++[pv b])) (g1:(w1.alloc o1).grownBy wm v.ownBlock) :
 OfI w (M++[s]) v' (K++[⟨b,[s]⟩]) wm:=by
 have hsz:=I.bel.size;have aa:=hb1.size;have e1:=g1.size;simp at e1;have q1:=cW I.own hb1;have hbel:zo w w wm:=((I.bel.trans (hb1.mono hsz)).alloc lg o1).grown g1 lr (aB q1);have step:∀ {x:Nat} {L:List ByteArray},mb w1 (tm w w1) 0 x L→mb wm (tm w wm) 0 x L:=by
  intro x L hx;obtain ⟨⟨hxo,hxl⟩,s',e,hf',hxB⟩:=hx;have k1:wm.heap[x]? = w1.heap[x]? :=(g1.block x lr (GU (q1.alloc o1) (hxB.alloc o1) lj)).trans (Below.heap_alloc w1 o1 x hxl);exact ⟨⟨hxo,lg⟩,s',e,hf',k1.trans hxB⟩
 refine ⟨?_,by rw [od,dI,I.fl],by rw [Ah,Ah,I.len];rfl,fun x hx=>?_,hbel⟩
 ·rw [xP,Ah];exact h1
 ·rcases List.mem_append.1 hx with q|q
  ·exact step (((I.kids x q).below hb1 fun i hi=>hi.2).weak fun i hi=>⟨hi.1,Ak hi.2 aa⟩)
  ·rw [List.mem_singleton.1 q];exact step ⟨⟨hlb,hB.lt⟩,s,rfl,hf,hB⟩
def RetOf (s:ByteArray) (w:zu) (e:Aa) (w':zu):Prop:=∃ p L,e=zq (zp p)∧Tr w' [] p L∧mr L∧(rm s.data.toList→ly L=s)∧(¬ rm s.data.toList→p=none)∧zo w w w'
set_option maxHeartbeats 1600000 in
theorem SS (s:ByteArray) (hs:s.size≤5000) (w:zu):zr prog 141 #[zv s] w (RetOf s w):=by
 obtain ⟨i0,hi,aj,ak,al⟩:=info_parts dD;have cc:=RB s lg w;have CC:=zk cc;have HS:=zk hs;clear cc hs;go_enter func141,ntmps141;go_wp2_with fail;refine CC.out.mono ?_;rintro e w1 ⟨L,hL,-,a,c,rfl,hst,ae⟩;have hT:mr L∧(rm s.data.toList→ly L=s)∧(¬ rm s.data.toList→L=[]):=by
  rcases hL with ⟨v,h⟩|⟨v,h⟩
  ·exact ⟨(LG h v).1,fun _=>MQ h,fun g=>absurd v g⟩
  ·subst h;exact ⟨aR,fun g=>absurd g v,fun _=>rfl⟩
 have hln:L.length≤600:=by
  have h1:=tQ hT.1;have h2:(ly L).size≤5000:=by
   by_cases v:rm s.data.toList
   ·rw [hT.2.1 v];exact HS.out
   ·rw [hT.2.2 v];exact Ae _
  omega
 obtain ⟨n,hn⟩:∃ n,L.length=n:=⟨_,rfl⟩;rw [hn] at hln ⊢;have HN:=zk hn;have HT:=zk hT;have am:=zk hst;have af:=zk ae;clear hn hT hst ae hL;go_wp2
 go_loopw [3,9] (fun u i wr=>∃ (k:Nat) (v:zy) (K:List pd),k≤n∧i=zm zn k∧v=u∧OfI w1 (L.take k) v K wr) (fun _ i _=>n - (intOf i).toNat)
 case atStart=>exact ⟨0,_,[],Ae _,rfl,rfl,World.ownsRow_nil _ _ _ _,rfl,rfl,fun x hx=>absurd hx li,zt _ _⟩
 case round =>
  obtain ⟨k,v,K,hk,rfl,rfl,hI⟩:=hrel;by_cases hlt:k<n
  ·have hkl:k<L.length:=by rw [HN.out];exact hlt
   obtain ⟨ad,rfl,hab,q0⟩:=(am.out.on hI.bel) k hkl;have hx:=eQ HT.out.1 L[k] (List.getElem_mem hkl);have hst:=List.take_succ_eq_append_getElem hkl;obtain ⟨x,hxx⟩:∃ x,L[k]=x:=⟨_,rfl⟩;rw [hxx] at q0 hx hst;have cl:=yK x (by have:=hx.2.1;unfold Af;omega) ((aV x).2 hx);have o1:=hI.own;obtain ⟨M,hM⟩:∃ M,L.take k=M:=⟨_,rfl⟩;rw [hM] at hI o1 hst;obtain ⟨N,hN⟩:∃ N,M.length=N:=⟨_,rfl⟩;have av:N≤600:=by rw [← hN,← hM,List.length_take];omega
   have HG:=zk (fun b o1 w2 wm v'=>@OfI.grown w1 wr w2 wm M v v' K x b o1 hI hx);rw [hN] at o1 HG;have hsz:w1.heap.size≤wr:=hI.bel.size;have HI:=zk hI;have CL:=zk cl;have O1:=zk o1;have HX:=zk hst;have b1:(k:Int)<(n:Int):=lg;have b2:(0:Int)≤(k:Int):=lg;clear hI cl o1 hst hM hN hab hxx hx hkl;go_wp2_with fail;refine (CL.out wr).mono ?_;rintro e w2 ⟨bn,rfl,hbn,hB,ab⟩;have an:=zk (Ai hsz hbn);have ao:=zk ab;have p1:=cW O1.out ab;have aq:w1.heap.size≤w2:=Ai hsz ab.size;have ar:=zk hB;clear hbn hB ab;go_wp2_with (at_builtin;refine wpList_append_own _ rfl _ _ 206 rfl w1.heap.size 128 i0 (zp none) 1 8 underlying206 hi aj ak al rfl lj _ _ _ rfl (p1.alloc _) ⟨w2,0,none⟩ 1 1 [pv bn] rfl rfl (cJ _ _ _) (eY _ rfl) lq lg (Ai aq li) ?_;intro v' wm ag ah _);have ai:=zk (HG.out bn _ w2 wm v' ao.out an.out ar.out ag ah);rw [← HX.out] at ai;clear ag ah p1;go_wp2;go_roundw
   case rel=>exact ⟨k+1,_,_,lg,by go_num,rfl,ai.out⟩
   case measure=>simp [intOf];omega
  ·obtain rfl:k=n:=lg;have e:L.take k=L:=List.take_of_length_le (by rw [HN.out];exact Ag _);rw [e] at hI;have ho:=hI.own;rw [HN.out] at ho;have ac:=zk (fun W p (hp:Tr W [] p L) (hb:zo wr wr W)=>(show RetOf s w (zq (zp p)) W from ⟨p,L,rfl,hp,HT.out.1,HT.out.2.1,fun hv=>by
    rcases hp with ⟨h,-⟩|⟨b,h,-,kk⟩
    ·exact h
    ·exact absurd (HT.out.2.2 hv) kk.ne,af.out.trans ((hI.bel.trans (hb.mono hI.bel.size)).mono af.out.size)⟩))
   rcases Nat.eq_zero_or_pos k with rfl|h0
   ·have au:L=[]:=List.eq_nil_of_length_eq_zero HN.out;subst au;have hv:∃ a c,v=.slice a 0 c:=by
     rcases ho.2 with ⟨rfl,-⟩|⟨g,cap,cur,rfl,-⟩
     ·exact ⟨none,0,rfl⟩
     ·exact ⟨_,_,rfl⟩
    obtain ⟨a',c',rfl⟩:=hv;have cu:=BF (a:=a') (c:=c') wr;have CU:=zk cu;clear cu hI ho e;go_wp2_with fail;refine CU.out.mono ?_;rintro e w2 ⟨rfl,aa⟩;have HR:=zk (ac.out w2 none (.inl ⟨rfl,rfl⟩) aa);clear aa;go_wp2;go_ret;exact HR.out
   ·obtain ⟨g,c',rfl,hc,hg,hr⟩:=bL ho h0;have hlen:=hI.len;rw [HN.out] at hlen;have cu:=SU (lo:=w1.heap.size) (h:=0) (K:=K) (n:=k) (c:=c') hI.bel.size ⟨hlen,hr,hI.kids,fun i hi=>hi.2,lj,by rw [hI.fl];have:=GG (eQ HT.out.1);rw [HN.out] at this;omega⟩ h0 lg hc;rw [hI.fl] at cu;have CU:=zk cu;clear cu hI ho e hr hg hlen;go_wp2_with fail;refine CU.out.mono ?_;rintro e w2 ⟨b,rfl,hk,aa⟩;have HR:=zk (ac.out w2 _ (.inr ⟨b,_,rfl,hk.weak fun i hi=>⟨hi.2,li⟩⟩) aa);clear aa hk;go_wp2;go_ret;exact HR.out
structure sr (w:zu) (p:Option Addr) (L:List ByteArray) (s:ByteArray):Prop where
 t:Tr w [] p L
 tight:mr L
 txt:ly L=s
 small:s.size≤5000
theorem sr.later (h:sr w p L s) (hb:zo w w w'):sr w' p L s:=⟨h.t.later hb,h.tight,h.txt,h.small⟩
theorem sr.len (h:sr w p L s):L.length≤1000:=by
 have:=tQ h.tight;have:=h.small;have:=h.txt;subst this;omega
theorem sr.cases (x:sr w p L s):(p=none∧L=[])∨∃ b h,p=some ⟨b,0,none⟩∧wd w h b L∧mb w (ph [] w) h b L∧h≤12:=by
 rcases x.t with t|⟨b,h,e,k⟩
 ·exact .inl t
 ·exact .inr ⟨b,h,e,k.weak fun i hi=>hi.1,k,k.high (by rw [x.txt];have:=x.small;omega)⟩
theorem sr.text (x:sr w p L s):∀ W,zo w w W→zr prog 95 #[zp p] W fun e w'=>e=zq (zv s)∧zo W.heap.size W w':=fun W hW=>by
 have hl:=x.len;have hs:=x.small;have ht:=x.txt;rcases x.cases with ⟨rfl,rfl⟩|⟨b,h,rfl,k,-,hh⟩
 ·rw [← ht];exact IM (.inl ⟨rfl,rfl⟩)
 ·have:=NG (k.on hW) lg lg (by rw [ht];omega);rwa [ht] at this
structure n9 (w:zu) (r p:Option Addr) (L:List ByteArray) (s:ByteArray):Prop where
 x:sr w p L s
 at':(r=none∧p=none)∨∃ b,r=some ⟨b,0,none⟩∧b<w.heap.size∧w ⟨b,0,none⟩=some (zp p)
theorem n9.later (h:n9 w r p L s) (hb:zo w w w'):n9 w' r p L s:=by
 refine ⟨h.x.later hb,?_⟩;rcases h.at' with t|⟨b,e,hl,hc⟩
 ·exact .inl t
 ·exact .inr ⟨b,e,Ak hl hb.size,(hb.cell (p:=⟨b,0,none⟩) hl).trans hc⟩
theorem sr.empty (w:zu):sr w none [] ⟨#[]⟩:=⟨.inl ⟨rfl,rfl⟩,aR,rfl,Ae _⟩
theorem sr.count (x:sr w p L s):∀ W,zo w w W→zr prog 139 #[zp p] W fun e w'=>e=zq (cntV s.size (oo s.data.toList) (op s.data.toList))∧zo W.heap.size W w':=fun W hW=>by
 have ht:=x.txt;rcases x.cases with ⟨rfl,rfl⟩|⟨b,h,rfl,k,-,hh⟩
 ·rw [← ht];exact LW W
 ·obtain ⟨kv,-,hB⟩:=(wd.on k hW).cells;rw [← ht];exact uC hB
theorem tJ (l:List UInt8) (p:Int):me l p=decide ((mi l p:Int)=p):=by
 unfold me mi;by_cases h0:p<0
 ·rw [if_pos h0,decide_eq_false lg,decide_eq_false lg]
 ·rw [if_neg h0];by_cases h1:(l.length:Int)<p
  ·rw [if_pos h1,decide_eq_false (show ¬ (l.length:Int)=p by omega),decide_eq_false];rintro ⟨-,h⟩;unfold o6 at h;omega
  ·rw [if_neg h1];obtain ⟨k,rfl⟩:=zz (Int.not_lt.1 h0);rw [Int.toNat_natCast];by_cases he:o6 l k
   ·rw [dM l k he];simp [he]
   ·rw [decide_eq_false (show ¬ (0≤(k:Int)∧o6 l k) from fun g=>he g.2),decide_eq_false];intro g;have g':qv l k=k:=lg;exact he (g' ▸ jN l k)
theorem nN {l:List UInt8} {p:Int} (h:me l p=true):mi l p=p.toNat∧0≤p∧p≤l.length:=by
 rw [tJ,decide_eq_true_eq] at h;have:=iU l p;omega
theorem tL (a b c:Int) (w:zu):(Instr.field 173 (cntV a b c) 0).run prog w=.ok (zm zn a) w:=lh
set_option maxHeartbeats 800000 in
theorem nM (h:n9 w r p L s) :
 zr prog 94 #[zp r] w fun e w'=>e=zq (zp p)∧zo w w w':=by
 rcases h.at' with ⟨rfl,rfl⟩|⟨b,rfl,hl,hc⟩
 ·clear h;go_enter func94,ntmps94;go_wp2;go_ret;exact ⟨rfl,zt _ _⟩
 ·clear h;go_enter func94,ntmps94;go_wp2;go_ret;exact ⟨rfl,zt _ _⟩
set_option maxHeartbeats 800000 in
theorem nR (h:n9 w r p L s) :
 zr prog 59 #[zp r] w fun e w'=>e=zq (zv s)∧zo w w w':=by
 have c1:=nM h;have c2:=h.x.text;have C1:=zk c1;have C2:=zk c2;clear c1 c2 h;go_enter func59,ntmps59;go_wp2_with fail;refine C1.out.mono ?_;rintro e w1 ⟨rfl,aa⟩;have ab:=zk aa;clear aa;go_wp2_with fail;refine (mw ab.out (C2.out _ ab.out)).mono ?_;rintro e w2 ⟨rfl,ac⟩;go_wp2;go_ret;exact ⟨rfl,ac⟩
set_option maxHeartbeats 800000 in
theorem PL (h:n9 w r p L s) :
 zr prog 137 #[zp r] w fun e w'=>e=zq (cntV s.size (oo s.data.toList) (op s.data.toList))∧zo w w w':=by
 have aa:zo w w (w.alloc (.cells #[zm zn 0,zm zn 0,zm zn 0] 173)):=(zt _ _).alloc (Ag _) _;have h1:=h.later aa;have c1:=nM h1;have c2:=h1.x.count;obtain ⟨n,hn⟩:∃ n:Int,(s.size:Int)=n:=⟨_,rfl⟩;obtain ⟨x,hx⟩:∃ x:Int,(oo s.data.toList:Int)=x:=⟨_,rfl⟩;obtain ⟨y,hy⟩:∃ y:Int,(op s.data.toList:Int)=y:=⟨_,rfl⟩;rw [hn,hx,hy] at c2 ⊢;have C1:=zk c1;have C2:=zk c2;clear c1 c2 h h1 aa hn hx hy;go_enter func137,ntmps137;go_wp2_with fail;refine C1.out.mono ?_;rintro e w1 ⟨rfl,ab⟩;have ac:=zk ab;clear ab;go_wp2_with fail;refine (mw ac.out (C2.out _ ac.out)).mono ?_;rintro e w2 ⟨rfl,ad⟩;have hN:l6 w2 w #[zm zn 0,zm zn 0,zm zn 0] 173:=(l6.new w _ _).onto ad;have g0:=hN.free 0;have g1:=hN.free 1;have g2:=hN.free 2;have d0:=hN.cell 0 _ rfl;have d1:=hN.cell 1 _ rfl;have d2:=hN.cell 2 _ rfl;have hlt:=hN.lt;go_wp2;refine bodyPost_ret (v:=cntV n x y) (by simp [results,results137,go_sem,g0,g1,g2,d0,d1,d2]) rfl ⟨rfl,?_⟩;exact gR (o:=.cells #[zm zn 0,zm zn 0,zm zn 0] 173) ad _ _ _
set_option maxHeartbeats 800000 in
theorem wU (h:n9 w r p L s) :
 zr prog 112 #[zp r] w fun e w'=>e=zq (zm zn s.size)∧zo w w w':=by
 have c1:=PL h;have cf:=tL s.size (oo s.data.toList) (op s.data.toList);obtain ⟨n,hn⟩:∃ n:Int,(s.size:Int)=n:=⟨_,rfl⟩;obtain ⟨x,hx⟩:∃ x:Int,(oo s.data.toList:Int)=x:=⟨_,rfl⟩;obtain ⟨y,hy⟩:∃ y:Int,(op s.data.toList:Int)=y:=⟨_,rfl⟩;rw [hn,hx,hy] at c1 cf;rw [hn];have C1:=zk c1;clear c1 h hn hx hy;go_enter func112,ntmps112;go_wp2_with fail;refine C1.out.mono ?_;rintro e w1 ⟨rfl,aa⟩;go_wp2;go_ret;exact ⟨rfl,aa⟩
abbrev aheadV (r:Option Addr):zy:=.func (.func 160) #[zp r] #[]
abbrev behindV (r:Option Addr):zy:=.func (.func 161) #[zp r] #[]
set_option maxHeartbeats 800000 in
theorem vT (r:Option Addr) (w:zu) :
 zr prog 138 #[zp r] w fun e w'=>e=zq (zw #[aheadV r,behindV r])∧w'=w:=by
 have hmf:∀ (fn:Fn) (first cap:Array zy) (w:zu),(Instr.makeFunc fn first cap).run prog w=.ok (.func fn first cap) w:=fun _ _ _ _=>rfl;go_enter func138,ntmps138;go_wp2;go_ret2;exact ⟨rfl,rfl⟩
set_option maxHeartbeats 800000 in
theorem xC {q:Int} (h:n9 w r p L s) (hq:oi q) :
 zr prog 160 #[zp r,zm zn q] w (qu w (s.extract 0 (mi s.data.toList q))):=by
 have c1:=nM h;have c2:∀ W,zo w w W→zr prog 187 #[zp p,zm zn q] W (wh W (s.extract 0 (mi s.data.toList q)) (s.extract (mi s.data.toList q) s.size)):=fun W hW=>by
  have y:=h.x.later hW;have:=sX y.t y.tight (by rw [y.txt];exact y.small) hq;rwa [y.txt] at this
 have C1:=zk c1;have C2:=zk c2;clear c1 c2 h;go_enter func160,ntmps160;go_wp2_with fail;refine C1.out.mono ?_;rintro e w1 ⟨rfl,ab⟩;have aa:=zk ab;clear ab;go_wp2_with fail;refine (C2.out _ aa.out).mono ?_;rintro e w2 ⟨p1,L1,p2,L2,rfl,t1,t2,h1,h2,x1,x2,ac⟩;have HR:=zk (show qu w (s.extract 0 (mi s.data.toList q)) (zq (zp p1)) w2 from ⟨p1,L1,rfl,t1,h1,x1,aa.out.trans (ac.mono aa.out.size)⟩);clear t1 t2 h1 h2 x1 x2 ac;go_wp2;go_ret;exact HR.out
set_option maxHeartbeats 800000 in
theorem IP {q:Int} (h:n9 w r p L s) (hq:oi q) :
 zr prog 161 #[zp r,zm zn q] w (qu w (s.extract (mi s.data.toList q) s.size)):=by
 have c1:=nM h;have c2:∀ W,zo w w W→zr prog 187 #[zp p,zm zn q] W (wh W (s.extract 0 (mi s.data.toList q)) (s.extract (mi s.data.toList q) s.size)):=fun W hW=>by
  have y:=h.x.later hW;have:=sX y.t y.tight (by rw [y.txt];exact y.small) hq;rwa [y.txt] at this
 have C1:=zk c1;have C2:=zk c2;clear c1 c2 h;go_enter func161,ntmps161;go_wp2_with fail;refine C1.out.mono ?_;rintro e w1 ⟨rfl,ab⟩;have aa:=zk ab;clear ab;go_wp2_with fail;refine (C2.out _ aa.out).mono ?_;rintro e w2 ⟨p1,L1,p2,L2,rfl,t1,t2,h1,h2,x1,x2,ac⟩;have HR:=zk (show qu w (s.extract (mi s.data.toList q) s.size) (zq (zp p2)) w2 from ⟨p2,L2,rfl,t2,h2,x2,aa.out.trans (ac.mono aa.out.size)⟩);clear t1 t2 h1 h2 x1 x2 ac;go_wp2;go_ret;exact HR.out
set_option maxHeartbeats 800000 in
theorem gY {q:Int} (h:n9 w r p L s) (hq:oi q) :
 zr prog 113 #[zp r,zm zn q] w fun e w'=>e=zq (.bool (me s.data.toList q))∧zo w w w':=by
 have c1:=vT r w;have c2:=xC h hq;have hle:=iU s.data.toList q;have hlen:s.data.toList.length=s.size:=li;have hz:=bK s (mi s.data.toList q) lg;have hsm:=h.x.small;rw [tJ];obtain ⟨n,hn⟩:∃ n,mi s.data.toList q=n:=⟨_,rfl⟩;rw [hn] at c2 hz hle ⊢;obtain ⟨t,ht⟩:∃ t,s.extract 0 n=t:=⟨_,rfl⟩;rw [ht] at c2 hz;have C1:=zk c1;have C2:=zk c2;have HZ:=zk hz;have ab:=zk (show n≤5000 by omega);clear c1 c2 hz h hle hlen hsm hn ht hq;go_enter func113,ntmps113;go_wp2_with fail;refine C1.out.mono ?_;rintro e w1 ⟨rfl,rfl⟩;go_wp2_with fail;refine C2.out.mono ?_;rintro e w2 ⟨p1,L1,rfl,t1,h1,x1,aa⟩;have c3:=(show sr w2 p1 L1 t from ⟨t1,h1,x1,by have:=HZ.out;have:=ab.out;omega⟩).count w2 (zt _ _);rw [HZ.out] at c3;have cf:=tL n (oo t.data.toList) (op t.data.toList);obtain ⟨x,hx⟩:∃ x:Int,(oo t.data.toList:Int)=x:=⟨_,rfl⟩;obtain ⟨y,hy⟩:∃ y:Int,(op t.data.toList:Int)=y:=⟨_,rfl⟩;rw [hx,hy] at c3 cf;have C3:=zk c3;have ac:=zk aa;clear c3 t1 h1 x1 hx hy aa;go_wp2_with fail;refine (mw ac.out C3.out).mono ?_;rintro e w3 ⟨rfl,ad⟩;go_wp2;go_ret;exact ⟨by first|rfl|exact aA rfl|(trace_state;exact aA (by simp [beq_eq_decide])),ad⟩
theorem sr.made (t:Tr w [] p L) (hT:mr L) (h:ly L=s) (hs:s.size≤5000):sr w p L s:=⟨t,hT,h,hs⟩
def RetPut (w:zu) (s:ByteArray) (e:Aa) (w':zu):Prop:=∃ b p L,e=zq (zp (some ⟨b,0,none⟩))∧n9 w' (some ⟨b,0,none⟩) p L s∧zo w w w'
set_option maxHeartbeats 1600000 in
theorem LR {j:Int} (h:n9 w r p L s) (hi:oi i) (hj:oi j) (hx:rm x.data.toList) (hz:mi s.data.toList i+x.size+(s.size - mi s.data.toList j)≤5000) :
 zr prog 114 #[zp r,zm zn i,zv x,zm zn j] w (RetPut w (s.extract 0 (mi s.data.toList i)++x++s.extract (mi s.data.toList j) s.size)):=by
 have c1:=vT r w;have c2:=xC h hi;have c3:=SS x lg;have c4:=fun W (hW:zo w w W)=>IP (h.later hW) hj;have hle:=iU s.data.toList i;have hlen:s.data.toList.length=s.size:=li;have z1:=bK s (mi s.data.toList i) lg;have z2:=dA s (mi s.data.toList j);obtain ⟨u,hu⟩:∃ u,s.extract 0 (mi s.data.toList i)=u:=⟨_,rfl⟩;obtain ⟨v,hv⟩:∃ v,s.extract (mi s.data.toList j) s.size=v:=⟨_,rfl⟩;rw [hu] at c2 z1 ⊢;rw [hv] at c4 z2 ⊢;have hzz:u.size+x.size+v.size≤5000:=lg;have C1:=zk c1;have C2:=zk c2;have C3:=zk c3;have C4:=zk c4;have HZ:=zk hzz;have HX:=zk hx;clear c1 c2 c3 c4 hzz hx h hi hj hz hle hlen z1 z2 hu hv;go_enter func114,ntmps114;go_wp2_with fail;refine C1.out.mono ?_;rintro e w1 ⟨rfl,rfl⟩;go_wp2_with fail;refine C2.out.mono ?_;rintro e w2 ⟨p1,L1,rfl,t1,h1,x1,ah⟩;have aq:=zk (sr.made t1 h1 x1 (by have:=HZ.out;omega));have ai:=zk ah;clear t1 h1 x1 ah;go_wp2_with fail;refine (C3.out _).mono ?_;rintro e w3 ⟨p2,L2,rfl,t2,h2,x2,-,ae⟩;have aa:=zk (sr.made t2 h2 (x2 HX.out) (by have:=HZ.out;omega));have ab:=zk (aq.out.later ae);have aj:=zk (ai.out.trans (ae.mono ai.out.size));clear t2 h2 x2 ae;have cc:=gE ab.out.t aa.out.t ab.out.tight aa.out.tight (by rw [aN,ab.out.txt,aa.out.txt];have:=HZ.out;omega);rw [ab.out.txt,aa.out.txt] at cc;have CC:=zk cc;clear cc;go_wp2_with fail;refine CC.out.mono ?_;rintro e w4 ⟨p4,L4,rfl,t4,h4,x4,ak⟩;have ar:=zk (sr.made t4 h4 x4 (by rw [Ad];have:=HZ.out;omega));have af:=zk (aj.out.trans (ak.mono aj.out.size));clear t4 h4 x4 ak;go_wp2_with fail;refine (C4.out _ af.out).mono ?_;rintro e w5 ⟨p5,L5,rfl,t5,h5,x5,ag⟩;have ac:=zk (sr.made t5 h5 x5 (by have:=HZ.out;omega));have ad:=zk (ar.out.later ag);have al:=zk (af.out.trans (ag.mono af.out.size));clear t5 h5 x5 ag;have cc:=gE ad.out.t ac.out.t ad.out.tight ac.out.tight (by rw [aN,ad.out.txt,ac.out.txt,Ad];have:=HZ.out;omega);rw [ad.out.txt,ac.out.txt] at cc;have au:=zk cc;clear cc;go_wp2_with fail;refine au.out.mono ?_;rintro e w6 ⟨p6,L6,rfl,t6,h6,x6,am⟩;have av:=zk (sr.made t6 h6 x6 (by rw [Ad,Ad];have:=HZ.out;omega));have an:=zk (al.out.trans (am.mono al.out.size));clear t6 h6 x6 am;go_wp2;go_ret;have ao:zo w6 w6 (w6.alloc (.cells #[zp p6] 130)):=(zt _ _).alloc (Ag _) _;exact ⟨_,p6,L6,rfl,⟨av.out.later ao,.inr ⟨_,rfl,li,(l6.new w6 _ _).cell 0 _ rfl⟩⟩,an.out.trans (ao.mono an.out.size)⟩
theorem aO {b:Bool} (h:¬ b=false):b=true:=by cases b with
 | false=>exact absurd rfl h
 | true=>rfl
def pg (z:Nat) (i n:Int):Bool:=decide (0≤i∧0≤n∧n≤(z:Int) - i)
def oj (s:ByteArray) (i:Int) (x:ByteArray):Int:=
 if pg s.size i 0=false then 3 else if me s.data.toList i=false then 4 else if nx x.data.toList=false then 5 else if 4096<s.size+x.size then 6 else 0
def s8 (s:ByteArray) (i:Int) (x:ByteArray):ByteArray:=if oj s i x=0 then s.extract 0 i.toNat++x++s.extract i.toNat s.size else ⟨#[]⟩
def pa (s:ByteArray) (i n:Int):Int:=
 if pg s.size i n=false then 3 else if me s.data.toList i=false∨me s.data.toList (i+n)=false then 4 else 0
def ux (s:ByteArray) (i n:Int):ByteArray:=if pa s i n=0 then s.extract 0 i.toNat++s.extract (i+n).toNat s.size else ⟨#[]⟩
theorem bB {z:Nat}:pg z i n=true↔(0≤i∧0≤n∧n≤(z:Int) - i):=by unfold pg;rw [decide_eq_true_eq]
theorem hO {z:Nat}:pg z i n=false↔¬ (0≤i∧0≤n∧n≤(z:Int) - i):=by unfold pg;rw [decide_eq_false_iff_not]
theorem sY (h:oj s i x=0):pg s.size i 0=true∧me s.data.toList i=true∧nx x.data.toList=true∧s.size+x.size≤4096:=by
 unfold oj at h;split at h
 ·cases h
 split at h
 ·cases h
 split at h
 ·cases h
 split at h
 ·cases h
 rename_i h1 h2 h3 h4
 exact ⟨by simpa using h1,by simpa using h2,by simpa using h3,lg⟩
theorem jF (h:pa s i n=0):pg s.size i n=true∧me s.data.toList i=true∧me s.data.toList (i+n)=true:=by
 unfold pa at h;split at h
 ·cases h
 split at h
 ·cases h
 rename_i h1 h2
 refine ⟨by simpa using h1,?_,?_⟩
 ·cases hh:me s.data.toList i with
  | false=>exact absurd (.inl hh) h2
  | true=>rfl
 ·cases hh:me s.data.toList (i+n) with
  | false=>exact absurd (.inr hh) h2
  | true=>rfl
theorem JI {a b:ByteArray} {c d:Int} (h1:a=b) (h2:c=d):zq (zw #[zv a,zm zn c])=zq (zw #[zv b,zm zn d]):=by rw [h1,h2]
set_option maxHeartbeats 800000 in
theorem MH (hs:s.size≤4096) (hi:oi i) (h:pg s.size i n=false) (w:zu) :
 zr prog 100 #[zv s,zm zn i,zm zn n] w fun e w'=>e=zq (zw #[zv ⟨#[]⟩,zm zn 3])∧zo w w w':=by
 rw [hO] at h;unfold oi at hi;by_cases h0:i<0
 ·clear h hi;go_enter func100,ntmps100;go_wp2;go_ret2;exact ⟨rfl,zt _ _⟩
 by_cases h1:n<0
 ·clear h hi;go_enter func100,ntmps100;go_wp2;go_ret2;exact ⟨rfl,zt _ _⟩
 by_cases h2:(s.size:Int)<i
 ·clear h hi;go_enter func100,ntmps100;go_wp2;go_ret2;exact ⟨rfl,zt _ _⟩
 have h3:(s.size:Int) - i<n:=lg;clear h;obtain ⟨k,rfl⟩:=zz (show 0≤i by omega);obtain ⟨m,rfl⟩:=zz (show 0≤n by omega);go_enter func100,ntmps100;go_wp2;go_ret2;exact ⟨rfl,zt _ _⟩
set_option maxHeartbeats 800000 in
theorem FX {k m:Nat} (hs:s.size≤4096) (h:k+m≤s.size) (w:zu) :
 zr prog 100 #[zv s,zm zn k,zm zn m] w fun e w'=>e=zq (zw #[zv (s.extract k (k+m)),zm zn 0])∧zo w w w':=by
 have h0:(0:Int)≤(k:Int):=lg;have h1:(0:Int)≤(m:Int):=lg;have h2:(k:Int)≤(s.size:Int):=lg;have h3:(m:Int)≤(s.size:Int) - (k:Int):=lg;have h4:((k:Int)+(m:Int))≤(s.size:Int):=lg;have h5:(k:Int)≤(k:Int)+(m:Int):=lg;have h6:((k:Int)+(m:Int)).toNat=k+m:=lg;have h7:(0:Int)≤(k:Int)+(m:Int):=lg;go_enter func100,ntmps100;go_wp2;go_ret2;exact ⟨JI (by simp [h6]) rfl,zt _ _⟩
theorem EU (hs:s.size≤4096) (hi:oi i) (w:zu) :
 zr prog 100 #[zv s,zm zn i,zm zn n] w fun e w'=>(∃ t,e=zq (zw #[zv t,zm zn (if pg s.size i n=true then 0 else 3)]))∧zo w w w':=by
 by_cases h:pg s.size i n=true
 ·rw [if_pos h];obtain ⟨h1,h2,h3⟩:=bB.1 h;obtain ⟨k,rfl⟩:=zz h1;obtain ⟨m,rfl⟩:=zz h2;exact (FX hs lg w).mono fun e w' ⟨h,hb⟩=>⟨⟨_,h⟩,hb⟩
 ·rw [if_neg h];exact (MH hs hi (Bool.eq_false_iff.2 h) w).mono fun e w' ⟨h,hb⟩=>⟨⟨_,h⟩,hb⟩
set_option maxHeartbeats 1600000 in
theorem yW (hs:s.size≤4096) (hx:x.size≤1000000) (hi:oi i) (w:zu) :
 zr prog 70 #[zv s,zm zn i,zv x] w fun e w'=>e=zq (zw #[zv (s8 s i x),zm zn (oj s i x)])∧zo w w w':=by
 by_cases hst:pg s.size i 0=false
 ·have hE:oj s i x=3:=by unfold oj;rw [if_pos hst]
  have hS:s8 s i x=⟨#[]⟩:=by unfold s8;rw [hE,if_neg lj]
  rw [hE,hS];rw [hO] at hst;clear hE hS;by_cases h0:i<0
  ·clear hst;go_enter func70,ntmps70;go_wp2;go_ret2;exact ⟨rfl,zt _ _⟩
  ·have h1:(s.size:Int)<i:=lg;clear hst;go_enter func70,ntmps70;go_wp2;go_ret2;exact ⟨rfl,zt _ _⟩
 have hst:=aO hst;obtain ⟨h1,-,h2⟩:=bB.1 hst;obtain ⟨k,rfl⟩:=zz h1;have hk:k≤s.size:=lg;have g1:¬ (k:Int)<0:=lg;have g2:(k:Int)≤(s.size:Int):=lg;have g3:decide ((s.size:Int)<(k:Int))=false:=decide_eq_false lg;have g4:decide (s.size<k)=false:=decide_eq_false lg;have ce:=bV s lq k;have cv:=eT x lg;by_cases he:me s.data.toList k=false
 ·have hE:oj s k x=4:=by unfold oj;rw [if_neg (by rw [hst];decide),if_pos he]
  have hS:s8 s k x=⟨#[]⟩:=by unfold s8;rw [hE,if_neg lj]
  rw [hE,hS];rw [he] at ce;have CE:=zk ce;clear hE hS ce cv he hst h1 h2;go_enter func70,ntmps70;go_wp2_with fail;refine (CE.out _).mono ?_;rintro e w1 ⟨rfl,rfl⟩;go_wp2;go_ret2;exact ⟨rfl,zt _ _⟩
 have he:=aO he;rw [he] at ce;by_cases hv:nx x.data.toList=false
 ·have hE:oj s k x=5:=by unfold oj;rw [if_neg (by rw [hst];decide),if_neg (by rw [he];decide),if_pos hv]
  have hS:s8 s k x=⟨#[]⟩:=by unfold s8;rw [hE,if_neg lj]
  rw [hE,hS];rw [hv] at cv;have CE:=zk ce;have CV:=zk cv;clear hE hS ce cv he hv hst h1 h2;go_enter func70,ntmps70;go_wp2_with fail;refine (CE.out _).mono ?_;rintro e w1 ⟨rfl,rfl⟩;go_wp2_with fail;refine (CV.out _).mono ?_;rintro e w2 ⟨rfl,aa⟩;go_wp2;go_ret2;exact ⟨rfl,aa⟩
 have hv:=aO hv;rw [hv] at cv;by_cases hl:4096<s.size+x.size
 ·have hE:oj s k x=6:=by unfold oj;rw [if_neg (by rw [hst];decide),if_neg (by rw [he];decide),if_neg (by rw [hv];decide),if_pos hl]
  have hS:s8 s k x=⟨#[]⟩:=by unfold s8;rw [hE,if_neg lj]
  rw [hE,hS];have g5:(4096:Int)<(s.size:Int)+(x.size:Int):=lg;have CE:=zk ce;have CV:=zk cv;clear hE hS ce cv he hv hst h1 h2;go_enter func70,ntmps70;go_wp2_with fail;refine (CE.out _).mono ?_;rintro e w1 ⟨rfl,rfl⟩;go_wp2_with fail;refine (CV.out _).mono ?_;rintro e w2 ⟨rfl,aa⟩;go_wp2;go_ret2;exact ⟨rfl,aa⟩
 ·have hE:oj s k x=0:=by unfold oj;rw [if_neg (by rw [hst];decide),if_neg (by rw [he];decide),if_neg (by rw [hv];decide),if_neg hl]
  have hS:s8 s k x=s.extract 0 k++x++s.extract k s.size:=by unfold s8;rw [hE,if_pos rfl];rfl
  rw [hE,hS];have g5:(s.size:Int)+(x.size:Int)≤4096:=lg;have CE:=zk ce;have CV:=zk cv;clear hE hS ce cv he hv hst h1 h2;have y1:=bK s k hk;have y2:=dA s k;have y3:¬ 9223372036854775807<(s.extract 0 k).size+x.size:=by rw [y1];omega
  have y4:¬ 9223372036854775807<k+x.size:=lg;have y5:¬ 9223372036854775807<(s.extract 0 k++x).size+(s.extract k s.size).size:=by rw [Ad,y1,y2];omega
  have y6:¬ 9223372036854775807<k+x.size+(s.size - k):=lg;have Y:=zk (zx y1 (zx y2 (zx y3 (zx y4 (zx y5 y6)))));clear y1 y2 y3 y4 y5 y6;go_enter func70,ntmps70;go_wp2_with fail;refine (CE.out _).mono ?_;rintro e w1 ⟨rfl,rfl⟩;go_wp2_with fail;refine (CV.out _).mono ?_;rintro e w2 ⟨rfl,aa⟩;have ab:=zk aa;clear aa;obtain ⟨y1,y2,y3,y4,y5,y6⟩:=Y.out;go_wp2_with fail;go_quiet (fail);clear y1 y2 y3 y4 y5 y6;go_wp2;go_ret2;exact ⟨rfl,aC ab.out _⟩
set_option maxHeartbeats 1600000 in
theorem wR (hs:s.size≤4096) (hi:oi i) (w:zu) :
 zr prog 72 #[zv s,zm zn i,zm zn n] w fun e w'=>e=zq (zw #[zv (ux s i n),zm zn (pa s i n)])∧zo w w w':=by
 have cs:=EU (n:=n) hs hi;by_cases hst:pg s.size i n=false
 ·have hE:pa s i n=3:=by unfold pa;rw [if_pos hst]
  have hS:ux s i n=⟨#[]⟩:=by unfold ux;rw [hE,if_neg lj]
  rw [hE,hS];rw [if_neg (by rw [hst];decide)] at cs;have CS:=zk cs;clear hE hS cs hst;go_enter func72,ntmps72;go_wp2_with fail;refine (CS.out _).mono ?_;rintro e w1 ⟨⟨t,rfl⟩,aa⟩;go_wp2;go_ret2;exact ⟨rfl,aa⟩
 have hst:=aO hst;rw [if_pos hst] at cs;obtain ⟨h1,h2,h3⟩:=bB.1 hst;obtain ⟨k,rfl⟩:=zz h1;obtain ⟨m,rfl⟩:=zz h2;have hkm:k+m≤s.size:=lg;have ce1:=bV s lq k;have ce2:=bV s lq ((k+m:Nat):Int);have ekm:(k:Int)+(m:Int)=((k+m:Nat):Int):=lg;by_cases he:me s.data.toList k=false
 ·have hE:pa s k m=4:=by unfold pa;rw [if_neg (by rw [hst];decide),if_pos (.inl he)]
  have hS:ux s k m=⟨#[]⟩:=by unfold ux;rw [hE,if_neg lj]
  rw [hE,hS];rw [he] at ce1;have CS:=zk cs;have CE:=zk ce1;clear hE hS cs ce1 ce2 he hst h1 h2 h3 ekm;go_enter func72,ntmps72;go_wp2_with fail;refine (CS.out _).mono ?_;rintro e w1 ⟨⟨t,rfl⟩,aa⟩;have ab:=zk aa;clear aa;go_wp2_with fail;refine (CE.out _).mono ?_;rintro e w2 ⟨rfl,rfl⟩;go_wp2;go_ret2;exact ⟨rfl,ab.out⟩
 have he:=aO he;rw [he] at ce1;have hsl:(k:Int)+(m:Int)≤4096:=lg;by_cases hf:me s.data.toList ((k+m:Nat):Int)=false
 ·have hE:pa s k m=4:=by unfold pa;rw [if_neg (by rw [hst];decide),if_pos (.inr (by rw [ekm];exact hf))]
  have hS:ux s k m=⟨#[]⟩:=by unfold ux;rw [hE,if_neg lj]
  rw [hE,hS];rw [hf,← ekm] at ce2;have CS:=zk cs;have CE:=zk ce1;have ac:=zk ce2;clear hE hS cs ce1 ce2 he hf hst h1 h2 h3 ekm;go_enter func72,ntmps72;go_wp2_with fail;refine (CS.out _).mono ?_;rintro e w1 ⟨⟨t,rfl⟩,aa⟩;have ab:=zk aa;clear aa;go_wp2_with fail;refine (CE.out _).mono ?_;rintro e w2 ⟨rfl,rfl⟩;go_wp2_with fail;refine (ac.out _).mono ?_;rintro e w3 ⟨rfl,rfl⟩;go_wp2;go_ret2;exact ⟨rfl,ab.out⟩
 ·have hf:=aO hf;have hE:pa s k m=0:=by
   unfold pa;rw [if_neg (by rw [hst];decide),if_neg];rintro (g|g)
   ·rw [he] at g;cases g
   ·rw [ekm,hf] at g;cases g
  have hS:ux s k m=s.extract 0 k++s.extract (k+m) s.size:=by unfold ux;rw [hE,if_pos rfl,ekm];rfl
  rw [hE,hS];rw [hf,← ekm] at ce2;have CS:=zk cs;have CE:=zk ce1;have ac:=zk ce2;clear hE hS cs ce1 ce2 he hf hst h1 h2 h3 ekm;have y1:=bK s k lg;have y2:=dA s (k+m);have y3:¬ 9223372036854775807<(s.extract 0 k).size+(s.extract (k+m) s.size).size:=by rw [y1,y2];omega
  have y4:¬ 9223372036854775807<k+(s.size - (k+m)):=lg;have y5:(0:Int)≤(k:Int)+(m:Int):=lg;have y6:(k:Int)+(m:Int)≤(s.size:Int):=lg;have y7:((k:Int)+(m:Int)).toNat=k+m:=lg;have y8:(k:Int)≤(s.size:Int):=lg;have Y:=zk (zx y1 (zx y2 (zx y3 (zx y4 (zx y5 (zx y6 (zx y7 y8)))))));clear y1 y2 y3 y4 y5 y6 y7 y8;go_enter func72,ntmps72;go_wp2_with fail;refine (CS.out _).mono ?_;rintro e w1 ⟨⟨t,rfl⟩,aa⟩;have ab:=zk aa;clear aa;go_wp2_with fail;refine (CE.out _).mono ?_;rintro e w2 ⟨rfl,rfl⟩;go_wp2_with fail;refine (ac.out _).mono ?_;rintro e w3 ⟨rfl,rfl⟩;obtain ⟨y1,y2,y3,y4,y5,y6,y7,y8⟩:=Y.out;go_wp2_with fail;go_quiet (fail);clear y1 y2 y3 y4 y5 y6 y7 y8;go_wp2;go_ret2;exact ⟨rfl,aC ab.out _⟩
set_option maxHeartbeats 800000 in
theorem oP {z:Nat} (hz:z≤5000) (hi:oi i) (w:zu) :
 zr prog 111 #[zm zn z,zm zn i,zm zn n] w fun e w'=>e=zq (.bool (pg z i n))∧w'=w:=by
 by_cases h0:i<0
 ·have hB:pg z i n=false:=hO.2 lg;rw [hB];clear hi hB hz;go_enter func111,ntmps111;go_wp2;go_ret;exact ⟨rfl,rfl⟩
 by_cases h1:n<0
 ·have hB:pg z i n=false:=hO.2 lg;rw [hB];have h2:0≤i:=lg;clear hi hB hz h0;go_enter func111,ntmps111;go_wp2;go_ret;exact ⟨rfl,rfl⟩
 have aa:i≤9223372036854775807:=hi.2;clear hi;by_cases h2:n≤(z:Int) - i
 ·have hB:pg z i n=true:=bB.2 lg;rw [hB];have h3:0≤i:=lg;have h4:0≤n:=lg;clear hB h0 h1;go_enter func111,ntmps111;go_wp2;go_ret;exact ⟨rfl,rfl⟩
 ·have hB:pg z i n=false:=hO.2 lg;rw [hB];have h3:0≤i:=lg;have h4:0≤n:=lg;clear hB h0 h1;go_enter func111,ntmps111;go_wp2;go_ret;exact ⟨rfl,rfl⟩
def rr (w:zu) (E:Int) (S:ByteArray) (e:Aa) (w':zu):Prop:=
 ∃ r',e=zq (zw #[zp r',zm zn E])∧(E≠0→r'=none)∧(E=0→∃ b p L,r'=some ⟨b,0,none⟩∧n9 w' r' p L S)∧zo w w w'
theorem cH {E:Int} (hE:E≠0) (hb:zo w w w'):rr w E S (zq (zw #[zp none,zm zn E])) w':=⟨none,rfl,fun _=>rfl,fun h=>absurd h hE,hb⟩
theorem mI {b:Nat} (h:n9 w' (some ⟨b,0,none⟩) p L S) (hb:zo w w w'):rr w 0 S (zq (zw #[zp (some ⟨b,0,none⟩),zm zn 0])) w':=⟨_,rfl,fun h=>absurd rfl h,fun _=>⟨b,p,L,rfl,h⟩,hb⟩
set_option maxHeartbeats 1600000 in
theorem yS (h:n9 w r p L s) (hs:s.size≤4096) (hx:x.size≤Af) (hi:oi i) :
 zr prog 90 #[zp r,zm zn i,zv x] w (rr w (oj s i x) (s8 s i x)):=by
 have c1:=fun W (hW:zo w w W)=>wU (h.later hW);have c2:=oP (n:=0) (show s.size≤5000 by omega) hi;have c3:=fun W (hW:zo w w W)=>gY (h.later hW) hi;have c4:=dU x hx;by_cases hst:pg s.size i 0=false
 ·have hE:oj s i x=3:=by unfold oj;rw [if_pos hst]
  rw [hE];rw [hst] at c2;have C1:=zk c1;have C2:=zk c2;clear hE c1 c2 c3 c4 hst h hi hx hs;go_enter func90,ntmps90;go_wp2_with fail;refine (C1.out _ (zt _ _)).mono ?_;rintro e w1 ⟨rfl,aa⟩;have ab:=zk aa;clear aa;go_wp2_with fail;refine (C2.out _).mono ?_;rintro e w2 ⟨rfl,rfl⟩;go_wp2;go_ret2;exact cH lj ab.out
 have hst:=aO hst;rw [hst] at c2;by_cases he:me s.data.toList i=false
 ·have hE:oj s i x=4:=by unfold oj;rw [if_neg (by rw [hst];decide),if_pos he]
  rw [hE];rw [he] at c3;have C1:=zk c1;have C2:=zk c2;have C3:=zk c3;clear hE c1 c2 c3 c4 hst he h hi hx hs;go_enter func90,ntmps90;go_wp2_with fail;refine (C1.out _ (zt _ _)).mono ?_;rintro e w1 ⟨rfl,aa⟩;have ab:=zk aa;clear aa;go_wp2_with fail;refine (C2.out _).mono ?_;rintro e w2 ⟨rfl,rfl⟩;go_wp2_with fail;refine (mw ab.out (C3.out _ ab.out)).mono ?_;rintro e w3 ⟨rfl,ac⟩;have ae:=zk ac;clear ac;go_wp2;go_ret2;exact cH lj ae.out
 have he:=aO he;rw [he] at c3;by_cases hv:nx x.data.toList=false
 ·have hE:oj s i x=5:=by unfold oj;rw [if_neg (by rw [hst];decide),if_neg (by rw [he];decide),if_pos hv]
  rw [hE];rw [hv] at c4;have C1:=zk c1;have C2:=zk c2;have C3:=zk c3;have C4:=zk c4;clear hE c1 c2 c3 c4 hst he hv h hi hx hs;go_enter func90,ntmps90;go_wp2_with fail;refine (C1.out _ (zt _ _)).mono ?_;rintro e w1 ⟨rfl,aa⟩;have ab:=zk aa;clear aa;go_wp2_with fail;refine (C2.out _).mono ?_;rintro e w2 ⟨rfl,rfl⟩;go_wp2_with fail;refine (mw ab.out (C3.out _ ab.out)).mono ?_;rintro e w3 ⟨rfl,ac⟩;have ae:=zk ac;clear ac;go_wp2_with fail;refine (mw ae.out (C4.out _)).mono ?_;rintro e w4 ⟨rfl,ad⟩;have af:=zk ad;clear ad;go_wp2;go_ret2;exact cH lj af.out
 have hv:=aO hv;rw [hv] at c4;have hm:(x.size:Int)≤9223372036854775807:=by unfold Af at hx;omega
 have hs':(s.size:Int)≤4096:=lg;by_cases hl:4096<s.size+x.size
 ·have hE:oj s i x=6:=by unfold oj;rw [if_neg (by rw [hst];decide),if_neg (by rw [he];decide),if_neg (by rw [hv];decide),if_pos hl]
  rw [hE];have g1:(4096:Int) - (s.size:Int)<(x.size:Int):=lg;have C1:=zk c1;have C2:=zk c2;have C3:=zk c3;have C4:=zk c4;clear hE c1 c2 c3 c4 hst he hv h hi hx hs hl;go_enter func90,ntmps90;go_wp2_with fail;refine (C1.out _ (zt _ _)).mono ?_;rintro e w1 ⟨rfl,aa⟩;have ab:=zk aa;clear aa;go_wp2_with fail;refine (C2.out _).mono ?_;rintro e w2 ⟨rfl,rfl⟩;go_wp2_with fail;refine (mw ab.out (C3.out _ ab.out)).mono ?_;rintro e w3 ⟨rfl,ac⟩;have ae:=zk ac;clear ac;go_wp2_with fail;refine (mw ae.out (C4.out _)).mono ?_;rintro e w4 ⟨rfl,ad⟩;have af:=zk ad;clear ad;go_wp2_with fail;refine (mw af.out (C1.out _ af.out)).mono ?_;rintro e w5 ⟨rfl,ag⟩;have ah:=zk ag;clear ag;go_wp2;go_ret2;exact cH lj ah.out
 ·have hE:oj s i x=0:=by unfold oj;rw [if_neg (by rw [hst];decide),if_neg (by rw [he];decide),if_neg (by rw [hv];decide),if_neg hl]
  obtain ⟨b1,b2,b3⟩:=nN he;have c5:=fun W (hW:zo w w W)=>LR (h.later hW) hi hi ((bI _).1 hv) (by have:s.data.toList.length=s.size:=li;omega);rw [b1] at c5;have hS:s8 s i x=s.extract 0 i.toNat++x++s.extract i.toNat s.size:=by unfold s8;rw [hE,if_pos rfl]
  rw [← hS] at c5;rw [hE];obtain ⟨S,hSS⟩:∃ S,s8 s i x=S:=⟨_,rfl⟩;rw [hSS] at c5 ⊢;have g1:(x.size:Int)≤(4096:Int) - (s.size:Int):=lg;have C1:=zk c1;have C2:=zk c2;have C3:=zk c3;have C4:=zk c4;have C5:=zk c5;clear hE c1 c2 c3 c4 c5 hst he hv h hi hx hs hl b1 b2 b3 hS hSS;go_enter func90,ntmps90;go_wp2_with fail;refine (C1.out _ (zt _ _)).mono ?_;rintro e w1 ⟨rfl,aa⟩;have ab:=zk aa;clear aa;go_wp2_with fail;refine (C2.out _).mono ?_;rintro e w2 ⟨rfl,rfl⟩;go_wp2_with fail;refine (mw ab.out (C3.out _ ab.out)).mono ?_;rintro e w3 ⟨rfl,ac⟩;have ae:=zk ac;clear ac;go_wp2_with fail;refine (mw ae.out (C4.out _)).mono ?_;rintro e w4 ⟨rfl,ad⟩;have af:=zk ad;clear ad;go_wp2_with fail;refine (mw af.out (C1.out _ af.out)).mono ?_;rintro e w5 ⟨rfl,ag⟩;have ah:=zk ag;clear ag;go_wp2_with fail;refine (C5.out _ ah.out).mono ?_;rintro e w6 ⟨b,p',L',rfl,hR,ai⟩;have HR:=zk (mI hR (ah.out.trans (ai.mono ah.out.size)));clear hR ai;go_wp2;go_ret2;exact HR.out
set_option maxHeartbeats 1600000 in
theorem GZ (h:n9 w r p L s) (hs:s.size≤4096) (hi:oi i) :
 zr prog 147 #[zp r,zm zn i,zm zn n] w (rr w (pa s i n) (ux s i n)):=by
 have c1:=fun W (hW:zo w w W)=>wU (h.later hW);have c2:=oP (n:=n) (show s.size≤5000 by omega) hi;have c3:=fun W (hW:zo w w W)=>gY (h.later hW) hi;by_cases hst:pg s.size i n=false
 ·have hE:pa s i n=3:=by unfold pa;rw [if_pos hst]
  rw [hE];rw [hst] at c2;have C1:=zk c1;have C2:=zk c2;clear hE c1 c2 c3 hst h hi hs;go_enter func147,ntmps147;go_wp2_with fail;refine (C1.out _ (zt _ _)).mono ?_;rintro e w1 ⟨rfl,aa⟩;have ab:=zk aa;clear aa;go_wp2_with fail;refine (C2.out _).mono ?_;rintro e w2 ⟨rfl,rfl⟩;go_wp2;go_ret2;exact cH lj ab.out
 have hst:=aO hst;rw [hst] at c2;obtain ⟨d1,d2,d3⟩:=bB.1 hst;have hj:oi (i+n):=by unfold oi;omega
 have c4:=fun W (hW:zo w w W)=>gY (h.later hW) hj;by_cases he:me s.data.toList i=false
 ·have hE:pa s i n=4:=by unfold pa;rw [if_neg (by rw [hst];decide),if_pos (.inl he)]
  rw [hE];rw [he] at c3;have C1:=zk c1;have C2:=zk c2;have C3:=zk c3;clear hE c1 c2 c3 c4 hst he h hi hj hs d1 d2 d3;go_enter func147,ntmps147;go_wp2_with fail;refine (C1.out _ (zt _ _)).mono ?_;rintro e w1 ⟨rfl,aa⟩;have ab:=zk aa;clear aa;go_wp2_with fail;refine (C2.out _).mono ?_;rintro e w2 ⟨rfl,rfl⟩;go_wp2_with fail;refine (mw ab.out (C3.out _ ab.out)).mono ?_;rintro e w3 ⟨rfl,ac⟩;have ad:=zk ac;clear ac;go_wp2;go_ret2;exact cH lj ad.out
 have he:=aO he;rw [he] at c3;have g1:i+n≤4096:=lg;by_cases hf:me s.data.toList (i+n)=false
 ·have hE:pa s i n=4:=by unfold pa;rw [if_neg (by rw [hst];decide),if_pos (.inr hf)]
  rw [hE];rw [hf] at c4;have C1:=zk c1;have C2:=zk c2;have C3:=zk c3;have C4:=zk c4;clear hE c1 c2 c3 c4 hst he hf h hi hj hs d3;go_enter func147,ntmps147;go_wp2_with fail;refine (C1.out _ (zt _ _)).mono ?_;rintro e w1 ⟨rfl,aa⟩;have ab:=zk aa;clear aa;go_wp2_with fail;refine (C2.out _).mono ?_;rintro e w2 ⟨rfl,rfl⟩;go_wp2_with fail;refine (mw ab.out (C3.out _ ab.out)).mono ?_;rintro e w3 ⟨rfl,ac⟩;have ad:=zk ac;clear ac;go_wp2_with fail;refine (mw ad.out (C4.out _ ad.out)).mono ?_;rintro e w4 ⟨rfl,ae⟩;have af:=zk ae;clear ae;go_wp2;go_ret2;exact cH lj af.out
 ·have hf:=aO hf;have hE:pa s i n=0:=by
   unfold pa;rw [if_neg (by rw [hst];decide),if_neg];rintro (g|g)
   ·rw [he] at g;cases g
   ·rw [hf] at g;cases g
  obtain ⟨b1,b2,b3⟩:=nN he;obtain ⟨b4,b5,b6⟩:=nN hf;have c5:=fun W (hW:zo w w W)=>LR (x:=⟨#[]⟩) (h.later hW) hi hj hG (by rw [b1,b4];show i.toNat+0+_≤_;omega);rw [b1,b4] at c5;have hS:ux s i n=s.extract 0 i.toNat++⟨#[]⟩++s.extract (i+n).toNat s.size:=by unfold ux;rw [hE,if_pos rfl,pM _ ⟨#[]⟩ rfl]
  rw [← hS] at c5;rw [hE];obtain ⟨S,hSS⟩:∃ S,ux s i n=S:=⟨_,rfl⟩;rw [hSS] at c5 ⊢;rw [hf] at c4;have C1:=zk c1;have C2:=zk c2;have C3:=zk c3;have C4:=zk c4;have C5:=zk c5;clear hE c1 c2 c3 c4 c5 hst he hf h hi hj hs d3 b1 b2 b3 b4 b5 b6 hS hSS;go_enter func147,ntmps147;go_wp2_with fail;refine (C1.out _ (zt _ _)).mono ?_;rintro e w1 ⟨rfl,aa⟩;have ab:=zk aa;clear aa;go_wp2_with fail;refine (C2.out _).mono ?_;rintro e w2 ⟨rfl,rfl⟩;go_wp2_with fail;refine (mw ab.out (C3.out _ ab.out)).mono ?_;rintro e w3 ⟨rfl,ac⟩;have ad:=zk ac;clear ac;go_wp2_with fail;refine (mw ad.out (C4.out _ ad.out)).mono ?_;rintro e w4 ⟨rfl,ae⟩;have af:=zk ae;clear ae;go_wp2_with fail;refine (C5.out _ af.out).mono ?_;rintro e w5 ⟨b,p',L',rfl,hR,ag⟩;have HR:=zk (mI hR (af.out.trans (ag.mono af.out.size)));clear hR ag;go_wp2;go_ret2;exact HR.out
def ofE (s:ByteArray):Int:=if nx s.data.toList=false then 5 else if 4096<s.size then 6 else 0
theorem LI (s:ByteArray):oj ⟨#[]⟩ 0 s=ofE s∧(ofE s=0→s8 ⟨#[]⟩ 0 s=s):=by
 have h:oj ⟨#[]⟩ 0 s=ofE s:=by
  unfold oj ofE;rw [if_neg (by decide +kernel),if_neg (by decide +kernel)];have:(⟨#[]⟩:ByteArray).size+s.size=s.size:=by show 0+s.size=s.size;omega
  rw [this]
 refine ⟨h,fun h0=>?_⟩;unfold s8;rw [h,h0,if_pos rfl];apply aW;simp
set_option maxHeartbeats 800000 in
theorem EH (s:ByteArray) (hs:s.size≤Af) (w:zu):zr prog 55 #[zv s] w (rr w (ofE s) s):=by
 have aa:zo w w (w.alloc (.cells #[zp none] 130)):=(zt _ _).alloc (Ag _) _;have hR:n9 (w.alloc (.cells #[zp none] 130)) (some ⟨w,0,none⟩) none [] ⟨#[]⟩:=⟨.empty _,.inr ⟨_,rfl,li,(l6.new w _ _).cell 0 _ rfl⟩⟩;have ci:=yS hR (Ae _) hs (i:=0) (by unfold oi;omega);rw [(LI s).1] at ci;have ho:=(LI s).2;obtain ⟨E,hE⟩:∃ E,ofE s=E:=⟨_,rfl⟩;rw [hE] at ci ho ⊢;have HS:=zk ho;have CI:=zk ci;have HB:=zk aa;clear ci aa hR hs ho hE;go_enter func55,ntmps55;go_wp2_with fail;refine CI.out.mono ?_;rintro e w1 ⟨r',rfl,h1,h2,ab⟩;have HR:=zk (show rr w E s (zq (zw #[zp r',zm zn E])) w1 from ⟨r',rfl,h1,fun h0=>by
  obtain ⟨b,p,L,e,hh⟩:=h2 h0;rw [HS.out h0] at hh;exact ⟨b,p,L,e,hh⟩,HB.out.trans (ab.mono HB.out.size)⟩)
 clear h1 h2 ab;go_wp2;go_ret2;exact HR.out
set_option maxHeartbeats 800000 in
theorem MY (h:n9 w r p L s) {i m:Nat} (him:i+m≤s.size) :
 zr prog 148 #[zp r,zm zn i,zm zn m] w fun e w'=>e=zq (zw #[zv (s.extract i (i+m)),zm zn 0])∧zo w w w':=by
 have hsm:=h.x.small;have c1:=nR h;have c2:=oP (z:=s.size) (i:=i) (n:=m) hsm (by unfold oi;omega);rw [bB.2 lg] at c2;have h1:(0:Int)≤(i:Int)+(m:Int):=lg;have h2:(i:Int)+(m:Int)≤(s.size:Int):=lg;have h3:((i:Int)+(m:Int)).toNat=i+m:=lg;have h4:(i:Int)≤(i:Int)+(m:Int):=lg;have h5:(0:Int)≤(i:Int):=lg;have h6:(i:Int)≤(s.size:Int):=lg;have C1:=zk c1;have C2:=zk c2;clear c1 c2 h;go_enter func148,ntmps148;go_wp2_with fail;refine C1.out.mono ?_;rintro e w1 ⟨rfl,aa⟩;have ab:=zk aa;clear aa;go_wp2_with fail;refine (C2.out _).mono ?_;rintro e w2 ⟨rfl,rfl⟩;go_wp2;go_ret2;exact ⟨JI (by first|rfl|simp [h3]) rfl,ab.out⟩
theorem rr.yes {E:Int} {e:Aa} (h:rr w E S e w') (hE:E=0):∃ b p L,e=zq (zw #[zp (some ⟨b,0,none⟩),zm zn 0])∧n9 w' (some ⟨b,0,none⟩) p L S∧zo w w w':=by
 obtain ⟨r',he,-,h2,hb⟩:=h;obtain ⟨b,p,L,hr,hh⟩:=h2 hE;subst hr;subst hE;exact ⟨b,p,L,he,hh,hb⟩
theorem rr.no {E:Int} {e:Aa} (h:rr w E S e w') (hE:E≠0):e=zq (zw #[zp none,zm zn E])∧zo w w w':=by
 obtain ⟨r',he,h1,-,hb⟩:=h;rw [h1 hE] at he;exact ⟨he,hb⟩
theorem rC (hv:nx s.data.toList=true) (h:s.size≤4096):ofE s=0:=by unfold ofE;rw [if_neg (by rw [hv];decide),if_neg lg]
end Go.Proofs.YtbagenpobcgjnaaGreat
