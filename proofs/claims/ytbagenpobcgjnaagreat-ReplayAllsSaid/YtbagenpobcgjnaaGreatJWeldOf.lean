/-
  Joined: WeldOf, LawWeld, RopeDev, RopeRef, RopeIns, RopeSlice, LawRope.
-/
import Derived.Test.YtbagenpobcgjnaaGreatJWeldTogether
open And renaming intro->zj
open ByteArray renaming size_append->zp
open Go renaming Calls->ze,Ending->zn,Value->zk,World->zg,maxLen->zr
open Go.Ending renaming returned->zd
open Go.IntKind renaming i64->yx
open Go.Lib renaming hid->yv
open Go.RowKit renaming Below->yy
open Go.RowKit.Below renaming refl->zf
open Go.Value renaming int->yw,ownBlock->zv,pointer->yz,string->zh,tuple->zi
open Int renaming eq_ofNat_of_zero_le->zm
open List renaming length_append->zt
open Nat renaming le_refl->zs,le_trans->zu,lt_of_lt_of_le->zw,zero_le->zq
variable {S s x:ByteArray} {i n:Int} {L:List ByteArray} {p r:Option Go.Addr} {w w':Go.World}
namespace Go.Proofs.YtbagenpobcgjnaaGreat
open Go.Proofs.Tryz
set_option maxRecDepth 100000
open Lib (hid)
open Go.RowKit
set_option linter.unusedVariables false
set_option linter.unusedSimpArgs false
theorem ET {base b n size:Nat} {t T:TypeId} {v:zk} {xs:List zk} {cs:Array zk} (h:w.ownsRow base t size v n xs) (hb:l6 w b cs T) (hT:T≠t):some b≠v.ownBlock:=by
 intro e;rcases h.2 with ⟨rfl,-⟩|⟨g,cap,cur,rfl,-,hB,-⟩
 ·simp [zv] at e
 ·simp [zv] at e;subst e;unfold l6 at hb;rw [hB] at hb;simp at hb;exact hT hb.2.symm
structure OfI (w:zg) (M:List ByteArray) (v:zk) (K:List pg) (wr:zg):Prop where
 own:wr.ownsRow w 128 1 v M.length (ns K)
 fl:flat K=M
 len:K.length=M.length
 kids:∀ x∈K,l9 wr (tf w wr) 0 x.b x.L
 bel:yy w w wr
theorem OfI.grown {w wr w1 wm:zg} {M:List ByteArray} {v v':zk} {K:List pg} {s:ByteArray} {b:Nat} {o1:Obj} (I:OfI w M v K wr) (hf:qq s)
 (hb1:yy wr wr w1) (hlb:w≤b) (hB:l6 w1 b (kcs 1 s s s (.slice none 0 0)) 212)
 (h1:wm.ownsRow w 128 1 v' (M.length+1) (ns K++[pv b])) (g1:(w1.alloc o1).grownBy wm v.ownBlock) :
 OfI w (M++[s]) v' (K++[⟨b,[s]⟩]) wm:=by
 have hsz:=I.bel.size;have aa:=hb1.size;have e1:=g1.size;simp at e1;have q1:=cH I.own hb1;have hbel:yy w w wm:=((I.bel.trans (hb1.mono hsz)).alloc lf o1).grown g1 lq (aA q1);have step:∀ {x:Nat} {L:List ByteArray},l9 w1 (tf w w1) 0 x L→l9 wm (tf w wm) 0 x L:=by
  intro x L hx;obtain ⟨⟨hxo,hxl⟩,s',e,hf',hxB⟩:=hx;have k1:wm.heap[x]? = w1.heap[x]? :=(g1.block x lq (ET (q1.alloc o1) (hxB.alloc o1) li)).trans (Below.heap_alloc w1 o1 x hxl);exact ⟨⟨hxo,lf⟩,s',e,hf',k1.trans hxB⟩
 refine ⟨?_,by rw [od,dC,I.fl],by rw [zt,zt,I.len];rfl,fun x hx=>?_,hbel⟩
 ·rw [uA,zt];exact h1
 ·rcases List.mem_append.1 hx with q|q
  ·exact step (((I.kids x q).below hb1 fun i hi=>hi.2).weak fun i hi=>⟨hi.1,zw hi.2 aa⟩)
  ·rw [List.mem_singleton.1 q];exact step ⟨⟨hlb,hB.lt⟩,s,rfl,hf,hB⟩
def RetOf (s:ByteArray) (w:zg) (e:zn) (w':zg):Prop:=∃ p L,e=zd (yz p)∧Tr w' [] p L∧ms L∧(rp s.data.toList→lx L=s)∧(¬ rp s.data.toList→p=none)∧yy w w w'
set_option maxHeartbeats 1600000 in
theorem QR (s:ByteArray) (hs:s.size≤5000) (w:zg):ze prog 141 #[zh s] w (RetOf s w):=by
 obtain ⟨i0,hi,aj,ak,al⟩:=info_parts cW;have cc:=PJ s lf w;have CC:=yv cc;have HS:=yv hs;clear cc hs;go_enter func141,ntmps141;go_wp2_with fail;refine CC.out.mono ?_;rintro e w1 ⟨L,hL,-,a,c,rfl,hst,ae⟩;have hT:ms L∧(rp s.data.toList→lx L=s)∧(¬ rp s.data.toList→L=[]):=by
  rcases hL with ⟨v,h⟩|⟨v,h⟩
  ·exact ⟨(IK h v).1,fun _=>EW h,fun g=>absurd v g⟩
  ·subst h;exact ⟨aR,fun g=>absurd g v,fun _=>rfl⟩
 have hln:L.length≤600:=by
  have h1:=qV hT.1;have h2:(lx L).size≤5000:=by
   by_cases v:rp s.data.toList
   ·rw [hT.2.1 v];exact HS.out
   ·rw [hT.2.2 v];exact zq _
  omega
 obtain ⟨n,hn⟩:∃ n,L.length=n:=⟨_,rfl⟩;rw [hn] at hln ⊢;have HN:=yv hn;have HT:=yv hT;have am:=yv hst;have af:=yv ae;clear hn hT hst ae hL;go_wp2
 go_loopw [3,9] (fun u i wr=>∃ (k:Nat) (v:zk) (K:List pg),k≤n∧i=yw yx k∧v=u∧OfI w1 (L.take k) v K wr) (fun _ i _=>n - (intOf i).toNat)
 case atStart=>exact ⟨0,_,[],zq _,rfl,rfl,World.ownsRow_nil _ _ _ _,rfl,rfl,fun x hx=>absurd hx lh,zf _ _⟩
 case round =>
  obtain ⟨k,v,K,hk,rfl,rfl,hI⟩:=hrel;by_cases hlt:k<n
  ·have hkl:k<L.length:=by rw [HN.out];exact hlt
   obtain ⟨ad,rfl,hab,q0⟩:=(am.out.on hI.bel) k hkl;have hx:=eJ HT.out.1 L[k] (List.getElem_mem hkl);have hst:=List.take_succ_eq_append_getElem hkl;obtain ⟨x,hxx⟩:∃ x,L[k]=x:=⟨_,rfl⟩;rw [hxx] at q0 hx hst;have cl:=xD x (by have:=hx.2.1;unfold zr;omega) ((aQ x).2 hx);have o1:=hI.own;obtain ⟨M,hM⟩:∃ M,L.take k=M:=⟨_,rfl⟩;rw [hM] at hI o1 hst;obtain ⟨N,hN⟩:∃ N,M.length=N:=⟨_,rfl⟩;have av:N≤600:=by rw [← hN,← hM,List.length_take];omega
   have HG:=yv (fun b o1 w2 wm v'=>@OfI.grown w1 wr w2 wm M v v' K x b o1 hI hx);rw [hN] at o1 HG;have hsz:w1.heap.size≤wr:=hI.bel.size;have HI:=yv hI;have CL:=yv cl;have O1:=yv o1;have HX:=yv hst;have b1:(k:Int)<(n:Int):=lf;have b2:(0:Int)≤(k:Int):=lf;clear hI cl o1 hst hM hN hab hxx hx hkl;go_wp2_with fail;refine (CL.out wr).mono ?_;rintro e w2 ⟨bn,rfl,hbn,hB,ab⟩;have an:=yv (zu hsz hbn);have ao:=yv ab;have p1:=cH O1.out ab;have aq:w1.heap.size≤w2:=zu hsz ab.size;have ar:=yv hB;clear hbn hB ab;go_wp2_with (at_builtin;refine wpList_append_own _ rfl _ _ 206 rfl w1.heap.size 128 i0 (yz none) 1 8 underlying206 hi aj ak al rfl li _ _ _ rfl (p1.alloc _) ⟨w2,0,none⟩ 1 1 [pv bn] rfl rfl (bZ _ _ _) (eS _ rfl) ln lf (zu aq lh) ?_;intro v' wm ag ah _);have ai:=yv (HG.out bn _ w2 wm v' ao.out an.out ar.out ag ah);rw [← HX.out] at ai;clear ag ah p1;go_wp2;go_roundw
   case rel=>exact ⟨k+1,_,_,lf,by go_num,rfl,ai.out⟩
   case measure=>simp [intOf];omega
  ·obtain rfl:k=n:=lf;have e:L.take k=L:=List.take_of_length_le (by rw [HN.out];exact zs _);rw [e] at hI;have ho:=hI.own;rw [HN.out] at ho;have ac:=yv (fun W p (hp:Tr W [] p L) (hb:yy wr wr W)=>(show RetOf s w (zd (yz p)) W from ⟨p,L,rfl,hp,HT.out.1,HT.out.2.1,fun hv=>by
    rcases hp with ⟨h,-⟩|⟨b,h,-,kk⟩
    ·exact h
    ·exact absurd (HT.out.2.2 hv) kk.ne,af.out.trans ((hI.bel.trans (hb.mono hI.bel.size)).mono af.out.size)⟩))
   rcases Nat.eq_zero_or_pos k with rfl|h0
   ·have au:L=[]:=List.eq_nil_of_length_eq_zero HN.out;subst au;have hv:∃ a c,v=.slice a 0 c:=by
     rcases ho.2 with ⟨rfl,-⟩|⟨g,cap,cur,rfl,-⟩
     ·exact ⟨none,0,rfl⟩
     ·exact ⟨_,_,rfl⟩
    obtain ⟨a',c',rfl⟩:=hv;have cu:=zP (a:=a') (c:=c') wr;have CU:=yv cu;clear cu hI ho e;go_wp2_with fail;refine CU.out.mono ?_;rintro e w2 ⟨rfl,aa⟩;have HR:=yv (ac.out w2 none (.inl ⟨rfl,rfl⟩) aa);clear aa;go_wp2;go_ret;exact HR.out
   ·obtain ⟨g,c',rfl,hc,hg,hr⟩:=bH ho h0;have hlen:=hI.len;rw [HN.out] at hlen;have cu:=RE (lo:=w1.heap.size) (h:=0) (K:=K) (n:=k) (c:=c') hI.bel.size ⟨hlen,hr,hI.kids,fun i hi=>hi.2,li,by rw [hI.fl];have:=DP (eJ HT.out.1);rw [HN.out] at this;omega⟩ h0 lf hc;rw [hI.fl] at cu;have CU:=yv cu;clear cu hI ho e hr hg hlen;go_wp2_with fail;refine CU.out.mono ?_;rintro e w2 ⟨b,rfl,hk,aa⟩;have HR:=yv (ac.out w2 _ (.inr ⟨b,_,rfl,hk.weak fun i hi=>⟨hi.2,lh⟩⟩) aa);clear aa hk;go_wp2;go_ret;exact HR.out
structure si (w:zg) (p:Option Addr) (L:List ByteArray) (s:ByteArray):Prop where
 t:Tr w [] p L
 tight:ms L
 txt:lx L=s
 small:s.size≤5000
theorem si.later (h:si w p L s) (hb:yy w w w'):si w' p L s:=⟨h.t.later hb,h.tight,h.txt,h.small⟩
theorem si.len (h:si w p L s):L.length≤1000:=by
 have:=qV h.tight;have:=h.small;have:=h.txt;subst this;omega
theorem si.cases (x:si w p L s):(p=none∧L=[])∨∃ b h,p=some ⟨b,0,none⟩∧vu w h b L∧l9 w (pj [] w) h b L∧h≤12:=by
 rcases x.t with t|⟨b,h,e,k⟩
 ·exact .inl t
 ·exact .inr ⟨b,h,e,k.weak fun i hi=>hi.1,k,k.high (by rw [x.txt];have:=x.small;omega)⟩
theorem si.text (x:si w p L s):∀ W,yy w w W→ze prog 95 #[yz p] W fun e w'=>e=zd (zh s)∧yy W.heap.size W w':=fun W hW=>by
 have hl:=x.len;have hs:=x.small;have ht:=x.txt;rcases x.cases with ⟨rfl,rfl⟩|⟨b,h,rfl,k,-,hh⟩
 ·rw [← ht];exact GI (.inl ⟨rfl,rfl⟩)
 ·have:=MQ (k.on hW) lf lf (by rw [ht];omega);rwa [ht] at this
structure n7 (w:zg) (r p:Option Addr) (L:List ByteArray) (s:ByteArray):Prop where
 x:si w p L s
 at':(r=none∧p=none)∨∃ b,r=some ⟨b,0,none⟩∧b<w.heap.size∧w ⟨b,0,none⟩=some (yz p)
theorem n7.later (h:n7 w r p L s) (hb:yy w w w'):n7 w' r p L s:=by
 refine ⟨h.x.later hb,?_⟩;rcases h.at' with t|⟨b,e,hl,hc⟩
 ·exact .inl t
 ·exact .inr ⟨b,e,zw hl hb.size,(hb.cell (p:=⟨b,0,none⟩) hl).trans hc⟩
theorem si.empty (w:zg):si w none [] ⟨#[]⟩:=⟨.inl ⟨rfl,rfl⟩,aR,rfl,zq _⟩
theorem si.count (x:si w p L s):∀ W,yy w w W→ze prog 139 #[yz p] W fun e w'=>e=zd (cntV s.size (op s.data.toList) (oq s.data.toList))∧yy W.heap.size W w':=fun W hW=>by
 have ht:=x.txt;rcases x.cases with ⟨rfl,rfl⟩|⟨b,h,rfl,k,-,hh⟩
 ·rw [← ht];exact FB W
 ·obtain ⟨kv,-,hB⟩:=(vu.on k hW).cells;rw [← ht];exact rO hB
theorem sJ (l:List UInt8) (p:Int):mg l p=decide ((mi l p:Int)=p):=by
 unfold mg mi;by_cases h0:p<0
 ·rw [if_pos h0,decide_eq_false lf,decide_eq_false lf]
 ·rw [if_neg h0];by_cases h1:(l.length:Int)<p
  ·rw [if_pos h1,decide_eq_false (show ¬ (l.length:Int)=p by omega),decide_eq_false];rintro ⟨-,h⟩;unfold o9 at h;omega
  ·rw [if_neg h1];obtain ⟨k,rfl⟩:=zm (Int.not_lt.1 h0);rw [Int.toNat_natCast];by_cases he:o9 l k
   ·rw [dE l k he];simp [he]
   ·rw [decide_eq_false (show ¬ (0≤(k:Int)∧o9 l k) from fun g=>he g.2),decide_eq_false];intro g;have g':qt l k=k:=lf;exact he (g' ▸ iY l k)
theorem nB {l:List UInt8} {p:Int} (h:mg l p=true):mi l p=p.toNat∧0≤p∧p≤l.length:=by
 rw [sJ,decide_eq_true_eq] at h;have:=hO l p;omega
theorem qU (a b c:Int) (w:zg):(Instr.field 173 (cntV a b c) 0).run prog w=.ok (yw yx a) w:=lg
set_option maxHeartbeats 800000 in
theorem mZ (h:n7 w r p L s) :
 ze prog 94 #[yz r] w fun e w'=>e=zd (yz p)∧yy w w w':=by
 rcases h.at' with ⟨rfl,rfl⟩|⟨b,rfl,hl,hc⟩
 ·clear h;go_enter func94,ntmps94;go_wp2;go_ret;exact ⟨rfl,zf _ _⟩
 ·clear h;go_enter func94,ntmps94;go_wp2;go_ret;exact ⟨rfl,zf _ _⟩
set_option maxHeartbeats 800000 in
theorem nD (h:n7 w r p L s) :
 ze prog 59 #[yz r] w fun e w'=>e=zd (zh s)∧yy w w w':=by
 have c1:=mZ h;have c2:=h.x.text;have C1:=yv c1;have C2:=yv c2;clear c1 c2 h;go_enter func59,ntmps59;go_wp2_with fail;refine C1.out.mono ?_;rintro e w1 ⟨rfl,aa⟩;have ab:=yv aa;clear aa;go_wp2_with fail;refine (my ab.out (C2.out _ ab.out)).mono ?_;rintro e w2 ⟨rfl,ac⟩;go_wp2;go_ret;exact ⟨rfl,ac⟩
set_option maxHeartbeats 800000 in
theorem LO (h:n7 w r p L s) :
 ze prog 137 #[yz r] w fun e w'=>e=zd (cntV s.size (op s.data.toList) (oq s.data.toList))∧yy w w w':=by
 have aa:yy w w (w.alloc (.cells #[yw yx 0,yw yx 0,yw yx 0] 173)):=(zf _ _).alloc (zs _) _;have h1:=h.later aa;have c1:=mZ h1;have c2:=h1.x.count;obtain ⟨n,hn⟩:∃ n:Int,(s.size:Int)=n:=⟨_,rfl⟩;obtain ⟨x,hx⟩:∃ x:Int,(op s.data.toList:Int)=x:=⟨_,rfl⟩;obtain ⟨y,hy⟩:∃ y:Int,(oq s.data.toList:Int)=y:=⟨_,rfl⟩;rw [hn,hx,hy] at c2 ⊢;have C1:=yv c1;have C2:=yv c2;clear c1 c2 h h1 aa hn hx hy;go_enter func137,ntmps137;go_wp2_with fail;refine C1.out.mono ?_;rintro e w1 ⟨rfl,ab⟩;have ac:=yv ab;clear ab;go_wp2_with fail;refine (my ac.out (C2.out _ ac.out)).mono ?_;rintro e w2 ⟨rfl,ad⟩;have hN:l6 w2 w #[yw yx 0,yw yx 0,yw yx 0] 173:=(l6.new w _ _).onto ad;have g0:=hN.free 0;have g1:=hN.free 1;have g2:=hN.free 2;have d0:=hN.cell 0 _ rfl;have d1:=hN.cell 1 _ rfl;have d2:=hN.cell 2 _ rfl;have hlt:=hN.lt;go_wp2;refine bodyPost_ret (v:=cntV n x y) (by simp [results,results137,go_sem,g0,g1,g2,d0,d1,d2]) rfl ⟨rfl,?_⟩;exact gB (o:=.cells #[yw yx 0,yw yx 0,yw yx 0] 173) ad _ _ _
set_option maxHeartbeats 800000 in
theorem uE (h:n7 w r p L s) :
 ze prog 112 #[yz r] w fun e w'=>e=zd (yw yx s.size)∧yy w w w':=by
 have c1:=LO h;have cf:=qU s.size (op s.data.toList) (oq s.data.toList);obtain ⟨n,hn⟩:∃ n:Int,(s.size:Int)=n:=⟨_,rfl⟩;obtain ⟨x,hx⟩:∃ x:Int,(op s.data.toList:Int)=x:=⟨_,rfl⟩;obtain ⟨y,hy⟩:∃ y:Int,(oq s.data.toList:Int)=y:=⟨_,rfl⟩;rw [hn,hx,hy] at c1 cf;rw [hn];have C1:=yv c1;clear c1 h hn hx hy;go_enter func112,ntmps112;go_wp2_with fail;refine C1.out.mono ?_;rintro e w1 ⟨rfl,aa⟩;go_wp2;go_ret;exact ⟨rfl,aa⟩
abbrev aheadV (r:Option Addr):zk:=.func (.func 160) #[yz r] #[]
abbrev behindV (r:Option Addr):zk:=.func (.func 161) #[yz r] #[]
set_option maxHeartbeats 800000 in
theorem wA (r:Option Addr) (w:zg) :
 ze prog 138 #[yz r] w fun e w'=>e=zd (zi #[aheadV r,behindV r])∧w'=w:=by
 have hmf:∀ (fn:Fn) (first cap:Array zk) (w:zg),(Instr.makeFunc fn first cap).run prog w=.ok (.func fn first cap) w:=fun _ _ _ _=>rfl;go_enter func138,ntmps138;go_wp2;go_ret2;exact ⟨rfl,rfl⟩
set_option maxHeartbeats 800000 in
theorem tV {q:Int} (h:n7 w r p L s) (hq:o8 q) :
 ze prog 160 #[yz r,yw yx q] w (qr w (s.extract 0 (mi s.data.toList q))):=by
 have c1:=mZ h;have c2:∀ W,yy w w W→ze prog 187 #[yz p,yw yx q] W (vz W (s.extract 0 (mi s.data.toList q)) (s.extract (mi s.data.toList q) s.size)):=fun W hW=>by
  have y:=h.x.later hW;have:=sK y.t y.tight (by rw [y.txt];exact y.small) hq;rwa [y.txt] at this
 have C1:=yv c1;have C2:=yv c2;clear c1 c2 h;go_enter func160,ntmps160;go_wp2_with fail;refine C1.out.mono ?_;rintro e w1 ⟨rfl,ab⟩;have aa:=yv ab;clear ab;go_wp2_with fail;refine (C2.out _ aa.out).mono ?_;rintro e w2 ⟨p1,L1,p2,L2,rfl,t1,t2,h1,h2,x1,x2,ac⟩;have HR:=yv (show qr w (s.extract 0 (mi s.data.toList q)) (zd (yz p1)) w2 from ⟨p1,L1,rfl,t1,h1,x1,aa.out.trans (ac.mono aa.out.size)⟩);clear t1 t2 h1 h2 x1 x2 ac;go_wp2;go_ret;exact HR.out
set_option maxHeartbeats 800000 in
theorem IZ {q:Int} (h:n7 w r p L s) (hq:o8 q) :
 ze prog 161 #[yz r,yw yx q] w (qr w (s.extract (mi s.data.toList q) s.size)):=by
 have c1:=mZ h;have c2:∀ W,yy w w W→ze prog 187 #[yz p,yw yx q] W (vz W (s.extract 0 (mi s.data.toList q)) (s.extract (mi s.data.toList q) s.size)):=fun W hW=>by
  have y:=h.x.later hW;have:=sK y.t y.tight (by rw [y.txt];exact y.small) hq;rwa [y.txt] at this
 have C1:=yv c1;have C2:=yv c2;clear c1 c2 h;go_enter func161,ntmps161;go_wp2_with fail;refine C1.out.mono ?_;rintro e w1 ⟨rfl,ab⟩;have aa:=yv ab;clear ab;go_wp2_with fail;refine (C2.out _ aa.out).mono ?_;rintro e w2 ⟨p1,L1,p2,L2,rfl,t1,t2,h1,h2,x1,x2,ac⟩;have HR:=yv (show qr w (s.extract (mi s.data.toList q) s.size) (zd (yz p2)) w2 from ⟨p2,L2,rfl,t2,h2,x2,aa.out.trans (ac.mono aa.out.size)⟩);clear t1 t2 h1 h2 x1 x2 ac;go_wp2;go_ret;exact HR.out
set_option maxHeartbeats 800000 in
theorem gL {q:Int} (h:n7 w r p L s) (hq:o8 q) :
 ze prog 113 #[yz r,yw yx q] w fun e w'=>e=zd (.bool (mg s.data.toList q))∧yy w w w':=by
 have c1:=wA r w;have c2:=tV h hq;have hle:=hO s.data.toList q;have hlen:s.data.toList.length=s.size:=lh;have hz:=bF s (mi s.data.toList q) lf;have hsm:=h.x.small;rw [sJ];obtain ⟨n,hn⟩:∃ n,mi s.data.toList q=n:=⟨_,rfl⟩;rw [hn] at c2 hz hle ⊢;obtain ⟨t,ht⟩:∃ t,s.extract 0 n=t:=⟨_,rfl⟩;rw [ht] at c2 hz;have C1:=yv c1;have C2:=yv c2;have HZ:=yv hz;have ab:=yv (show n≤5000 by omega);clear c1 c2 hz h hle hlen hsm hn ht hq;go_enter func113,ntmps113;go_wp2_with fail;refine C1.out.mono ?_;rintro e w1 ⟨rfl,rfl⟩;go_wp2_with fail;refine C2.out.mono ?_;rintro e w2 ⟨p1,L1,rfl,t1,h1,x1,aa⟩;have c3:=(show si w2 p1 L1 t from ⟨t1,h1,x1,by have:=HZ.out;have:=ab.out;omega⟩).count w2 (zf _ _);rw [HZ.out] at c3;have cf:=qU n (op t.data.toList) (oq t.data.toList);obtain ⟨x,hx⟩:∃ x:Int,(op t.data.toList:Int)=x:=⟨_,rfl⟩;obtain ⟨y,hy⟩:∃ y:Int,(oq t.data.toList:Int)=y:=⟨_,rfl⟩;rw [hx,hy] at c3 cf;have C3:=yv c3;have ac:=yv aa;clear c3 t1 h1 x1 hx hy aa;go_wp2_with fail;refine (my ac.out C3.out).mono ?_;rintro e w3 ⟨rfl,ad⟩;go_wp2;go_ret;exact ⟨by first|rfl|exact aN rfl|(trace_state;exact aN (by simp [beq_eq_decide])),ad⟩
theorem si.made (t:Tr w [] p L) (hT:ms L) (h:lx L=s) (hs:s.size≤5000):si w p L s:=⟨t,hT,h,hs⟩
def RetPut (w:zg) (s:ByteArray) (e:zn) (w':zg):Prop:=∃ b p L,e=zd (yz (some ⟨b,0,none⟩))∧n7 w' (some ⟨b,0,none⟩) p L s∧yy w w w'
set_option maxHeartbeats 1600000 in
theorem JK {j:Int} (h:n7 w r p L s) (hi:o8 i) (hj:o8 j) (hx:rp x.data.toList) (hz:mi s.data.toList i+x.size+(s.size - mi s.data.toList j)≤5000) :
 ze prog 114 #[yz r,yw yx i,zh x,yw yx j] w (RetPut w (s.extract 0 (mi s.data.toList i)++x++s.extract (mi s.data.toList j) s.size)):=by
 have c1:=wA r w;have c2:=tV h hi;have c3:=QR x lf;have c4:=fun W (hW:yy w w W)=>IZ (h.later hW) hj;have hle:=hO s.data.toList i;have hlen:s.data.toList.length=s.size:=lh;have z1:=bF s (mi s.data.toList i) lf;have z2:=cL s (mi s.data.toList j);obtain ⟨u,hu⟩:∃ u,s.extract 0 (mi s.data.toList i)=u:=⟨_,rfl⟩;obtain ⟨v,hv⟩:∃ v,s.extract (mi s.data.toList j) s.size=v:=⟨_,rfl⟩;rw [hu] at c2 z1 ⊢;rw [hv] at c4 z2 ⊢;have hzz:u.size+x.size+v.size≤5000:=lf;have C1:=yv c1;have C2:=yv c2;have C3:=yv c3;have C4:=yv c4;have HZ:=yv hzz;have HX:=yv hx;clear c1 c2 c3 c4 hzz hx h hi hj hz hle hlen z1 z2 hu hv;go_enter func114,ntmps114;go_wp2_with fail;refine C1.out.mono ?_;rintro e w1 ⟨rfl,rfl⟩;go_wp2_with fail;refine C2.out.mono ?_;rintro e w2 ⟨p1,L1,rfl,t1,h1,x1,ah⟩;have aq:=yv (si.made t1 h1 x1 (by have:=HZ.out;omega));have ai:=yv ah;clear t1 h1 x1 ah;go_wp2_with fail;refine (C3.out _).mono ?_;rintro e w3 ⟨p2,L2,rfl,t2,h2,x2,-,ae⟩;have aa:=yv (si.made t2 h2 (x2 HX.out) (by have:=HZ.out;omega));have ab:=yv (aq.out.later ae);have aj:=yv (ai.out.trans (ae.mono ai.out.size));clear t2 h2 x2 ae;have cc:=gA ab.out.t aa.out.t ab.out.tight aa.out.tight (by rw [aL,ab.out.txt,aa.out.txt];have:=HZ.out;omega);rw [ab.out.txt,aa.out.txt] at cc;have CC:=yv cc;clear cc;go_wp2_with fail;refine CC.out.mono ?_;rintro e w4 ⟨p4,L4,rfl,t4,h4,x4,ak⟩;have ar:=yv (si.made t4 h4 x4 (by rw [zp];have:=HZ.out;omega));have af:=yv (aj.out.trans (ak.mono aj.out.size));clear t4 h4 x4 ak;go_wp2_with fail;refine (C4.out _ af.out).mono ?_;rintro e w5 ⟨p5,L5,rfl,t5,h5,x5,ag⟩;have ac:=yv (si.made t5 h5 x5 (by have:=HZ.out;omega));have ad:=yv (ar.out.later ag);have al:=yv (af.out.trans (ag.mono af.out.size));clear t5 h5 x5 ag;have cc:=gA ad.out.t ac.out.t ad.out.tight ac.out.tight (by rw [aL,ad.out.txt,ac.out.txt,zp];have:=HZ.out;omega);rw [ad.out.txt,ac.out.txt] at cc;have au:=yv cc;clear cc;go_wp2_with fail;refine au.out.mono ?_;rintro e w6 ⟨p6,L6,rfl,t6,h6,x6,am⟩;have av:=yv (si.made t6 h6 x6 (by rw [zp,zp];have:=HZ.out;omega));have an:=yv (al.out.trans (am.mono al.out.size));clear t6 h6 x6 am;go_wp2;go_ret;have ao:yy w6 w6 (w6.alloc (.cells #[yz p6] 130)):=(zf _ _).alloc (zs _) _;exact ⟨_,p6,L6,rfl,⟨av.out.later ao,.inr ⟨_,rfl,lh,(l6.new w6 _ _).cell 0 _ rfl⟩⟩,an.out.trans (ao.mono an.out.size)⟩
theorem aM {b:Bool} (h:¬ b=false):b=true:=by cases b with
 | false=>exact absurd rfl h
 | true=>rfl
def pi (z:Nat) (i n:Int):Bool:=decide (0≤i∧0≤n∧n≤(z:Int) - i)
def ol (s:ByteArray) (i:Int) (x:ByteArray):Int:=
 if pi s.size i 0=false then 3 else if mg s.data.toList i=false then 4 else if oa x.data.toList=false then 5 else if 4096<s.size+x.size then 6 else 0
def sv (s:ByteArray) (i:Int) (x:ByteArray):ByteArray:=if ol s i x=0 then s.extract 0 i.toNat++x++s.extract i.toNat s.size else ⟨#[]⟩
def pc (s:ByteArray) (i n:Int):Int:=
 if pi s.size i n=false then 3 else if mg s.data.toList i=false∨mg s.data.toList (i+n)=false then 4 else 0
def ui (s:ByteArray) (i n:Int):ByteArray:=if pc s i n=0 then s.extract 0 i.toNat++s.extract (i+n).toNat s.size else ⟨#[]⟩
theorem aZ {z:Nat}:pi z i n=true↔(0≤i∧0≤n∧n≤(z:Int) - i):=by unfold pi;rw [decide_eq_true_eq]
theorem iB {z:Nat}:pi z i n=false↔¬ (0≤i∧0≤n∧n≤(z:Int) - i):=by unfold pi;rw [decide_eq_false_iff_not]
theorem sP (h:ol s i x=0):pi s.size i 0=true∧mg s.data.toList i=true∧oa x.data.toList=true∧s.size+x.size≤4096:=by
 unfold ol at h;split at h
 ·cases h
 split at h
 ·cases h
 split at h
 ·cases h
 split at h
 ·cases h
 rename_i h1 h2 h3 h4
 exact ⟨by simpa using h1,by simpa using h2,by simpa using h3,lf⟩
theorem iG (h:pc s i n=0):pi s.size i n=true∧mg s.data.toList i=true∧mg s.data.toList (i+n)=true:=by
 unfold pc at h;split at h
 ·cases h
 split at h
 ·cases h
 rename_i h1 h2
 refine ⟨by simpa using h1,?_,?_⟩
 ·cases hh:mg s.data.toList i with
  | false=>exact absurd (.inl hh) h2
  | true=>rfl
 ·cases hh:mg s.data.toList (i+n) with
  | false=>exact absurd (.inr hh) h2
  | true=>rfl
theorem JL {a b:ByteArray} {c d:Int} (h1:a=b) (h2:c=d):zd (zi #[zh a,yw yx c])=zd (zi #[zh b,yw yx d]):=by rw [h1,h2]
set_option maxHeartbeats 800000 in
theorem FA (hs:s.size≤4096) (hi:o8 i) (h:pi s.size i n=false) (w:zg) :
 ze prog 100 #[zh s,yw yx i,yw yx n] w fun e w'=>e=zd (zi #[zh ⟨#[]⟩,yw yx 3])∧yy w w w':=by
 rw [iB] at h;unfold o8 at hi;by_cases h0:i<0
 ·clear h hi;go_enter func100,ntmps100;go_wp2;go_ret2;exact ⟨rfl,zf _ _⟩
 by_cases h1:n<0
 ·clear h hi;go_enter func100,ntmps100;go_wp2;go_ret2;exact ⟨rfl,zf _ _⟩
 by_cases h2:(s.size:Int)<i
 ·clear h hi;go_enter func100,ntmps100;go_wp2;go_ret2;exact ⟨rfl,zf _ _⟩
 have h3:(s.size:Int) - i<n:=lf;clear h;obtain ⟨k,rfl⟩:=zm (show 0≤i by omega);obtain ⟨m,rfl⟩:=zm (show 0≤n by omega);go_enter func100,ntmps100;go_wp2;go_ret2;exact ⟨rfl,zf _ _⟩
set_option maxHeartbeats 800000 in
theorem DF {k m:Nat} (hs:s.size≤4096) (h:k+m≤s.size) (w:zg) :
 ze prog 100 #[zh s,yw yx k,yw yx m] w fun e w'=>e=zd (zi #[zh (s.extract k (k+m)),yw yx 0])∧yy w w w':=by
 have h0:(0:Int)≤(k:Int):=lf;have h1:(0:Int)≤(m:Int):=lf;have h2:(k:Int)≤(s.size:Int):=lf;have h3:(m:Int)≤(s.size:Int) - (k:Int):=lf;have h4:((k:Int)+(m:Int))≤(s.size:Int):=lf;have h5:(k:Int)≤(k:Int)+(m:Int):=lf;have h6:((k:Int)+(m:Int)).toNat=k+m:=lf;have h7:(0:Int)≤(k:Int)+(m:Int):=lf;go_enter func100,ntmps100;go_wp2;go_ret2;exact ⟨JL (by simp [h6]) rfl,zf _ _⟩
theorem EF (hs:s.size≤4096) (hi:o8 i) (w:zg) :
 ze prog 100 #[zh s,yw yx i,yw yx n] w fun e w'=>(∃ t,e=zd (zi #[zh t,yw yx (if pi s.size i n=true then 0 else 3)]))∧yy w w w':=by
 by_cases h:pi s.size i n=true
 ·rw [if_pos h];obtain ⟨h1,h2,h3⟩:=aZ.1 h;obtain ⟨k,rfl⟩:=zm h1;obtain ⟨m,rfl⟩:=zm h2;exact (DF hs lf w).mono fun e w' ⟨h,hb⟩=>⟨⟨_,h⟩,hb⟩
 ·rw [if_neg h];exact (FA hs hi (Bool.eq_false_iff.2 h) w).mono fun e w' ⟨h,hb⟩=>⟨⟨_,h⟩,hb⟩
set_option maxHeartbeats 1600000 in
theorem wH (hs:s.size≤4096) (hx:x.size≤1000000) (hi:o8 i) (w:zg) :
 ze prog 70 #[zh s,yw yx i,zh x] w fun e w'=>e=zd (zi #[zh (sv s i x),yw yx (ol s i x)])∧yy w w w':=by
 by_cases hst:pi s.size i 0=false
 ·have hE:ol s i x=3:=by unfold ol;rw [if_pos hst]
  have hS:sv s i x=⟨#[]⟩:=by unfold sv;rw [hE,if_neg li]
  rw [hE,hS];rw [iB] at hst;clear hE hS;by_cases h0:i<0
  ·clear hst;go_enter func70,ntmps70;go_wp2;go_ret2;exact ⟨rfl,zf _ _⟩
  ·have h1:(s.size:Int)<i:=lf;clear hst;go_enter func70,ntmps70;go_wp2;go_ret2;exact ⟨rfl,zf _ _⟩
 have hst:=aM hst;obtain ⟨h1,-,h2⟩:=aZ.1 hst;obtain ⟨k,rfl⟩:=zm h1;have hk:k≤s.size:=lf;have g1:¬ (k:Int)<0:=lf;have g2:(k:Int)≤(s.size:Int):=lf;have g3:decide ((s.size:Int)<(k:Int))=false:=decide_eq_false lf;have g4:decide (s.size<k)=false:=decide_eq_false lf;have ce:=bO s ln k;have cv:=fU x lf;by_cases he:mg s.data.toList k=false
 ·have hE:ol s k x=4:=by unfold ol;rw [if_neg (by rw [hst];decide),if_pos he]
  have hS:sv s k x=⟨#[]⟩:=by unfold sv;rw [hE,if_neg li]
  rw [hE,hS];rw [he] at ce;have CE:=yv ce;clear hE hS ce cv he hst h1 h2;go_enter func70,ntmps70;go_wp2_with fail;refine (CE.out _).mono ?_;rintro e w1 ⟨rfl,rfl⟩;go_wp2;go_ret2;exact ⟨rfl,zf _ _⟩
 have he:=aM he;rw [he] at ce;by_cases hv:oa x.data.toList=false
 ·have hE:ol s k x=5:=by unfold ol;rw [if_neg (by rw [hst];decide),if_neg (by rw [he];decide),if_pos hv]
  have hS:sv s k x=⟨#[]⟩:=by unfold sv;rw [hE,if_neg li]
  rw [hE,hS];rw [hv] at cv;have CE:=yv ce;have CV:=yv cv;clear hE hS ce cv he hv hst h1 h2;go_enter func70,ntmps70;go_wp2_with fail;refine (CE.out _).mono ?_;rintro e w1 ⟨rfl,rfl⟩;go_wp2_with fail;refine (CV.out _).mono ?_;rintro e w2 ⟨rfl,aa⟩;go_wp2;go_ret2;exact ⟨rfl,aa⟩
 have hv:=aM hv;rw [hv] at cv;by_cases hl:4096<s.size+x.size
 ·have hE:ol s k x=6:=by unfold ol;rw [if_neg (by rw [hst];decide),if_neg (by rw [he];decide),if_neg (by rw [hv];decide),if_pos hl]
  have hS:sv s k x=⟨#[]⟩:=by unfold sv;rw [hE,if_neg li]
  rw [hE,hS];have g5:(4096:Int)<(s.size:Int)+(x.size:Int):=lf;have CE:=yv ce;have CV:=yv cv;clear hE hS ce cv he hv hst h1 h2;go_enter func70,ntmps70;go_wp2_with fail;refine (CE.out _).mono ?_;rintro e w1 ⟨rfl,rfl⟩;go_wp2_with fail;refine (CV.out _).mono ?_;rintro e w2 ⟨rfl,aa⟩;go_wp2;go_ret2;exact ⟨rfl,aa⟩
 ·have hE:ol s k x=0:=by unfold ol;rw [if_neg (by rw [hst];decide),if_neg (by rw [he];decide),if_neg (by rw [hv];decide),if_neg hl]
  have hS:sv s k x=s.extract 0 k++x++s.extract k s.size:=by unfold sv;rw [hE,if_pos rfl];rfl
  rw [hE,hS];have g5:(s.size:Int)+(x.size:Int)≤4096:=lf;have CE:=yv ce;have CV:=yv cv;clear hE hS ce cv he hv hst h1 h2;have y1:=bF s k hk;have y2:=cL s k;have y3:¬ 9223372036854775807<(s.extract 0 k).size+x.size:=by rw [y1];omega
  have y4:¬ 9223372036854775807<k+x.size:=lf;have y5:¬ 9223372036854775807<(s.extract 0 k++x).size+(s.extract k s.size).size:=by rw [zp,y1,y2];omega
  have y6:¬ 9223372036854775807<k+x.size+(s.size - k):=lf;have Y:=yv (zj y1 (zj y2 (zj y3 (zj y4 (zj y5 y6)))));clear y1 y2 y3 y4 y5 y6;go_enter func70,ntmps70;go_wp2_with fail;refine (CE.out _).mono ?_;rintro e w1 ⟨rfl,rfl⟩;go_wp2_with fail;refine (CV.out _).mono ?_;rintro e w2 ⟨rfl,aa⟩;have ab:=yv aa;clear aa;obtain ⟨y1,y2,y3,y4,y5,y6⟩:=Y.out;go_wp2_with fail;go_quiet (fail);clear y1 y2 y3 y4 y5 y6;go_wp2;go_ret2;exact ⟨rfl,aB ab.out _⟩
set_option maxHeartbeats 1600000 in
theorem xR (hs:s.size≤4096) (hi:o8 i) (w:zg) :
 ze prog 72 #[zh s,yw yx i,yw yx n] w fun e w'=>e=zd (zi #[zh (ui s i n),yw yx (pc s i n)])∧yy w w w':=by
 have cs:=EF (n:=n) hs hi;by_cases hst:pi s.size i n=false
 ·have hE:pc s i n=3:=by unfold pc;rw [if_pos hst]
  have hS:ui s i n=⟨#[]⟩:=by unfold ui;rw [hE,if_neg li]
  rw [hE,hS];rw [if_neg (by rw [hst];decide)] at cs;have CS:=yv cs;clear hE hS cs hst;go_enter func72,ntmps72;go_wp2_with fail;refine (CS.out _).mono ?_;rintro e w1 ⟨⟨t,rfl⟩,aa⟩;go_wp2;go_ret2;exact ⟨rfl,aa⟩
 have hst:=aM hst;rw [if_pos hst] at cs;obtain ⟨h1,h2,h3⟩:=aZ.1 hst;obtain ⟨k,rfl⟩:=zm h1;obtain ⟨m,rfl⟩:=zm h2;have hkm:k+m≤s.size:=lf;have ce1:=bO s ln k;have ce2:=bO s ln ((k+m:Nat):Int);have ekm:(k:Int)+(m:Int)=((k+m:Nat):Int):=lf;by_cases he:mg s.data.toList k=false
 ·have hE:pc s k m=4:=by unfold pc;rw [if_neg (by rw [hst];decide),if_pos (.inl he)]
  have hS:ui s k m=⟨#[]⟩:=by unfold ui;rw [hE,if_neg li]
  rw [hE,hS];rw [he] at ce1;have CS:=yv cs;have CE:=yv ce1;clear hE hS cs ce1 ce2 he hst h1 h2 h3 ekm;go_enter func72,ntmps72;go_wp2_with fail;refine (CS.out _).mono ?_;rintro e w1 ⟨⟨t,rfl⟩,aa⟩;have ab:=yv aa;clear aa;go_wp2_with fail;refine (CE.out _).mono ?_;rintro e w2 ⟨rfl,rfl⟩;go_wp2;go_ret2;exact ⟨rfl,ab.out⟩
 have he:=aM he;rw [he] at ce1;have hsl:(k:Int)+(m:Int)≤4096:=lf;by_cases hf:mg s.data.toList ((k+m:Nat):Int)=false
 ·have hE:pc s k m=4:=by unfold pc;rw [if_neg (by rw [hst];decide),if_pos (.inr (by rw [ekm];exact hf))]
  have hS:ui s k m=⟨#[]⟩:=by unfold ui;rw [hE,if_neg li]
  rw [hE,hS];rw [hf,← ekm] at ce2;have CS:=yv cs;have CE:=yv ce1;have ac:=yv ce2;clear hE hS cs ce1 ce2 he hf hst h1 h2 h3 ekm;go_enter func72,ntmps72;go_wp2_with fail;refine (CS.out _).mono ?_;rintro e w1 ⟨⟨t,rfl⟩,aa⟩;have ab:=yv aa;clear aa;go_wp2_with fail;refine (CE.out _).mono ?_;rintro e w2 ⟨rfl,rfl⟩;go_wp2_with fail;refine (ac.out _).mono ?_;rintro e w3 ⟨rfl,rfl⟩;go_wp2;go_ret2;exact ⟨rfl,ab.out⟩
 ·have hf:=aM hf;have hE:pc s k m=0:=by
   unfold pc;rw [if_neg (by rw [hst];decide),if_neg];rintro (g|g)
   ·rw [he] at g;cases g
   ·rw [ekm,hf] at g;cases g
  have hS:ui s k m=s.extract 0 k++s.extract (k+m) s.size:=by unfold ui;rw [hE,if_pos rfl,ekm];rfl
  rw [hE,hS];rw [hf,← ekm] at ce2;have CS:=yv cs;have CE:=yv ce1;have ac:=yv ce2;clear hE hS cs ce1 ce2 he hf hst h1 h2 h3 ekm;have y1:=bF s k lf;have y2:=cL s (k+m);have y3:¬ 9223372036854775807<(s.extract 0 k).size+(s.extract (k+m) s.size).size:=by rw [y1,y2];omega
  have y4:¬ 9223372036854775807<k+(s.size - (k+m)):=lf;have y5:(0:Int)≤(k:Int)+(m:Int):=lf;have y6:(k:Int)+(m:Int)≤(s.size:Int):=lf;have y7:((k:Int)+(m:Int)).toNat=k+m:=lf;have y8:(k:Int)≤(s.size:Int):=lf;have Y:=yv (zj y1 (zj y2 (zj y3 (zj y4 (zj y5 (zj y6 (zj y7 y8)))))));clear y1 y2 y3 y4 y5 y6 y7 y8;go_enter func72,ntmps72;go_wp2_with fail;refine (CS.out _).mono ?_;rintro e w1 ⟨⟨t,rfl⟩,aa⟩;have ab:=yv aa;clear aa;go_wp2_with fail;refine (CE.out _).mono ?_;rintro e w2 ⟨rfl,rfl⟩;go_wp2_with fail;refine (ac.out _).mono ?_;rintro e w3 ⟨rfl,rfl⟩;obtain ⟨y1,y2,y3,y4,y5,y6,y7,y8⟩:=Y.out;go_wp2_with fail;go_quiet (fail);clear y1 y2 y3 y4 y5 y6 y7 y8;go_wp2;go_ret2;exact ⟨rfl,aB ab.out _⟩
set_option maxHeartbeats 800000 in
theorem oC {z:Nat} (hz:z≤5000) (hi:o8 i) (w:zg) :
 ze prog 111 #[yw yx z,yw yx i,yw yx n] w fun e w'=>e=zd (.bool (pi z i n))∧w'=w:=by
 by_cases h0:i<0
 ·have hB:pi z i n=false:=iB.2 lf;rw [hB];clear hi hB hz;go_enter func111,ntmps111;go_wp2;go_ret;exact ⟨rfl,rfl⟩
 by_cases h1:n<0
 ·have hB:pi z i n=false:=iB.2 lf;rw [hB];have h2:0≤i:=lf;clear hi hB hz h0;go_enter func111,ntmps111;go_wp2;go_ret;exact ⟨rfl,rfl⟩
 have aa:i≤9223372036854775807:=hi.2;clear hi;by_cases h2:n≤(z:Int) - i
 ·have hB:pi z i n=true:=aZ.2 lf;rw [hB];have h3:0≤i:=lf;have h4:0≤n:=lf;clear hB h0 h1;go_enter func111,ntmps111;go_wp2;go_ret;exact ⟨rfl,rfl⟩
 ·have hB:pi z i n=false:=iB.2 lf;rw [hB];have h3:0≤i:=lf;have h4:0≤n:=lf;clear hB h0 h1;go_enter func111,ntmps111;go_wp2;go_ret;exact ⟨rfl,rfl⟩
def ru (w:zg) (E:Int) (S:ByteArray) (e:zn) (w':zg):Prop:=
 ∃ r',e=zd (zi #[yz r',yw yx E])∧(E≠0→r'=none)∧(E=0→∃ b p L,r'=some ⟨b,0,none⟩∧n7 w' r' p L S)∧yy w w w'
theorem bW {E:Int} (hE:E≠0) (hb:yy w w w'):ru w E S (zd (zi #[yz none,yw yx E])) w':=⟨none,rfl,fun _=>rfl,fun h=>absurd h hE,hb⟩
theorem mI {b:Nat} (h:n7 w' (some ⟨b,0,none⟩) p L S) (hb:yy w w w'):ru w 0 S (zd (zi #[yz (some ⟨b,0,none⟩),yw yx 0])) w':=⟨_,rfl,fun h=>absurd rfl h,fun _=>⟨b,p,L,rfl,h⟩,hb⟩
set_option maxHeartbeats 1600000 in
theorem wF (h:n7 w r p L s) (hs:s.size≤4096) (hx:x.size≤zr) (hi:o8 i) :
 ze prog 90 #[yz r,yw yx i,zh x] w (ru w (ol s i x) (sv s i x)):=by
 have c1:=fun W (hW:yy w w W)=>uE (h.later hW);have c2:=oC (n:=0) (show s.size≤5000 by omega) hi;have c3:=fun W (hW:yy w w W)=>gL (h.later hW) hi;have c4:=eC x hx;by_cases hst:pi s.size i 0=false
 ·have hE:ol s i x=3:=by unfold ol;rw [if_pos hst]
  rw [hE];rw [hst] at c2;have C1:=yv c1;have C2:=yv c2;clear hE c1 c2 c3 c4 hst h hi hx hs;go_enter func90,ntmps90;go_wp2_with fail;refine (C1.out _ (zf _ _)).mono ?_;rintro e w1 ⟨rfl,aa⟩;have ab:=yv aa;clear aa;go_wp2_with fail;refine (C2.out _).mono ?_;rintro e w2 ⟨rfl,rfl⟩;go_wp2;go_ret2;exact bW li ab.out
 have hst:=aM hst;rw [hst] at c2;by_cases he:mg s.data.toList i=false
 ·have hE:ol s i x=4:=by unfold ol;rw [if_neg (by rw [hst];decide),if_pos he]
  rw [hE];rw [he] at c3;have C1:=yv c1;have C2:=yv c2;have C3:=yv c3;clear hE c1 c2 c3 c4 hst he h hi hx hs;go_enter func90,ntmps90;go_wp2_with fail;refine (C1.out _ (zf _ _)).mono ?_;rintro e w1 ⟨rfl,aa⟩;have ab:=yv aa;clear aa;go_wp2_with fail;refine (C2.out _).mono ?_;rintro e w2 ⟨rfl,rfl⟩;go_wp2_with fail;refine (my ab.out (C3.out _ ab.out)).mono ?_;rintro e w3 ⟨rfl,ac⟩;have ae:=yv ac;clear ac;go_wp2;go_ret2;exact bW li ae.out
 have he:=aM he;rw [he] at c3;by_cases hv:oa x.data.toList=false
 ·have hE:ol s i x=5:=by unfold ol;rw [if_neg (by rw [hst];decide),if_neg (by rw [he];decide),if_pos hv]
  rw [hE];rw [hv] at c4;have C1:=yv c1;have C2:=yv c2;have C3:=yv c3;have C4:=yv c4;clear hE c1 c2 c3 c4 hst he hv h hi hx hs;go_enter func90,ntmps90;go_wp2_with fail;refine (C1.out _ (zf _ _)).mono ?_;rintro e w1 ⟨rfl,aa⟩;have ab:=yv aa;clear aa;go_wp2_with fail;refine (C2.out _).mono ?_;rintro e w2 ⟨rfl,rfl⟩;go_wp2_with fail;refine (my ab.out (C3.out _ ab.out)).mono ?_;rintro e w3 ⟨rfl,ac⟩;have ae:=yv ac;clear ac;go_wp2_with fail;refine (my ae.out (C4.out _)).mono ?_;rintro e w4 ⟨rfl,ad⟩;have af:=yv ad;clear ad;go_wp2;go_ret2;exact bW li af.out
 have hv:=aM hv;rw [hv] at c4;have hm:(x.size:Int)≤9223372036854775807:=by unfold zr at hx;omega
 have hs':(s.size:Int)≤4096:=lf;by_cases hl:4096<s.size+x.size
 ·have hE:ol s i x=6:=by unfold ol;rw [if_neg (by rw [hst];decide),if_neg (by rw [he];decide),if_neg (by rw [hv];decide),if_pos hl]
  rw [hE];have g1:(4096:Int) - (s.size:Int)<(x.size:Int):=lf;have C1:=yv c1;have C2:=yv c2;have C3:=yv c3;have C4:=yv c4;clear hE c1 c2 c3 c4 hst he hv h hi hx hs hl;go_enter func90,ntmps90;go_wp2_with fail;refine (C1.out _ (zf _ _)).mono ?_;rintro e w1 ⟨rfl,aa⟩;have ab:=yv aa;clear aa;go_wp2_with fail;refine (C2.out _).mono ?_;rintro e w2 ⟨rfl,rfl⟩;go_wp2_with fail;refine (my ab.out (C3.out _ ab.out)).mono ?_;rintro e w3 ⟨rfl,ac⟩;have ae:=yv ac;clear ac;go_wp2_with fail;refine (my ae.out (C4.out _)).mono ?_;rintro e w4 ⟨rfl,ad⟩;have af:=yv ad;clear ad;go_wp2_with fail;refine (my af.out (C1.out _ af.out)).mono ?_;rintro e w5 ⟨rfl,ag⟩;have ah:=yv ag;clear ag;go_wp2;go_ret2;exact bW li ah.out
 ·have hE:ol s i x=0:=by unfold ol;rw [if_neg (by rw [hst];decide),if_neg (by rw [he];decide),if_neg (by rw [hv];decide),if_neg hl]
  obtain ⟨b1,b2,b3⟩:=nB he;have c5:=fun W (hW:yy w w W)=>JK (h.later hW) hi hi ((bE _).1 hv) (by have:s.data.toList.length=s.size:=lh;omega);rw [b1] at c5;have hS:sv s i x=s.extract 0 i.toNat++x++s.extract i.toNat s.size:=by unfold sv;rw [hE,if_pos rfl]
  rw [← hS] at c5;rw [hE];obtain ⟨S,hSS⟩:∃ S,sv s i x=S:=⟨_,rfl⟩;rw [hSS] at c5 ⊢;have g1:(x.size:Int)≤(4096:Int) - (s.size:Int):=lf;have C1:=yv c1;have C2:=yv c2;have C3:=yv c3;have C4:=yv c4;have C5:=yv c5;clear hE c1 c2 c3 c4 c5 hst he hv h hi hx hs hl b1 b2 b3 hS hSS;go_enter func90,ntmps90;go_wp2_with fail;refine (C1.out _ (zf _ _)).mono ?_;rintro e w1 ⟨rfl,aa⟩;have ab:=yv aa;clear aa;go_wp2_with fail;refine (C2.out _).mono ?_;rintro e w2 ⟨rfl,rfl⟩;go_wp2_with fail;refine (my ab.out (C3.out _ ab.out)).mono ?_;rintro e w3 ⟨rfl,ac⟩;have ae:=yv ac;clear ac;go_wp2_with fail;refine (my ae.out (C4.out _)).mono ?_;rintro e w4 ⟨rfl,ad⟩;have af:=yv ad;clear ad;go_wp2_with fail;refine (my af.out (C1.out _ af.out)).mono ?_;rintro e w5 ⟨rfl,ag⟩;have ah:=yv ag;clear ag;go_wp2_with fail;refine (C5.out _ ah.out).mono ?_;rintro e w6 ⟨b,p',L',rfl,hR,ai⟩;have HR:=yv (mI hR (ah.out.trans (ai.mono ah.out.size)));clear hR ai;go_wp2;go_ret2;exact HR.out
set_option maxHeartbeats 1600000 in
theorem FD (h:n7 w r p L s) (hs:s.size≤4096) (hi:o8 i) :
 ze prog 147 #[yz r,yw yx i,yw yx n] w (ru w (pc s i n) (ui s i n)):=by
 have c1:=fun W (hW:yy w w W)=>uE (h.later hW);have c2:=oC (n:=n) (show s.size≤5000 by omega) hi;have c3:=fun W (hW:yy w w W)=>gL (h.later hW) hi;by_cases hst:pi s.size i n=false
 ·have hE:pc s i n=3:=by unfold pc;rw [if_pos hst]
  rw [hE];rw [hst] at c2;have C1:=yv c1;have C2:=yv c2;clear hE c1 c2 c3 hst h hi hs;go_enter func147,ntmps147;go_wp2_with fail;refine (C1.out _ (zf _ _)).mono ?_;rintro e w1 ⟨rfl,aa⟩;have ab:=yv aa;clear aa;go_wp2_with fail;refine (C2.out _).mono ?_;rintro e w2 ⟨rfl,rfl⟩;go_wp2;go_ret2;exact bW li ab.out
 have hst:=aM hst;rw [hst] at c2;obtain ⟨d1,d2,d3⟩:=aZ.1 hst;have hj:o8 (i+n):=by unfold o8;omega
 have c4:=fun W (hW:yy w w W)=>gL (h.later hW) hj;by_cases he:mg s.data.toList i=false
 ·have hE:pc s i n=4:=by unfold pc;rw [if_neg (by rw [hst];decide),if_pos (.inl he)]
  rw [hE];rw [he] at c3;have C1:=yv c1;have C2:=yv c2;have C3:=yv c3;clear hE c1 c2 c3 c4 hst he h hi hj hs d1 d2 d3;go_enter func147,ntmps147;go_wp2_with fail;refine (C1.out _ (zf _ _)).mono ?_;rintro e w1 ⟨rfl,aa⟩;have ab:=yv aa;clear aa;go_wp2_with fail;refine (C2.out _).mono ?_;rintro e w2 ⟨rfl,rfl⟩;go_wp2_with fail;refine (my ab.out (C3.out _ ab.out)).mono ?_;rintro e w3 ⟨rfl,ac⟩;have ad:=yv ac;clear ac;go_wp2;go_ret2;exact bW li ad.out
 have he:=aM he;rw [he] at c3;have g1:i+n≤4096:=lf;by_cases hf:mg s.data.toList (i+n)=false
 ·have hE:pc s i n=4:=by unfold pc;rw [if_neg (by rw [hst];decide),if_pos (.inr hf)]
  rw [hE];rw [hf] at c4;have C1:=yv c1;have C2:=yv c2;have C3:=yv c3;have C4:=yv c4;clear hE c1 c2 c3 c4 hst he hf h hi hj hs d3;go_enter func147,ntmps147;go_wp2_with fail;refine (C1.out _ (zf _ _)).mono ?_;rintro e w1 ⟨rfl,aa⟩;have ab:=yv aa;clear aa;go_wp2_with fail;refine (C2.out _).mono ?_;rintro e w2 ⟨rfl,rfl⟩;go_wp2_with fail;refine (my ab.out (C3.out _ ab.out)).mono ?_;rintro e w3 ⟨rfl,ac⟩;have ad:=yv ac;clear ac;go_wp2_with fail;refine (my ad.out (C4.out _ ad.out)).mono ?_;rintro e w4 ⟨rfl,ae⟩;have af:=yv ae;clear ae;go_wp2;go_ret2;exact bW li af.out
 ·have hf:=aM hf;have hE:pc s i n=0:=by
   unfold pc;rw [if_neg (by rw [hst];decide),if_neg];rintro (g|g)
   ·rw [he] at g;cases g
   ·rw [hf] at g;cases g
  obtain ⟨b1,b2,b3⟩:=nB he;obtain ⟨b4,b5,b6⟩:=nB hf;have c5:=fun W (hW:yy w w W)=>JK (x:=⟨#[]⟩) (h.later hW) hi hj gJ (by rw [b1,b4];show i.toNat+0+_≤_;omega);rw [b1,b4] at c5;have hS:ui s i n=s.extract 0 i.toNat++⟨#[]⟩++s.extract (i+n).toNat s.size:=by unfold ui;rw [hE,if_pos rfl,oL _ ⟨#[]⟩ rfl]
  rw [← hS] at c5;rw [hE];obtain ⟨S,hSS⟩:∃ S,ui s i n=S:=⟨_,rfl⟩;rw [hSS] at c5 ⊢;rw [hf] at c4;have C1:=yv c1;have C2:=yv c2;have C3:=yv c3;have C4:=yv c4;have C5:=yv c5;clear hE c1 c2 c3 c4 c5 hst he hf h hi hj hs d3 b1 b2 b3 b4 b5 b6 hS hSS;go_enter func147,ntmps147;go_wp2_with fail;refine (C1.out _ (zf _ _)).mono ?_;rintro e w1 ⟨rfl,aa⟩;have ab:=yv aa;clear aa;go_wp2_with fail;refine (C2.out _).mono ?_;rintro e w2 ⟨rfl,rfl⟩;go_wp2_with fail;refine (my ab.out (C3.out _ ab.out)).mono ?_;rintro e w3 ⟨rfl,ac⟩;have ad:=yv ac;clear ac;go_wp2_with fail;refine (my ad.out (C4.out _ ad.out)).mono ?_;rintro e w4 ⟨rfl,ae⟩;have af:=yv ae;clear ae;go_wp2_with fail;refine (C5.out _ af.out).mono ?_;rintro e w5 ⟨b,p',L',rfl,hR,ag⟩;have HR:=yv (mI hR (af.out.trans (ag.mono af.out.size)));clear hR ag;go_wp2;go_ret2;exact HR.out
def ofE (s:ByteArray):Int:=if oa s.data.toList=false then 5 else if 4096<s.size then 6 else 0
theorem JS (s:ByteArray):ol ⟨#[]⟩ 0 s=ofE s∧(ofE s=0→sv ⟨#[]⟩ 0 s=s):=by
 have h:ol ⟨#[]⟩ 0 s=ofE s:=by
  unfold ol ofE;rw [if_neg (by decide +kernel),if_neg (by decide +kernel)];have:(⟨#[]⟩:ByteArray).size+s.size=s.size:=by show 0+s.size=s.size;omega
  rw [this]
 refine ⟨h,fun h0=>?_⟩;unfold sv;rw [h,h0,if_pos rfl];apply aU;simp
set_option maxHeartbeats 800000 in
theorem EI (s:ByteArray) (hs:s.size≤zr) (w:zg):ze prog 55 #[zh s] w (ru w (ofE s) s):=by
 have aa:yy w w (w.alloc (.cells #[yz none] 130)):=(zf _ _).alloc (zs _) _;have hR:n7 (w.alloc (.cells #[yz none] 130)) (some ⟨w,0,none⟩) none [] ⟨#[]⟩:=⟨.empty _,.inr ⟨_,rfl,lh,(l6.new w _ _).cell 0 _ rfl⟩⟩;have ci:=wF hR (zq _) hs (i:=0) (by unfold o8;omega);rw [(JS s).1] at ci;have ho:=(JS s).2;obtain ⟨E,hE⟩:∃ E,ofE s=E:=⟨_,rfl⟩;rw [hE] at ci ho ⊢;have HS:=yv ho;have CI:=yv ci;have HB:=yv aa;clear ci aa hR hs ho hE;go_enter func55,ntmps55;go_wp2_with fail;refine CI.out.mono ?_;rintro e w1 ⟨r',rfl,h1,h2,ab⟩;have HR:=yv (show ru w E s (zd (zi #[yz r',yw yx E])) w1 from ⟨r',rfl,h1,fun h0=>by
  obtain ⟨b,p,L,e,hh⟩:=h2 h0;rw [HS.out h0] at hh;exact ⟨b,p,L,e,hh⟩,HB.out.trans (ab.mono HB.out.size)⟩)
 clear h1 h2 ab;go_wp2;go_ret2;exact HR.out
set_option maxHeartbeats 800000 in
theorem OE (h:n7 w r p L s) {i m:Nat} (him:i+m≤s.size) :
 ze prog 148 #[yz r,yw yx i,yw yx m] w fun e w'=>e=zd (zi #[zh (s.extract i (i+m)),yw yx 0])∧yy w w w':=by
 have hsm:=h.x.small;have c1:=nD h;have c2:=oC (z:=s.size) (i:=i) (n:=m) hsm (by unfold o8;omega);rw [aZ.2 lf] at c2;have h1:(0:Int)≤(i:Int)+(m:Int):=lf;have h2:(i:Int)+(m:Int)≤(s.size:Int):=lf;have h3:((i:Int)+(m:Int)).toNat=i+m:=lf;have h4:(i:Int)≤(i:Int)+(m:Int):=lf;have h5:(0:Int)≤(i:Int):=lf;have h6:(i:Int)≤(s.size:Int):=lf;have C1:=yv c1;have C2:=yv c2;clear c1 c2 h;go_enter func148,ntmps148;go_wp2_with fail;refine C1.out.mono ?_;rintro e w1 ⟨rfl,aa⟩;have ab:=yv aa;clear aa;go_wp2_with fail;refine (C2.out _).mono ?_;rintro e w2 ⟨rfl,rfl⟩;go_wp2;go_ret2;exact ⟨JL (by first|rfl|simp [h3]) rfl,ab.out⟩
theorem ru.yes {E:Int} {e:zn} (h:ru w E S e w') (hE:E=0):∃ b p L,e=zd (zi #[yz (some ⟨b,0,none⟩),yw yx 0])∧n7 w' (some ⟨b,0,none⟩) p L S∧yy w w w':=by
 obtain ⟨r',he,-,h2,hb⟩:=h;obtain ⟨b,p,L,hr,hh⟩:=h2 hE;subst hr;subst hE;exact ⟨b,p,L,he,hh,hb⟩
theorem ru.no {E:Int} {e:zn} (h:ru w E S e w') (hE:E≠0):e=zd (zi #[yz none,yw yx E])∧yy w w w':=by
 obtain ⟨r',he,h1,-,hb⟩:=h;rw [h1 hE] at he;exact ⟨he,hb⟩
theorem qN (hv:oa s.data.toList=true) (h:s.size≤4096):ofE s=0:=by unfold ofE;rw [if_neg (by rw [hv];decide),if_neg lf]
end Go.Proofs.YtbagenpobcgjnaaGreat
