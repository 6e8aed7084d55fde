/-
  Joined: WeldOf, LawWeld, RopeDev, RopeRef, RopeIns, RopeSlice, LawRope.
-/
import Derived.Test.YtbagenpobcgjnaaGreatJWeldTogether
import Derived.Test.YtbagenpobcgjnaaGreatJMarkRef
import Derived.Test.YtbagenpobcgjnaaGreatJChunkRef
import Derived.Test.YtbagenpobcgjnaaGreatJUtfRTake
import Derived.Deep.QuietTactic
import Derived.BigQuiet
variable {S s:ByteArray} {i n:Int} {L:List ByteArray} {p r:Option Go.Addr} {w w':Go.World}
namespace Go.Proofs.YtbagenpobcgjnaaGreat
open Go.Proofs.Tryz
set_option maxRecDepth 100000
open Lib (hid)
open Go.RowKit
set_option linter.unusedVariables false
set_option linter.unusedSimpArgs false
theorem zK {base b n size:Nat} {t T:TypeId} {v:Value} {xs:List Value} {cs:Array Value} (h:w.ownsRow base t size v n xs) (hb:Blk w b cs T) (hT:T≠t):some b≠v.ownBlock:=by
 intro e
 rcases h.2 with ⟨rfl,-⟩|⟨g,cap,cur,rfl,-,hB,-⟩
 ·simp [Value.ownBlock] at e
 ·simp [Value.ownBlock] at e
  subst e
  unfold Blk at hb
  rw [hB] at hb
  simp at hb
  exact hT hb.2.symm
structure OfI (w:World) (M:List ByteArray) (v:Value) (K:List Kid) (wr:World):Prop where
 own:wr.ownsRow w.heap.size 128 1 v M.length (ptrs K)
 fl:flat K=M
 len:K.length=M.length
 kids:∀ x∈K,KnotW wr (Since w.heap.size wr) 0 x.b x.L
 bel:Below w.heap.size w wr
theorem OfI.grown {w wr w1 wm:World} {M:List ByteArray} {v v':Value} {K:List Kid} {s:ByteArray} {b:Nat} {o1:Obj} (I:OfI w M v K wr) (hf:fitsP s)
 (hb1:Below wr.heap.size wr w1) (hlb:w.heap.size≤b) (hB:Blk w1 b (kcs 1 s s s (.slice none 0 0)) 212)
 (h1:wm.ownsRow w.heap.size 128 1 v' (M.length+1) (ptrs K++[pv b])) (g1:(w1.alloc o1).grownBy wm v.ownBlock) :
 OfI w (M++[s]) v' (K++[⟨b,[s]⟩]) wm:=by
 have hsz:=I.bel.size
 have aa:=hb1.size
 have e1:=g1.size
 simp at e1
 have q1:=bW I.own hb1
 have hbel:Below w.heap.size w wm:=((I.bel.trans (hb1.mono hsz)).alloc (by omega) o1).grown g1 (by simp;omega) (aM q1)
 have step:∀ {x:Nat} {L:List ByteArray},KnotW w1 (Since w.heap.size w1) 0 x L→KnotW wm (Since w.heap.size wm) 0 x L:=by
  intro x L hx
  obtain ⟨⟨hxo,hxl⟩,s',e,hf',hxB⟩:=hx
  have k1:wm.heap[x]? = w1.heap[x]? :=(g1.block x (by simp;omega) (zK (q1.alloc o1) (hxB.alloc o1) (by decide))).trans (Below.heap_alloc w1 o1 x hxl)
  exact ⟨⟨hxo,by omega⟩,s',e,hf',k1.trans hxB⟩
 refine ⟨?_,by rw [flat_app,cV,I.fl],by rw [List.length_append,List.length_append,I.len];rfl,fun x hx=>?_,hbel⟩
 ·rw [tY,List.length_append];exact h1
 ·rcases List.mem_append.1 hx with q|q
  ·exact step (((I.kids x q).below hb1 fun i hi=>hi.2).weak fun i hi=>⟨hi.1,Nat.lt_of_lt_of_le hi.2 aa⟩)
  ·rw [List.mem_singleton.1 q]
   exact step ⟨⟨hlb,hB.lt⟩,s,rfl,hf,hB⟩
def RetOf (s:ByteArray) (w:World) (e:Ending) (w':World):Prop:=∃ p L,e=.returned (.pointer p)∧Tr w' [] p L∧TightP L∧(vld s.data.toList→wholeL L=s)∧(¬ vld s.data.toList→p=none)∧Below w.heap.size w w'
set_option maxHeartbeats 1600000 in
theorem PB (s:ByteArray) (hs:s.size≤5000) (w:World):Calls prog 141 #[.string s] w (RetOf s w):=by
 obtain ⟨i0,hi,aj,ak,al⟩:=info_parts cJ
 have cc:=NK s (by omega) w
 have CC:=hid cc;have HS:=hid hs
 clear cc hs
 go_enter func141,ntmps141
 go_wp2_with fail
 refine CC.out.mono ?_;rintro e w1 ⟨L,hL,-,a,c,rfl,hst,ae⟩
 have hT:TightP L∧(vld s.data.toList→wholeL L=s)∧(¬ vld s.data.toList→L=[]):=by
  rcases hL with ⟨v,h⟩|⟨v,h⟩
  ·exact ⟨(FN h v).1,fun _=>DT h,fun g=>absurd v g⟩
  ·subst h;exact ⟨aQ,fun g=>absurd g v,fun _=>rfl⟩
 have hln:L.length≤600:=by
  have h1:=qA hT.1
  have h2:(wholeL L).size≤5000:=by
   by_cases v:vld s.data.toList
   ·rw [hT.2.1 v];exact HS.out
   ·rw [hT.2.2 v];exact Nat.zero_le _
  omega
 obtain ⟨n,hn⟩:∃ n,L.length=n:=⟨_,rfl⟩
 rw [hn] at hln ⊢
 have HN:=hid hn;have HT:=hid hT;have am:=hid hst;have af:=hid ae
 clear hn hT hst ae hL
 go_wp2
 go_loopw [3,9] (fun u i wr=>∃ (k:Nat) (v:Value) (K:List Kid),k≤n∧i=.int .i64 k∧v=u∧OfI w1 (L.take k) v K wr) (fun _ i _=>n - (intOf i).toNat)
 case atStart=>exact ⟨0,_,[],Nat.zero_le _,rfl,rfl,World.ownsRow_nil _ _ _ _,rfl,rfl,fun x hx=>absurd hx (by simp),Below.refl _ _⟩
 case round =>
  obtain ⟨k,v,K,hk,rfl,rfl,hI⟩:=hrel
  by_cases hlt:k<n
  ·have hkl:k<L.length:=by rw [HN.out];exact hlt
   obtain ⟨ad,rfl,hab,q0⟩:=(am.out.on hI.bel) k hkl
   have hx:=dU HT.out.1 L[k] (List.getElem_mem hkl)
   have hst:=List.take_succ_eq_append_getElem hkl
   obtain ⟨x,hxx⟩:∃ x,L[k]=x:=⟨_,rfl⟩
   rw [hxx] at q0 hx hst
   have cl:=uI x (by have:=hx.2.1;unfold maxLen;omega) ((aU x).2 hx)
   have o1:=hI.own
   obtain ⟨M,hM⟩:∃ M,L.take k=M:=⟨_,rfl⟩
   rw [hM] at hI o1 hst
   obtain ⟨N,hN⟩:∃ N,M.length=N:=⟨_,rfl⟩
   have av:N≤600:=by rw [← hN,← hM,List.length_take];omega
   have HG:=hid (fun b o1 w2 wm v'=>@OfI.grown w1 wr w2 wm M v v' K x b o1 hI hx)
   rw [hN] at o1 HG
   have hsz:w1.heap.size≤wr.heap.size:=hI.bel.size
   have HI:=hid hI;have CL:=hid cl;have O1:=hid o1;have HX:=hid hst
   have b1:(k:Int)<(n:Int):=by omega
   have b2:(0:Int)≤(k:Int):=by omega
   clear hI cl o1 hst hM hN hab hxx hx hkl
   go_wp2_with fail
   refine (CL.out wr).mono ?_;rintro e w2 ⟨bn,rfl,hbn,hB,ab⟩
   have an:=hid (Nat.le_trans hsz hbn)
   have ao:=hid ab
   have p1:=bW O1.out ab
   have aq:w1.heap.size≤w2.heap.size:=Nat.le_trans hsz ab.size
   have ar:=hid hB
   clear hbn hB ab
   go_wp2_with (at_builtin;refine wpList_append_own _ rfl _ _ 206 rfl w1.heap.size 128 i0 (.pointer none) 1 8 underlying206 hi aj ak al rfl (by decide) _ _ _ rfl (p1.alloc _) ⟨w2.heap.size,0,none⟩ 1 1 [pv bn] rfl rfl (bP _ _ _) (eH _ rfl) (by unfold maxLen;omega) (by omega) (Nat.le_trans aq (by simp)) ?_;intro v' wm ag ah _)
   have ai:=hid (HG.out bn _ w2 wm v' ao.out an.out ar.out ag ah)
   rw [← HX.out] at ai
   clear ag ah p1
   go_wp2
   go_roundw
   case rel=>exact ⟨k+1,_,_,by omega,by go_num,rfl,ai.out⟩
   case measure=>simp [intOf];omega
  ·obtain rfl:k=n:=by omega
   have e:L.take k=L:=List.take_of_length_le (by rw [HN.out];exact Nat.le_refl _)
   rw [e] at hI
   have ho:=hI.own
   rw [HN.out] at ho
   have ac:=hid (fun W p (hp:Tr W [] p L) (hb:Below wr.heap.size wr W)=>(show RetOf s w (.returned (.pointer p)) W from ⟨p,L,rfl,hp,HT.out.1,HT.out.2.1,fun hv=>by
    rcases hp with ⟨h,-⟩|⟨b,h,-,kk⟩
    ·exact h
    ·exact absurd (HT.out.2.2 hv) kk.ne,af.out.trans ((hI.bel.trans (hb.mono hI.bel.size)).mono af.out.size)⟩))
   rcases Nat.eq_zero_or_pos k with rfl|h0
   ·have au:L=[]:=List.eq_nil_of_length_eq_zero HN.out
    subst au
    have hv:∃ a c,v=.slice a 0 c:=by
     rcases ho.2 with ⟨rfl,-⟩|⟨g,cap,cur,rfl,-⟩
     ·exact ⟨none,0,rfl⟩
     ·exact ⟨_,_,rfl⟩
    obtain ⟨a',c',rfl⟩:=hv
    have cu:=xG (a:=a') (c:=c') wr
    have CU:=hid cu
    clear cu hI ho e
    go_wp2_with fail
    refine CU.out.mono ?_;rintro e w2 ⟨rfl,aa⟩
    have HR:=hid (ac.out w2 none (.inl ⟨rfl,rfl⟩) aa)
    clear aa
    go_wp2
    go_ret
    exact HR.out
   ·obtain ⟨g,c',rfl,hc,hg,hr⟩:=bF ho h0
    have hlen:=hI.len
    rw [HN.out] at hlen
    have cu:=PO (lo:=w1.heap.size) (h:=0) (K:=K) (n:=k) (c:=c') hI.bel.size ⟨hlen,hr,hI.kids,fun i hi=>hi.2,by decide,by rw [hI.fl];have:=yQ (dU HT.out.1);rw [HN.out] at this;omega⟩ h0 (by omega) hc
    rw [hI.fl] at cu
    have CU:=hid cu
    clear cu hI ho e hr hg hlen
    go_wp2_with fail
    refine CU.out.mono ?_;rintro e w2 ⟨b,rfl,hk,aa⟩
    have HR:=hid (ac.out w2 _ (.inr ⟨b,_,rfl,hk.weak fun i hi=>⟨hi.2,by simp⟩⟩) aa)
    clear aa hk
    go_wp2
    go_ret
    exact HR.out
structure Text (w:World) (p:Option Addr) (L:List ByteArray) (s:ByteArray):Prop where
 t:Tr w [] p L
 tight:TightP L
 txt:wholeL L=s
 small:s.size≤5000
theorem Text.later (h:Text w p L s) (hb:Below w.heap.size w w'):Text w' p L s:=⟨h.t.later hb,h.tight,h.txt,h.small⟩
theorem Text.len (h:Text w p L s):L.length≤1000:=by
 have:=qA h.tight
 have:=h.small
 have:=h.txt
 subst this
 omega
theorem Text.cases (x:Text w p L s):(p=none∧L=[])∨∃ b h,p=some ⟨b,0,none⟩∧KnotH w h b L∧KnotW w (Off [] w) h b L∧h≤12:=by
 rcases x.t with t|⟨b,h,e,k⟩
 ·exact .inl t
 ·exact .inr ⟨b,h,e,k.weak fun i hi=>hi.1,k,k.high (by rw [x.txt];have:=x.small;omega)⟩
theorem Text.text (x:Text w p L s):∀ W,Below w.heap.size w W→Calls prog 95 #[.pointer p] W fun e w'=>e=.returned (.string s)∧Below W.heap.size W w':=fun W hW=>by
 have hl:=x.len
 have hs:=x.small
 have ht:=x.txt
 rcases x.cases with ⟨rfl,rfl⟩|⟨b,h,rfl,k,-,hh⟩
 ·rw [← ht];exact EC (.inl ⟨rfl,rfl⟩)
 ·have:=KQ (k.on hW) (by omega) (by omega) (by rw [ht];omega)
  rwa [ht] at this
structure RopeW (w:World) (r p:Option Addr) (L:List ByteArray) (s:ByteArray):Prop where
 x:Text w p L s
 at':(r=none∧p=none)∨∃ b,r=some ⟨b,0,none⟩∧b<w.heap.size∧w.cell? ⟨b,0,none⟩=some (.pointer p)
theorem RopeW.later (h:RopeW w r p L s) (hb:Below w.heap.size w w'):RopeW w' r p L s:=by
 refine ⟨h.x.later hb,?_⟩
 rcases h.at' with t|⟨b,e,hl,hc⟩
 ·exact .inl t
 ·exact .inr ⟨b,e,Nat.lt_of_lt_of_le hl hb.size,(hb.cell (p:=⟨b,0,none⟩) hl).trans hc⟩
theorem Text.empty (w:World):Text w none [] ⟨#[]⟩:=⟨.inl ⟨rfl,rfl⟩,aQ,rfl,Nat.zero_le _⟩
theorem Text.count (x:Text w p L s):∀ W,Below w.heap.size w W→Calls prog 139 #[.pointer p] W fun e w'=>e=.returned (cntV s.size (runes s.data.toList) (lines s.data.toList))∧Below W.heap.size W w':=fun W hW=>by
 have ht:=x.txt
 rcases x.cases with ⟨rfl,rfl⟩|⟨b,h,rfl,k,-,hh⟩
 ·rw [← ht];exact DZ W
 ·obtain ⟨kv,-,hB⟩:=(KnotH.on k hW).cells
  rw [← ht];exact qY hB
theorem qH (l:List UInt8) (p:Int):edgeB l p=decide ((backI l p:Int)=p):=by
 unfold edgeB backI
 by_cases h0:p<0
 ·rw [if_pos h0,decide_eq_false (by omega),decide_eq_false (by omega)]
 ·rw [if_neg h0]
  by_cases h1:(l.length:Int)<p
  ·rw [if_pos h1,decide_eq_false (show ¬ (l.length:Int)=p by omega),decide_eq_false]
   rintro ⟨-,h⟩
   unfold edge at h
   omega
  ·rw [if_neg h1]
   obtain ⟨k,rfl⟩:=Int.eq_ofNat_of_zero_le (Int.not_lt.1 h0)
   rw [Int.toNat_natCast]
   by_cases he:edge l k
   ·rw [dE l k he];simp [he]
   ·rw [decide_eq_false (show ¬ (0≤(k:Int)∧edge l k) from fun g=>he g.2),decide_eq_false]
    intro g
    have g':back l k=k:=by omega
    exact he (g' ▸ gY l k)
theorem lT {l:List UInt8} {p:Int} (h:edgeB l p=true):backI l p=p.toNat∧0≤p∧p≤l.length:=by
 rw [qH,decide_eq_true_eq] at h
 have:=fV l p
 omega
theorem pT (a b c:Int) (w:World):(Instr.field 173 (cntV a b c) 0).run prog w=.ok (.int .i64 a) w:=by kernel_rfl
set_option maxHeartbeats 800000 in
theorem lG (h:RopeW w r p L s) :
 Calls prog 94 #[.pointer r] w fun e w'=>e=.returned (.pointer p)∧Below w.heap.size w w':=by
 rcases h.at' with ⟨rfl,rfl⟩|⟨b,rfl,hl,hc⟩
 ·clear h
  go_enter func94,ntmps94
  go_wp2
  go_ret
  exact ⟨rfl,Below.refl _ _⟩
 ·clear h
  go_enter func94,ntmps94
  go_wp2
  go_ret
  exact ⟨rfl,Below.refl _ _⟩
set_option maxHeartbeats 800000 in
theorem lE (h:RopeW w r p L s) :
 Calls prog 59 #[.pointer r] w fun e w'=>e=.returned (.string s)∧Below w.heap.size w w':=by
 have c1:=lG h
 have c2:=h.x.text
 have C1:=hid c1;have C2:=hid c2
 clear c1 c2 h
 go_enter func59,ntmps59
 go_wp2_with fail
 refine C1.out.mono ?_;rintro e w1 ⟨rfl,aa⟩
 have ab:=hid aa
 clear aa
 go_wp2_with fail
 refine (onward ab.out (C2.out _ ab.out)).mono ?_;rintro e w2 ⟨rfl,ac⟩
 go_wp2
 go_ret
 exact ⟨rfl,ac⟩
set_option maxHeartbeats 800000 in
theorem JG (h:RopeW w r p L s) :
 Calls prog 137 #[.pointer r] w fun e w'=>e=.returned (cntV s.size (runes s.data.toList) (lines s.data.toList))∧Below w.heap.size w w':=by
 have aa:Below w.heap.size w (w.alloc (.cells #[.int .i64 0,.int .i64 0,.int .i64 0] 173)):=(Below.refl _ _).alloc (Nat.le_refl _) _
 have h1:=h.later aa
 have c1:=lG h1
 have c2:=h1.x.count
 obtain ⟨n,hn⟩:∃ n:Int,(s.size:Int)=n:=⟨_,rfl⟩
 obtain ⟨x,hx⟩:∃ x:Int,(runes s.data.toList:Int)=x:=⟨_,rfl⟩
 obtain ⟨y,hy⟩:∃ y:Int,(lines s.data.toList:Int)=y:=⟨_,rfl⟩
 rw [hn,hx,hy] at c2 ⊢
 have C1:=hid c1;have C2:=hid c2
 clear c1 c2 h h1 aa hn hx hy
 go_enter func137,ntmps137
 go_wp2_with fail
 refine C1.out.mono ?_;rintro e w1 ⟨rfl,ab⟩
 have ac:=hid ab
 clear ab
 go_wp2_with fail
 refine (onward ac.out (C2.out _ ac.out)).mono ?_;rintro e w2 ⟨rfl,ad⟩
 have hN:Blk w2 w.heap.size #[.int .i64 0,.int .i64 0,.int .i64 0] 173:=(Blk.new w _ _).onto ad
 have g0:=hN.free 0
 have g1:=hN.free 1
 have g2:=hN.free 2
 have d0:=hN.cell 0 _ rfl
 have d1:=hN.cell 1 _ rfl
 have d2:=hN.cell 2 _ rfl
 have hlt:=hN.lt
 go_wp2
 refine bodyPost_ret (v:=cntV n x y) (by simp [results,results137,go_sem,g0,g1,g2,d0,d1,d2]) rfl ⟨rfl,?_⟩
 exact fP (o:=.cells #[.int .i64 0,.int .i64 0,.int .i64 0] 173) ad _ _ _
set_option maxHeartbeats 800000 in
theorem uZ (h:RopeW w r p L s) :
 Calls prog 112 #[.pointer r] w fun e w'=>e=.returned (.int .i64 s.size)∧Below w.heap.size w w':=by
 have c1:=JG h
 have cf:=pT s.size (runes s.data.toList) (lines s.data.toList)
 obtain ⟨n,hn⟩:∃ n:Int,(s.size:Int)=n:=⟨_,rfl⟩
 obtain ⟨x,hx⟩:∃ x:Int,(runes s.data.toList:Int)=x:=⟨_,rfl⟩
 obtain ⟨y,hy⟩:∃ y:Int,(lines s.data.toList:Int)=y:=⟨_,rfl⟩
 rw [hn,hx,hy] at c1 cf
 rw [hn]
 have C1:=hid c1
 clear c1 h hn hx hy
 go_enter func112,ntmps112
 go_wp2_with fail
 refine C1.out.mono ?_;rintro e w1 ⟨rfl,aa⟩
 go_wp2
 go_ret
 exact ⟨rfl,aa⟩
abbrev aheadV (r:Option Addr):Value:=.func (.func 160) #[.pointer r] #[]
abbrev behindV (r:Option Addr):Value:=.func (.func 161) #[.pointer r] #[]
set_option maxHeartbeats 800000 in
theorem uJ (r:Option Addr) (w:World) :
 Calls prog 138 #[.pointer r] w fun e w'=>e=.returned (.tuple #[aheadV r,behindV r])∧w'=w:=by
 have hmf:∀ (fn:Fn) (first cap:Array Value) (w:World),(Instr.makeFunc fn first cap).run prog w=.ok (.func fn first cap) w:=fun _ _ _ _=>rfl
 go_enter func138,ntmps138
 go_wp2
 go_ret2
 exact ⟨rfl,rfl⟩
set_option maxHeartbeats 800000 in
theorem tW {q:Int} (h:RopeW w r p L s) (hq:i64P q) :
 Calls prog 160 #[.pointer r,.int .i64 q] w (RetText w (s.extract 0 (backI s.data.toList q))):=by
 have c1:=lG h
 have c2:∀ W,Below w.heap.size w W→Calls prog 187 #[.pointer p,.int .i64 q] W (RetSplit W (s.extract 0 (backI s.data.toList q)) (s.extract (backI s.data.toList q) s.size)):=fun W hW=>by
  have y:=h.x.later hW
  have:=pW y.t y.tight (by rw [y.txt];exact y.small) hq
  rwa [y.txt] at this
 have C1:=hid c1;have C2:=hid c2
 clear c1 c2 h
 go_enter func160,ntmps160
 go_wp2_with fail
 refine C1.out.mono ?_;rintro e w1 ⟨rfl,ab⟩
 have aa:=hid ab
 clear ab
 go_wp2_with fail
 refine (C2.out _ aa.out).mono ?_;rintro e w2 ⟨p1,L1,p2,L2,rfl,t1,t2,h1,h2,x1,x2,ac⟩
 have HR:=hid (show RetText w (s.extract 0 (backI s.data.toList q)) (.returned (.pointer p1)) w2 from ⟨p1,L1,rfl,t1,h1,x1,aa.out.trans (ac.mono aa.out.size)⟩)
 clear t1 t2 h1 h2 x1 x2 ac
 go_wp2
 go_ret
 exact HR.out
set_option maxHeartbeats 800000 in
theorem DW {q:Int} (h:RopeW w r p L s) (hq:i64P q) :
 Calls prog 161 #[.pointer r,.int .i64 q] w (RetText w (s.extract (backI s.data.toList q) s.size)):=by
 have c1:=lG h
 have c2:∀ W,Below w.heap.size w W→Calls prog 187 #[.pointer p,.int .i64 q] W (RetSplit W (s.extract 0 (backI s.data.toList q)) (s.extract (backI s.data.toList q) s.size)):=fun W hW=>by
  have y:=h.x.later hW
  have:=pW y.t y.tight (by rw [y.txt];exact y.small) hq
  rwa [y.txt] at this
 have C1:=hid c1;have C2:=hid c2
 clear c1 c2 h
 go_enter func161,ntmps161
 go_wp2_with fail
 refine C1.out.mono ?_;rintro e w1 ⟨rfl,ab⟩
 have aa:=hid ab
 clear ab
 go_wp2_with fail
 refine (C2.out _ aa.out).mono ?_;rintro e w2 ⟨p1,L1,p2,L2,rfl,t1,t2,h1,h2,x1,x2,ac⟩
 have HR:=hid (show RetText w (s.extract (backI s.data.toList q) s.size) (.returned (.pointer p2)) w2 from ⟨p2,L2,rfl,t2,h2,x2,aa.out.trans (ac.mono aa.out.size)⟩)
 clear t1 t2 h1 h2 x1 x2 ac
 go_wp2
 go_ret
 exact HR.out
set_option maxHeartbeats 800000 in
theorem fS {q:Int} (h:RopeW w r p L s) (hq:i64P q) :
 Calls prog 113 #[.pointer r,.int .i64 q] w fun e w'=>e=.returned (.bool (edgeB s.data.toList q))∧Below w.heap.size w w':=by
 have c1:=uJ r w
 have c2:=tW h hq
 have hle:=fV s.data.toList q
 have hlen:s.data.toList.length=s.size:=by simp
 have hz:=cH s (backI s.data.toList q) (by omega)
 have hsm:=h.x.small
 rw [qH]
 obtain ⟨n,hn⟩:∃ n,backI s.data.toList q=n:=⟨_,rfl⟩
 rw [hn] at c2 hz hle ⊢
 obtain ⟨t,ht⟩:∃ t,s.extract 0 n=t:=⟨_,rfl⟩
 rw [ht] at c2 hz
 have C1:=hid c1;have C2:=hid c2;have HZ:=hid hz;have ab:=hid (show n≤5000 by omega)
 clear c1 c2 hz h hle hlen hsm hn ht hq
 go_enter func113,ntmps113
 go_wp2_with fail
 refine C1.out.mono ?_;rintro e w1 ⟨rfl,rfl⟩
 go_wp2_with fail
 refine C2.out.mono ?_;rintro e w2 ⟨p1,L1,rfl,t1,h1,x1,aa⟩
 have c3:=(show Text w2 p1 L1 t from ⟨t1,h1,x1,by have:=HZ.out;have:=ab.out;omega⟩).count w2 (Below.refl _ _)
 rw [HZ.out] at c3
 have cf:=pT n (runes t.data.toList) (lines t.data.toList)
 obtain ⟨x,hx⟩:∃ x:Int,(runes t.data.toList:Int)=x:=⟨_,rfl⟩
 obtain ⟨y,hy⟩:∃ y:Int,(lines t.data.toList:Int)=y:=⟨_,rfl⟩
 rw [hx,hy] at c3 cf
 have C3:=hid c3;have ac:=hid aa
 clear c3 t1 h1 x1 hx hy aa
 go_wp2_with fail
 refine (onward ac.out C3.out).mono ?_;rintro e w3 ⟨rfl,ad⟩
 go_wp2
 go_ret
 exact ⟨by first|rfl|exact aA rfl|(trace_state;exact aA (by simp [beq_eq_decide])),ad⟩
theorem Text.made (t:Tr w [] p L) (hT:TightP L) (h:wholeL L=s) (hs:s.size≤5000):Text w p L s:=⟨t,hT,h,hs⟩
def RetPut (w:World) (s:ByteArray) (e:Ending) (w':World):Prop:=∃ b p L,e=.returned (.pointer (some ⟨b,0,none⟩))∧RopeW w' (some ⟨b,0,none⟩) p L s∧Below w.heap.size w w'
set_option maxHeartbeats 1600000 in
theorem EK {x:ByteArray} {j:Int} (h:RopeW w r p L s) (hi:i64P i) (hj:i64P j) (hx:vld x.data.toList) (hz:backI s.data.toList i+x.size+(s.size - backI s.data.toList j)≤5000) :
 Calls prog 114 #[.pointer r,.int .i64 i,.string x,.int .i64 j] w (RetPut w (s.extract 0 (backI s.data.toList i)++x++s.extract (backI s.data.toList j) s.size)):=by
 have c1:=uJ r w
 have c2:=tW h hi
 have c3:=PB x (by omega)
 have c4:=fun W (hW:Below w.heap.size w W)=>DW (h.later hW) hj
 have hle:=fV s.data.toList i
 have hlen:s.data.toList.length=s.size:=by simp
 have z1:=cH s (backI s.data.toList i) (by omega)
 have z2:=dN s (backI s.data.toList j)
 obtain ⟨u,hu⟩:∃ u,s.extract 0 (backI s.data.toList i)=u:=⟨_,rfl⟩
 obtain ⟨v,hv⟩:∃ v,s.extract (backI s.data.toList j) s.size=v:=⟨_,rfl⟩
 rw [hu] at c2 z1 ⊢
 rw [hv] at c4 z2 ⊢
 have hzz:u.size+x.size+v.size≤5000:=by omega
 have C1:=hid c1;have C2:=hid c2;have C3:=hid c3;have C4:=hid c4;have HZ:=hid hzz;have HX:=hid hx
 clear c1 c2 c3 c4 hzz hx h hi hj hz hle hlen z1 z2 hu hv
 go_enter func114,ntmps114
 go_wp2_with fail
 refine C1.out.mono ?_;rintro e w1 ⟨rfl,rfl⟩
 go_wp2_with fail
 refine C2.out.mono ?_;rintro e w2 ⟨p1,L1,rfl,t1,h1,x1,ah⟩
 have aq:=hid (Text.made t1 h1 x1 (by have:=HZ.out;omega));have ai:=hid ah
 clear t1 h1 x1 ah
 go_wp2_with fail
 refine (C3.out _).mono ?_;rintro e w3 ⟨p2,L2,rfl,t2,h2,x2,-,ae⟩
 have aa:=hid (Text.made t2 h2 (x2 HX.out) (by have:=HZ.out;omega));have ab:=hid (aq.out.later ae);have aj:=hid (ai.out.trans (ae.mono ai.out.size))
 clear t2 h2 x2 ae
 have cc:=fM ab.out.t aa.out.t ab.out.tight aa.out.tight (by rw [aL,ab.out.txt,aa.out.txt];have:=HZ.out;omega)
 rw [ab.out.txt,aa.out.txt] at cc
 have CC:=hid cc
 clear cc
 go_wp2_with fail
 refine CC.out.mono ?_;rintro e w4 ⟨p4,L4,rfl,t4,h4,x4,ak⟩
 have ar:=hid (Text.made t4 h4 x4 (by rw [ByteArray.size_append];have:=HZ.out;omega));have af:=hid (aj.out.trans (ak.mono aj.out.size))
 clear t4 h4 x4 ak
 go_wp2_with fail
 refine (C4.out _ af.out).mono ?_;rintro e w5 ⟨p5,L5,rfl,t5,h5,x5,ag⟩
 have ac:=hid (Text.made t5 h5 x5 (by have:=HZ.out;omega));have ad:=hid (ar.out.later ag);have al:=hid (af.out.trans (ag.mono af.out.size))
 clear t5 h5 x5 ag
 have cc:=fM ad.out.t ac.out.t ad.out.tight ac.out.tight (by rw [aL,ad.out.txt,ac.out.txt,ByteArray.size_append];have:=HZ.out;omega)
 rw [ad.out.txt,ac.out.txt] at cc
 have au:=hid cc
 clear cc
 go_wp2_with fail
 refine au.out.mono ?_;rintro e w6 ⟨p6,L6,rfl,t6,h6,x6,am⟩
 have av:=hid (Text.made t6 h6 x6 (by rw [ByteArray.size_append,ByteArray.size_append];have:=HZ.out;omega));have an:=hid (al.out.trans (am.mono al.out.size))
 clear t6 h6 x6 am
 go_wp2
 go_ret
 have ao:Below w6.heap.size w6 (w6.alloc (.cells #[.pointer p6] 130)):=(Below.refl _ _).alloc (Nat.le_refl _) _
 exact ⟨_,p6,L6,rfl,⟨av.out.later ao,.inr ⟨_,rfl,by simp,(Blk.new w6 _ _).cell 0 _ rfl⟩⟩,an.out.trans (ao.mono an.out.size)⟩
theorem bV {b:Bool} (h:¬ b=false):b=true:=by cases b with
 | false=>exact absurd rfl h
 | true=>rfl
def standB (z:Nat) (i n:Int):Bool:=decide (0≤i∧0≤n∧n≤(z:Int) - i)
def insE (s:ByteArray) (i:Int) (x:ByteArray):Int:=
 if standB s.size i 0=false then 3 else if edgeB s.data.toList i=false then 4 else if vldB x.data.toList=false then 5 else if 4096<s.size+x.size then 6 else 0
def insS (s:ByteArray) (i:Int) (x:ByteArray):ByteArray:=if insE s i x=0 then s.extract 0 i.toNat++x++s.extract i.toNat s.size else ⟨#[]⟩
def delE (s:ByteArray) (i n:Int):Int:=
 if standB s.size i n=false then 3 else if edgeB s.data.toList i=false∨edgeB s.data.toList (i+n)=false then 4 else 0
def delS (s:ByteArray) (i n:Int):ByteArray:=if delE s i n=0 then s.extract 0 i.toNat++s.extract (i+n).toNat s.size else ⟨#[]⟩
theorem dC {z:Nat}:standB z i n=true↔(0≤i∧0≤n∧n≤(z:Int) - i):=by unfold standB;rw [decide_eq_true_eq]
theorem nL {z:Nat}:standB z i n=false↔¬ (0≤i∧0≤n∧n≤(z:Int) - i):=by unfold standB;rw [decide_eq_false_iff_not]
theorem FO {x:ByteArray} (h:insE s i x=0):standB s.size i 0=true∧edgeB s.data.toList i=true∧vldB x.data.toList=true∧s.size+x.size≤4096:=by
 unfold insE at h
 split at h
 ·cases h
 split at h
 ·cases h
 split at h
 ·cases h
 split at h
 ·cases h
 rename_i h1 h2 h3 h4
 exact ⟨by simpa using h1,by simpa using h2,by simpa using h3,by omega⟩
theorem kV (h:delE s i n=0):standB s.size i n=true∧edgeB s.data.toList i=true∧edgeB s.data.toList (i+n)=true:=by
 unfold delE at h
 split at h
 ·cases h
 split at h
 ·cases h
 rename_i h1 h2
 refine ⟨by simpa using h1,?_,?_⟩
 ·cases hh:edgeB s.data.toList i with
  | false=>exact absurd (.inl hh) h2
  | true=>rfl
 ·cases hh:edgeB s.data.toList (i+n) with
  | false=>exact absurd (.inr hh) h2
  | true=>rfl
theorem OL {a b:ByteArray} {c d:Int} (h1:a=b) (h2:c=d):Ending.returned (.tuple #[.string a,.int .i64 c])=.returned (.tuple #[.string b,.int .i64 d]):=by rw [h1,h2]
set_option maxHeartbeats 800000 in
theorem nJ {z:Nat} (hz:z≤5000) (hi:i64P i) (w:World) :
 Calls prog 111 #[.int .i64 z,.int .i64 i,.int .i64 n] w fun e w'=>e=.returned (.bool (standB z i n))∧w'=w:=by
 by_cases h0:i<0
 ·have hB:standB z i n=false:=nL.2 (by omega)
  rw [hB]
  clear hi hB hz
  go_enter func111,ntmps111
  go_wp2
  go_ret
  exact ⟨rfl,rfl⟩
 by_cases h1:n<0
 ·have hB:standB z i n=false:=nL.2 (by omega)
  rw [hB]
  have h2:0≤i:=by omega
  clear hi hB hz h0
  go_enter func111,ntmps111
  go_wp2
  go_ret
  exact ⟨rfl,rfl⟩
 have aa:i≤9223372036854775807:=hi.2
 clear hi
 by_cases h2:n≤(z:Int) - i
 ·have hB:standB z i n=true:=dC.2 (by omega)
  rw [hB]
  have h3:0≤i:=by omega
  have h4:0≤n:=by omega
  clear hB h0 h1
  go_enter func111,ntmps111
  go_wp2
  go_ret
  exact ⟨rfl,rfl⟩
 ·have hB:standB z i n=false:=nL.2 (by omega)
  rw [hB]
  have h3:0≤i:=by omega
  have h4:0≤n:=by omega
  clear hB h0 h1
  go_enter func111,ntmps111
  go_wp2
  go_ret
  exact ⟨rfl,rfl⟩
def RetRope (w:World) (E:Int) (S:ByteArray) (e:Ending) (w':World):Prop:=
 ∃ r',e=.returned (.tuple #[.pointer r',.int .i64 E])∧(E≠0→r'=none)∧(E=0→∃ b p L,r'=some ⟨b,0,none⟩∧RopeW w' r' p L S)∧Below w.heap.size w w'
theorem bQ {E:Int} (hE:E≠0) (hb:Below w.heap.size w w'):RetRope w E S (.returned (.tuple #[.pointer none,.int .i64 E])) w':=⟨none,rfl,fun _=>rfl,fun h=>absurd h hE,hb⟩
theorem jT {b:Nat} (h:RopeW w' (some ⟨b,0,none⟩) p L S) (hb:Below w.heap.size w w'):RetRope w 0 S (.returned (.tuple #[.pointer (some ⟨b,0,none⟩),.int .i64 0])) w':=⟨_,rfl,fun h=>absurd rfl h,fun _=>⟨b,p,L,rfl,h⟩,hb⟩
set_option maxHeartbeats 1600000 in
theorem sY {x:ByteArray} (h:RopeW w r p L s) (hs:s.size≤4096) (hx:x.size≤maxLen) (hi:i64P i) :
 Calls prog 90 #[.pointer r,.int .i64 i,.string x] w (RetRope w (insE s i x) (insS s i x)):=by
 have c1:=fun W (hW:Below w.heap.size w W)=>uZ (h.later hW)
 have c2:=nJ (n:=0) (show s.size≤5000 by omega) hi
 have c3:=fun W (hW:Below w.heap.size w W)=>fS (h.later hW) hi
 have c4:=dB x hx
 by_cases hst:standB s.size i 0=false
 ·have hE:insE s i x=3:=by unfold insE;rw [if_pos hst]
  rw [hE]
  rw [hst] at c2
  have C1:=hid c1;have C2:=hid c2
  clear hE c1 c2 c3 c4 hst h hi hx hs
  go_enter func90,ntmps90
  go_wp2_with fail
  refine (C1.out _ (Below.refl _ _)).mono ?_;rintro e w1 ⟨rfl,aa⟩
  have ab:=hid aa
  clear aa
  go_wp2_with fail
  refine (C2.out _).mono ?_;rintro e w2 ⟨rfl,rfl⟩
  go_wp2
  go_ret2
  exact bQ (by decide) ab.out
 have hst:=bV hst
 rw [hst] at c2
 by_cases he:edgeB s.data.toList i=false
 ·have hE:insE s i x=4:=by unfold insE;rw [if_neg (by rw [hst];decide),if_pos he]
  rw [hE]
  rw [he] at c3
  have C1:=hid c1;have C2:=hid c2;have C3:=hid c3
  clear hE c1 c2 c3 c4 hst he h hi hx hs
  go_enter func90,ntmps90
  go_wp2_with fail
  refine (C1.out _ (Below.refl _ _)).mono ?_;rintro e w1 ⟨rfl,aa⟩
  have ab:=hid aa
  clear aa
  go_wp2_with fail
  refine (C2.out _).mono ?_;rintro e w2 ⟨rfl,rfl⟩
  go_wp2_with fail
  refine (onward ab.out (C3.out _ ab.out)).mono ?_;rintro e w3 ⟨rfl,ac⟩
  have ae:=hid ac
  clear ac
  go_wp2
  go_ret2
  exact bQ (by decide) ae.out
 have he:=bV he
 rw [he] at c3
 by_cases hv:vldB x.data.toList=false
 ·have hE:insE s i x=5:=by unfold insE;rw [if_neg (by rw [hst];decide),if_neg (by rw [he];decide),if_pos hv]
  rw [hE]
  rw [hv] at c4
  have C1:=hid c1;have C2:=hid c2;have C3:=hid c3;have C4:=hid c4
  clear hE c1 c2 c3 c4 hst he hv h hi hx hs
  go_enter func90,ntmps90
  go_wp2_with fail
  refine (C1.out _ (Below.refl _ _)).mono ?_;rintro e w1 ⟨rfl,aa⟩
  have ab:=hid aa
  clear aa
  go_wp2_with fail
  refine (C2.out _).mono ?_;rintro e w2 ⟨rfl,rfl⟩
  go_wp2_with fail
  refine (onward ab.out (C3.out _ ab.out)).mono ?_;rintro e w3 ⟨rfl,ac⟩
  have ae:=hid ac
  clear ac
  go_wp2_with fail
  refine (onward ae.out (C4.out _)).mono ?_;rintro e w4 ⟨rfl,ad⟩
  have af:=hid ad
  clear ad
  go_wp2
  go_ret2
  exact bQ (by decide) af.out
 have hv:=bV hv
 rw [hv] at c4
 have hm:(x.size:Int)≤9223372036854775807:=by unfold maxLen at hx;omega
 have hs':(s.size:Int)≤4096:=by omega
 by_cases hl:4096<s.size+x.size
 ·have hE:insE s i x=6:=by unfold insE;rw [if_neg (by rw [hst];decide),if_neg (by rw [he];decide),if_neg (by rw [hv];decide),if_pos hl]
  rw [hE]
  have g1:(4096:Int) - (s.size:Int)<(x.size:Int):=by omega
  have C1:=hid c1;have C2:=hid c2;have C3:=hid c3;have C4:=hid c4
  clear hE c1 c2 c3 c4 hst he hv h hi hx hs hl
  go_enter func90,ntmps90
  go_wp2_with fail
  refine (C1.out _ (Below.refl _ _)).mono ?_;rintro e w1 ⟨rfl,aa⟩
  have ab:=hid aa
  clear aa
  go_wp2_with fail
  refine (C2.out _).mono ?_;rintro e w2 ⟨rfl,rfl⟩
  go_wp2_with fail
  refine (onward ab.out (C3.out _ ab.out)).mono ?_;rintro e w3 ⟨rfl,ac⟩
  have ae:=hid ac
  clear ac
  go_wp2_with fail
  refine (onward ae.out (C4.out _)).mono ?_;rintro e w4 ⟨rfl,ad⟩
  have af:=hid ad
  clear ad
  go_wp2_with fail
  refine (onward af.out (C1.out _ af.out)).mono ?_;rintro e w5 ⟨rfl,ag⟩
  have ah:=hid ag
  clear ag
  go_wp2
  go_ret2
  exact bQ (by decide) ah.out
 ·have hE:insE s i x=0:=by unfold insE;rw [if_neg (by rw [hst];decide),if_neg (by rw [he];decide),if_neg (by rw [hv];decide),if_neg hl]
  obtain ⟨b1,b2,b3⟩:=lT he
  have c5:=fun W (hW:Below w.heap.size w W)=>EK (h.later hW) hi hi ((bC _).1 hv) (by have:s.data.toList.length=s.size:=(by simp);omega)
  rw [b1] at c5
  have hS:insS s i x=s.extract 0 i.toNat++x++s.extract i.toNat s.size:=by unfold insS;rw [hE,if_pos rfl]
  rw [← hS] at c5
  rw [hE]
  obtain ⟨S,hSS⟩:∃ S,insS s i x=S:=⟨_,rfl⟩
  rw [hSS] at c5 ⊢
  have g1:(x.size:Int)≤(4096:Int) - (s.size:Int):=by omega
  have C1:=hid c1;have C2:=hid c2;have C3:=hid c3;have C4:=hid c4;have C5:=hid c5
  clear hE c1 c2 c3 c4 c5 hst he hv h hi hx hs hl b1 b2 b3 hS hSS
  go_enter func90,ntmps90
  go_wp2_with fail
  refine (C1.out _ (Below.refl _ _)).mono ?_;rintro e w1 ⟨rfl,aa⟩
  have ab:=hid aa
  clear aa
  go_wp2_with fail
  refine (C2.out _).mono ?_;rintro e w2 ⟨rfl,rfl⟩
  go_wp2_with fail
  refine (onward ab.out (C3.out _ ab.out)).mono ?_;rintro e w3 ⟨rfl,ac⟩
  have ae:=hid ac
  clear ac
  go_wp2_with fail
  refine (onward ae.out (C4.out _)).mono ?_;rintro e w4 ⟨rfl,ad⟩
  have af:=hid ad
  clear ad
  go_wp2_with fail
  refine (onward af.out (C1.out _ af.out)).mono ?_;rintro e w5 ⟨rfl,ag⟩
  have ah:=hid ag
  clear ag
  go_wp2_with fail
  refine (C5.out _ ah.out).mono ?_;rintro e w6 ⟨b,p',L',rfl,hR,ai⟩
  have HR:=hid (jT hR (ah.out.trans (ai.mono ah.out.size)))
  clear hR ai
  go_wp2
  go_ret2
  exact HR.out
set_option maxHeartbeats 1600000 in
theorem EY (h:RopeW w r p L s) (hs:s.size≤4096) (hi:i64P i) :
 Calls prog 147 #[.pointer r,.int .i64 i,.int .i64 n] w (RetRope w (delE s i n) (delS s i n)):=by
 have c1:=fun W (hW:Below w.heap.size w W)=>uZ (h.later hW)
 have c2:=nJ (n:=n) (show s.size≤5000 by omega) hi
 have c3:=fun W (hW:Below w.heap.size w W)=>fS (h.later hW) hi
 by_cases hst:standB s.size i n=false
 ·have hE:delE s i n=3:=by unfold delE;rw [if_pos hst]
  rw [hE]
  rw [hst] at c2
  have C1:=hid c1;have C2:=hid c2
  clear hE c1 c2 c3 hst h hi hs
  go_enter func147,ntmps147
  go_wp2_with fail
  refine (C1.out _ (Below.refl _ _)).mono ?_;rintro e w1 ⟨rfl,aa⟩
  have ab:=hid aa
  clear aa
  go_wp2_with fail
  refine (C2.out _).mono ?_;rintro e w2 ⟨rfl,rfl⟩
  go_wp2
  go_ret2
  exact bQ (by decide) ab.out
 have hst:=bV hst
 rw [hst] at c2
 obtain ⟨d1,d2,d3⟩:=dC.1 hst
 have hj:i64P (i+n):=by unfold i64P;omega
 have c4:=fun W (hW:Below w.heap.size w W)=>fS (h.later hW) hj
 by_cases he:edgeB s.data.toList i=false
 ·have hE:delE s i n=4:=by unfold delE;rw [if_neg (by rw [hst];decide),if_pos (.inl he)]
  rw [hE]
  rw [he] at c3
  have C1:=hid c1;have C2:=hid c2;have C3:=hid c3
  clear hE c1 c2 c3 c4 hst he h hi hj hs d1 d2 d3
  go_enter func147,ntmps147
  go_wp2_with fail
  refine (C1.out _ (Below.refl _ _)).mono ?_;rintro e w1 ⟨rfl,aa⟩
  have ab:=hid aa
  clear aa
  go_wp2_with fail
  refine (C2.out _).mono ?_;rintro e w2 ⟨rfl,rfl⟩
  go_wp2_with fail
  refine (onward ab.out (C3.out _ ab.out)).mono ?_;rintro e w3 ⟨rfl,ac⟩
  have ad:=hid ac
  clear ac
  go_wp2
  go_ret2
  exact bQ (by decide) ad.out
 have he:=bV he
 rw [he] at c3
 have g1:i+n≤4096:=by omega
 by_cases hf:edgeB s.data.toList (i+n)=false
 ·have hE:delE s i n=4:=by unfold delE;rw [if_neg (by rw [hst];decide),if_pos (.inr hf)]
  rw [hE]
  rw [hf] at c4
  have C1:=hid c1;have C2:=hid c2;have C3:=hid c3;have C4:=hid c4
  clear hE c1 c2 c3 c4 hst he hf h hi hj hs d3
  go_enter func147,ntmps147
  go_wp2_with fail
  refine (C1.out _ (Below.refl _ _)).mono ?_;rintro e w1 ⟨rfl,aa⟩
  have ab:=hid aa
  clear aa
  go_wp2_with fail
  refine (C2.out _).mono ?_;rintro e w2 ⟨rfl,rfl⟩
  go_wp2_with fail
  refine (onward ab.out (C3.out _ ab.out)).mono ?_;rintro e w3 ⟨rfl,ac⟩
  have ad:=hid ac
  clear ac
  go_wp2_with fail
  refine (onward ad.out (C4.out _ ad.out)).mono ?_;rintro e w4 ⟨rfl,ae⟩
  have af:=hid ae
  clear ae
  go_wp2
  go_ret2
  exact bQ (by decide) af.out
 ·have hf:=bV hf
  have hE:delE s i n=0:=by
   unfold delE
   rw [if_neg (by rw [hst];decide),if_neg]
   rintro (g|g)
   ·rw [he] at g;cases g
   ·rw [hf] at g;cases g
  obtain ⟨b1,b2,b3⟩:=lT he
  obtain ⟨b4,b5,b6⟩:=lT hf
  have c5:=fun W (hW:Below w.heap.size w W)=>EK (x:=⟨#[]⟩) (h.later hW) hi hj fQ (by rw [b1,b4];show i.toNat+0+_≤_;omega)
  rw [b1,b4] at c5
  have hS:delS s i n=s.extract 0 i.toNat++⟨#[]⟩++s.extract (i+n).toNat s.size:=by unfold delS;rw [hE,if_pos rfl,nD _ ⟨#[]⟩ rfl]
  rw [← hS] at c5
  rw [hE]
  obtain ⟨S,hSS⟩:∃ S,delS s i n=S:=⟨_,rfl⟩
  rw [hSS] at c5 ⊢
  rw [hf] at c4
  have C1:=hid c1;have C2:=hid c2;have C3:=hid c3;have C4:=hid c4;have C5:=hid c5
  clear hE c1 c2 c3 c4 c5 hst he hf h hi hj hs d3 b1 b2 b3 b4 b5 b6 hS hSS
  go_enter func147,ntmps147
  go_wp2_with fail
  refine (C1.out _ (Below.refl _ _)).mono ?_;rintro e w1 ⟨rfl,aa⟩
  have ab:=hid aa
  clear aa
  go_wp2_with fail
  refine (C2.out _).mono ?_;rintro e w2 ⟨rfl,rfl⟩
  go_wp2_with fail
  refine (onward ab.out (C3.out _ ab.out)).mono ?_;rintro e w3 ⟨rfl,ac⟩
  have ad:=hid ac
  clear ac
  go_wp2_with fail
  refine (onward ad.out (C4.out _ ad.out)).mono ?_;rintro e w4 ⟨rfl,ae⟩
  have af:=hid ae
  clear ae
  go_wp2_with fail
  refine (C5.out _ af.out).mono ?_;rintro e w5 ⟨b,p',L',rfl,hR,ag⟩
  have HR:=hid (jT hR (af.out.trans (ag.mono af.out.size)))
  clear hR ag
  go_wp2
  go_ret2
  exact HR.out
def ofE (s:ByteArray):Int:=if vldB s.data.toList=false then 5 else if 4096<s.size then 6 else 0
theorem GM (s:ByteArray):insE ⟨#[]⟩ 0 s=ofE s∧(ofE s=0→insS ⟨#[]⟩ 0 s=s):=by
 have h:insE ⟨#[]⟩ 0 s=ofE s:=by
  unfold insE ofE
  rw [if_neg (by decide +kernel),if_neg (by decide +kernel)]
  have:(⟨#[]⟩:ByteArray).size+s.size=s.size:=by show 0+s.size=s.size;omega
  rw [this]
 refine ⟨h,fun h0=>?_⟩
 unfold insS
 rw [h,h0,if_pos rfl]
 apply aI
 simp
set_option maxHeartbeats 800000 in
theorem yS (s:ByteArray) (hs:s.size≤maxLen) (w:World):Calls prog 55 #[.string s] w (RetRope w (ofE s) s):=by
 have aa:Below w.heap.size w (w.alloc (.cells #[.pointer none] 130)):=(Below.refl _ _).alloc (Nat.le_refl _) _
 have hR:RopeW (w.alloc (.cells #[.pointer none] 130)) (some ⟨w.heap.size,0,none⟩) none [] ⟨#[]⟩:=⟨.empty _,.inr ⟨_,rfl,by simp,(Blk.new w _ _).cell 0 _ rfl⟩⟩
 have ci:=sY hR (Nat.zero_le _) hs (i:=0) (by unfold i64P;omega)
 rw [(GM s).1] at ci
 have ho:=(GM s).2
 obtain ⟨E,hE⟩:∃ E,ofE s=E:=⟨_,rfl⟩
 rw [hE] at ci ho ⊢
 have HS:=hid ho;have CI:=hid ci;have HB:=hid aa
 clear ci aa hR hs ho hE
 go_enter func55,ntmps55
 go_wp2_with fail
 refine CI.out.mono ?_;rintro e w1 ⟨r',rfl,h1,h2,ab⟩
 have HR:=hid (show RetRope w E s (.returned (.tuple #[.pointer r',.int .i64 E])) w1 from ⟨r',rfl,h1,fun h0=>by
  obtain ⟨b,p,L,e,hh⟩:=h2 h0
  rw [HS.out h0] at hh
  exact ⟨b,p,L,e,hh⟩,HB.out.trans (ab.mono HB.out.size)⟩)
 clear h1 h2 ab
 go_wp2
 go_ret2
 exact HR.out
set_option maxHeartbeats 800000 in
theorem KW (h:RopeW w r p L s) {i m:Nat} (him:i+m≤s.size) :
 Calls prog 148 #[.pointer r,.int .i64 i,.int .i64 m] w fun e w'=>e=.returned (.tuple #[.string (s.extract i (i+m)),.int .i64 0])∧Below w.heap.size w w':=by
 have hsm:=h.x.small
 have c1:=lE h
 have c2:=nJ (z:=s.size) (i:=i) (n:=m) hsm (by unfold i64P;omega)
 rw [dC.2 (by omega)] at c2
 have h1:(0:Int)≤(i:Int)+(m:Int):=by omega
 have h2:(i:Int)+(m:Int)≤(s.size:Int):=by omega
 have h3:((i:Int)+(m:Int)).toNat=i+m:=by omega
 have h4:(i:Int)≤(i:Int)+(m:Int):=by omega
 have h5:(0:Int)≤(i:Int):=by omega
 have h6:(i:Int)≤(s.size:Int):=by omega
 have C1:=hid c1;have C2:=hid c2
 clear c1 c2 h
 go_enter func148,ntmps148
 go_wp2_with fail
 refine C1.out.mono ?_;rintro e w1 ⟨rfl,aa⟩
 have ab:=hid aa
 clear aa
 go_wp2_with fail
 refine (C2.out _).mono ?_;rintro e w2 ⟨rfl,rfl⟩
 go_wp2
 go_ret2
 exact ⟨OL (by first|rfl|simp [h3]) rfl,ab.out⟩
theorem RetRope.yes {E:Int} {e:Ending} (h:RetRope w E S e w') (hE:E=0):∃ b p L,e=.returned (.tuple #[.pointer (some ⟨b,0,none⟩),.int .i64 0])∧RopeW w' (some ⟨b,0,none⟩) p L S∧Below w.heap.size w w':=by
 obtain ⟨r',he,-,h2,hb⟩:=h
 obtain ⟨b,p,L,hr,hh⟩:=h2 hE
 subst hr;subst hE
 exact ⟨b,p,L,he,hh,hb⟩
theorem RetRope.no {E:Int} {e:Ending} (h:RetRope w E S e w') (hE:E≠0):e=.returned (.tuple #[.pointer none,.int .i64 E])∧Below w.heap.size w w':=by
 obtain ⟨r',he,h1,-,hb⟩:=h
 rw [h1 hE] at he
 exact ⟨he,hb⟩
theorem pI (hv:vldB s.data.toList=true) (h:s.size≤4096):ofE s=0:=by unfold ofE;rw [if_neg (by rw [hv];decide),if_neg (by omega)]
end Go.Proofs.YtbagenpobcgjnaaGreat
