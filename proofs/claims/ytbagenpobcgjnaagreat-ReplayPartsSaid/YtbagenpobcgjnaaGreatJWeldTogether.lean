/-
  Joined: WeldTogether, WeldAr, WeldPick, WeldCut, WeldTight.
-/
import Derived.Test.YtbagenpobcgjnaaGreatJKnotDev6
import Derived.Laws.EntriesVeiled
import Derived.Test.YtbagenpobcgjnaaGreatJSq
import Derived.Test.YtbagenpobcgjnaaGreatJChunkRef
variable {L R:List ByteArray} {S:List Nat} {c g h n o:Nat} {p q:Option Go.Addr} {w w':Go.World}
namespace Go.Proofs.YtbagenpobcgjnaaGreat
open Go.Proofs.Tryz
set_option maxRecDepth 100000
open Lib (hid)
open Go.RowKit
set_option linter.unusedVariables false
set_option linter.unusedSimpArgs false
def Tr (w:World) (S:List Nat) (p:Option Addr) (L:List ByteArray):Prop:=(p=none∧L=[])∨∃ b h,p=some ⟨b,0,none⟩∧KnotW w (Off S w) h b L
theorem Tr.later (t:Tr w S p L) (hb:Below w.heap.size w w'):Tr w' S p L:=by
 rcases t with t|⟨b,h,e,k⟩
 ·exact .inl t
 ·exact .inr ⟨b,h,e,k.later hb⟩
theorem KnotW.high {b:Nat} (k:KnotW w (Off S w) h b L) (hz:(wholeL L).size≤6000):h≤12:=by
 obtain ⟨h1,h2⟩:=k.chunks
 have h3:=KM h1
 rcases Nat.lt_or_ge 12 h with g|g
 ·have:2 ^ 13≤2 ^ h:=Nat.pow_le_pow_right (by decide) g
  omega
 ·exact g
def RetTr (S:List Nat) (w:World) (L:List ByteArray) (e:Ending) (w':World):Prop:=∃ p,e=.returned (.pointer p)∧Tr w' S p L∧Below w.heap.size w w'
theorem RetTr.from {w1:World} {e:Ending} (r:RetTr S w1 L e w') (hb:Below w.heap.size w w1):RetTr S w L e w':=by
 obtain ⟨p,h1,h2,h3⟩:=r
 exact ⟨p,h1,h2,hb.trans (h3.mono hb.size)⟩
set_option maxHeartbeats 800000 in
theorem OO {K:List Kid} (p:JoinP w (Off S w) g o 1 h K) :
 Calls prog 172 #[.slice (some ⟨g,o,none⟩) (1:Nat) c] w (RetTr S w (flat K)):=by
 have ce:=p.even (c:=c) (by decide)
 have CE:=hid ce;have HP:=hid p
 clear ce p
 go_enter func172,ntmps172
 go_wp2_with fail
 refine CE.out.mono ?_;rintro e w1 ⟨rfl,aa⟩
 obtain ⟨b,q0,hk⟩:=(HP.out.on aa).one
 have ab:=hid aa
 have HR:=hid (show RetTr S w (flat K) (.returned (pv b)) w1 from ⟨_,rfl,.inr ⟨b,h,rfl,hk.weak fun i hi=>hi.on aa.size⟩,aa⟩)
 clear aa hk
 go_wp2
 go_loopw [0] (fun t wr=>t=.slice (some ⟨g,o,none⟩) 1 c∧wr=w1) (fun _ _=>0)
 case atStart=>exact ⟨rfl,rfl⟩
 case round =>
  obtain ⟨rfl,rfl⟩:=hrel
  go_wp2
  go_ret
  exact HR.out
set_option maxHeartbeats 800000 in
theorem ND {K:List Kid} (hS:InS S w) (p:JoinP w (Off S w) g o n h K) (h2:2≤n) (h8:n≤8) :
 Calls prog 172 #[.slice (some ⟨g,o,none⟩) n c] w (RetTr S w (flat K)):=by
 have ce:=p.even (c:=c) (by omega)
 have cj:=fun W (hW:Below w.heap.size w W)=>dP (c:=c) (p.on hW) h2 h8
 have CE:=hid ce;have CJ:=hid cj;have HS:=hid hS
 clear ce cj p hS
 have t1:((n:Int) == 0)=false:=by simpa using (show ¬ (n:Int)=0 by omega)
 have t2:(n == 0)=false:=by simpa using (show ¬ n=0 by omega)
 have t3:((n:Int) == 1)=false:=by simpa using (show ¬ (n:Int)=1 by omega)
 have t4:(n == 1)=false:=by simpa using (show ¬ n=1 by omega)
 have t5:¬ (8:Int)<(n:Int):=by omega
 go_enter func172,ntmps172
 go_wp2_with fail
 refine CE.out.mono ?_;rintro e w1 ⟨rfl,ab⟩
 have aa:=hid ab
 clear ab
 go_wp2
 go_loopw [0] (fun t wr=>t=.slice (some ⟨g,o,none⟩) n c∧wr=w1) (fun _ _=>0)
 case atStart=>exact ⟨rfl,rfl⟩
 case round =>
  obtain ⟨rfl,rfl⟩:=hrel
  go_wp2_with fail
  refine (CJ.out _ aa.out).mono ?_;rintro e w2 ⟨b,gb,cb,rfl,hbb,hgg,hkn,ac⟩
  have hs:=aa.out.size
  have hbw:=aa.out.trans (ac.mono hs)
  have HR:=hid (show RetTr S w (flat K) (.returned (pv b)) w2 from ⟨_,rfl,.inr ⟨b,h+1,rfl,hkn.made HS.out (by omega) (by omega) hbw.size⟩,hbw⟩)
  clear hbb hgg hkn ac hbw
  go_wp2
  go_ret
  exact HR.out
theorem GJ {K:List Kid} (hS:InS S w) (p:JoinP w (Off S w) g o n h K) (h1:1≤n) (h8:n≤8) :
 Calls prog 172 #[.slice (some ⟨g,o,none⟩) n c] w (RetTr S w (flat K)):=by
 by_cases e:n=1
 ·subst e;exact OO p
 ·exact ND hS p (by omega) h8
theorem xG {a:Option Addr} (w:World):Calls prog 172 #[.slice a 0 c] w fun e w'=>e=.returned (.pointer none)∧Below w.heap.size w w':=by
 go_enter func172,ntmps172
 go_wp2
 go_ret
 exact ⟨rfl,Below.refl _ _⟩
abbrev Side:=Option Addr×List ByteArray
def sidesV (X:List Side):List Value:=X.map fun x=>.pointer x.1
def cat (X:List Side):List ByteArray:=(X.map Prod.snd).flatten
theorem KF (X:List Side) (k:Nat) (h:k<X.length):cat (X.take (k+1))=cat (X.take k)++X[k].2:=by
 unfold cat
 rw [List.take_succ_eq_append_getElem h,List.map_append,List.flatten_append]
 simp
theorem PS (X:List Side) (k:Nat):(wholeL (cat (X.take k))).size≤(wholeL (cat X)).size:=by
 have e:cat X=cat (X.take k)++cat (X.drop k):=by
  unfold cat
  rw [← List.flatten_append,← List.map_append,List.take_append_drop]
 rw [e,aE,ByteArray.size_append];omega
structure TgI (S:List Nat) (w1:World) (X:List Side) (k:Nat) (p:Option Addr) (wr:World):Prop where
 t:Tr wr S p (cat (X.take k))
 bel:Below w1.heap.size w1 wr
set_option maxHeartbeats 1600000 in
theorem kH {X:List Side} (hS:InS S w) (hr:PRow w g 0 (sidesV X)) (hn:X.length=n) (h3:n≤3) (hX:∀ x∈X,Tr w S x.1 x.2) (hz:(wholeL (cat X)).size≤6000) :
 Calls prog 166 #[.slice (some ⟨g,0,none⟩) n c] w (RetTr S w (cat X)):=by
 have hmf:∀ (fn:Fn) (first cap:Array Value) (w:World),(Instr.makeFunc fn first cap).run prog w=.ok (.func fn first cap) w:=fun _ _ _ _=>rfl
 have HS:=hid hS;have HR:=hid hr;have HN:=hid hn;have HX:=hid hX;have HZ:=hid hz
 clear hS hr hn hX hz
 go_enter func166,ntmps166
 go_wp2
 have ad:Below w.heap.size w (w.alloc (.cells #[layV w.heap.size] 230)):=(Below.refl _ _).alloc (Nat.le_refl _) _
 have hbx:(w.alloc (.cells #[layV w.heap.size] 230)).cell? ⟨w.heap.size,0,none⟩=some (layV w.heap.size):=(Blk.new w #[layV w.heap.size] 230).cell 0 _ rfl
 have hsz:w.heap.size<(w.alloc (.cells #[layV w.heap.size] 230)).heap.size:=by simp
 obtain ⟨w1,hw⟩:∃ w1,w1=w.alloc (.cells #[layV w.heap.size] 230):=⟨_,rfl⟩
 rw [← hw] at ad hbx hsz
 rw [← hw]
 obtain ⟨bl,hbl⟩:∃ bl,w.heap.size=bl:=⟨_,rfl⟩
 rw [hbl] at hbx hsz
 simp only [hbl]
 have HW:=hid ad;have aj:=hid hbx;have ak:=hid hsz
 clear hw ad hbx hsz hbl hmf
 go_loopw [4,10] (fun v i wr=>∃ (k:Nat) (p:Option Addr),k≤n∧v=.pointer p∧i=.int .i64 k∧TgI S w1 X k p wr) (fun _ i _=>n - (intOf i).toNat)
 case atStart=>exact ⟨0,none,Nat.zero_le _,rfl,rfl,.inl ⟨rfl,rfl⟩,Below.refl _ _⟩
 case round =>
  obtain ⟨k,p,hk,rfl,rfl,hI⟩:=hrel
  by_cases hlt:k<n
  ·have hkl:k<X.length:=by rw [HN.out];exact hlt
   have hbw:=HW.out.trans (hI.bel.mono HW.out.size)
   have q0:=(HR.out.on hbw).2 k (by unfold sidesV;rw [List.length_map];exact hkl)
   rw [show (sidesV X)[k]'(by unfold sidesV;rw [List.length_map];exact hkl)=.pointer X[k].1 by simp [sidesV],Nat.zero_add] at q0
   have ht:=(HX.out X[k] (List.getElem_mem hkl)).later hbw
   have hst:=KF X k hkl
   have hcz:=Nat.le_trans (PS X (k+1)) HZ.out
   obtain ⟨x,hx⟩:∃ x,X[k]=x:=⟨_,rfl⟩
   rw [hx] at q0 ht hst
   obtain ⟨xp,xl⟩:=x
   dsimp only at q0 ht hst
   rw [hst] at hcz
   have b1:(k:Int)<(n:Int):=by omega
   have ac:(wholeL (cat (X.take k))).size≤6000:=by rw [aE,ByteArray.size_append] at hcz;omega
   have ab:(wholeL xl).size≤6000:=by rw [aE,ByteArray.size_append] at hcz;omega
   rcases ht with ⟨rfl,rfl⟩|⟨b,h,rfl,kb⟩
   ·have kh:=nV wr
    have HN:=hid (fun W (hW:Below wr.heap.size wr W)=>(show TgI S w1 X (k+1) p W from ⟨by rw [hst,List.append_nil];exact hI.t.later hW,hI.bel.trans (hW.mono hI.bel.size)⟩))
    have KH:=hid kh
    clear kh hI hst hcz hx hkl hbw ac ab
    go_wp2_with fail
    refine KH.out.mono ?_;rintro e w2 ⟨rfl,aa⟩
    have ae:=hid (HN.out w2 aa)
    clear aa
    go_wp2
    go_roundw
    case rel=>exact ⟨k+1,p,by omega,rfl,by go_num,ae.out⟩
    case measure=>simp [intOf];omega
   ·have kh:=(kb.hgt (by have:=kb.high ab;omega)).call
    have KH:=hid kh
    rcases hI.t with ⟨rfl,he⟩|⟨a,ha,rfl,ka⟩
    ·have HN:=hid (fun W (hW:Below wr.heap.size wr W)=>(show TgI S w1 X (k+1) (some ⟨b,0,none⟩) W from ⟨.inr ⟨b,h,rfl,by rw [hst,he,List.nil_append];exact kb.later hW⟩,hI.bel.trans (hW.mono hI.bel.size)⟩))
     clear kh hI hst hcz hx hkl hbw ac ab kb he
     go_wp2_with fail
     refine KH.out.mono ?_;rintro e w2 ⟨rfl,aa⟩
     have ae:=hid (HN.out w2 aa)
     clear aa
     go_wp2
     go_roundw
     case rel=>exact ⟨k+1,_,by omega,rfl,by go_num,ae.out⟩
     case measure=>simp [intOf];omega
    ·have hha:=ka.high ac
     have hhb:=kb.high ab
     have af:InS S wr:=HS.out.on hbw.size
     have cl:=fun W (hW:Below wr.heap.size wr W)=>NR (ha+h) S W a b ha h bl _ _ (Nat.le_refl _) (af.on hW.size) (((hI.bel.trans (hW.mono hI.bel.size)).cell ak.out).trans aj.out) (ka.later hW) (kb.later hW) (by omega) (by omega) (by omega)
     rw [← hst] at cl hcz
     have ag:∀ W,Below wr.heap.size wr W→W.cell? ⟨bl,0,none⟩=some (layV bl):=fun W hW=>((hI.bel.trans (hW.mono hI.bel.size)).cell ak.out).trans aj.out
     have HN:=hid (fun W (hW:Below wr.heap.size wr W) q (hq:Tr W S q (cat (X.take (k+1))))=>(show TgI S w1 X (k+1) q W from ⟨hq,hI.bel.trans (hW.mono hI.bel.size)⟩))
     have CL:=hid cl;have HB:=hid ag;have al:=hid hcz;have au:=hid af
     have HM:=hid (show max ha h≤12 from by omega)
     obtain ⟨hm,hhm⟩:∃ hm,max ha h=hm:=⟨_,rfl⟩
     rw [hhm] at CL HM
     obtain ⟨XL,hXL⟩:∃ XL,cat (X.take (k+1))=XL:=⟨_,rfl⟩
     rw [hXL] at CL al HN
     clear kh hI hst hcz hx hkl hbw ac ab kb ka cl ag af hhm hXL hha hhb
     go_wp2_with fail
     refine KH.out.mono ?_;rintro e w2 ⟨rfl,aa⟩
     have q1:=HB.out w2 aa
     have ah:=hid aa
     clear aa
     go_wp2_with fail
     refine (CL.out w2 ah.out).mono ?_;rintro e w3 ⟨r,c3,K3,rfl,ho,x1,x2,hf,am,an⟩
     have ai:=ah.out.trans (an.mono ah.out.size)
     have hJ:JoinP w3 (Off S w3) r 0 K3.length hm K3:=⟨rfl,(fZ ho (by omega)).2.2,fun k hk=>(am k hk).lessS,fun i hi=>hi.1,by have:=HM.out;omega,by rw [hf];have:=al.out;omega⟩
     have cu:=GJ (c:=c3) (au.out.on ai.size) hJ x1 (by omega)
     rw [hf] at cu
     have CU:=hid cu;have ao:=hid ai
     clear ho hf am an ai hJ cu
     go_wp2_with fail
     refine CU.out.mono ?_;rintro e w4 ⟨q,rfl,aq,ar⟩
     have av:=hid (HN.out w4 (ao.out.trans (ar.mono ao.out.size)) q aq)
     clear aq ar
     go_wp2
     go_roundw
     case rel=>exact ⟨k+1,q,by omega,rfl,by go_num,av.out⟩
     case measure=>simp [intOf];omega
  ·obtain rfl:k=n:=by omega
   have e:X.take k=X:=List.take_of_length_le (by rw [HN.out];exact Nat.le_refl _)
   have HQ:=hid (show RetTr S w (cat X) (.returned (.pointer p)) wr from ⟨p,rfl,by have:=hI.t;rwa [e] at this,HW.out.trans (hI.bel.mono HW.out.size)⟩)
   clear hI e
   go_wp2
   go_ret
   exact HQ.out
structure Pick (S:List Nat) (F:FuncId) (caps:Array Value) (Inv:Int→World→Prop) (Good:Int→List Kid→Nat→Int→Prop):Prop where
 on:∀ q w w',Inv q w→Below w.heap.size w w'→Inv q w'
 call:∀ q w g c h (K:List Kid),g ∉ S→Inv q w→InS S w→JoinP w (Off S w) g 0 K.length h K→2≤K.length→K.length≤8→Calls prog F (#[.slice (some ⟨g,0,none⟩) K.length c]++caps) w fun e w' =>
  ∃ (i:Nat) (q1:Int),e=.returned (.int .i64 i)∧i<K.length∧Good q K i q1∧Inv q1 w'∧Apart S w w'
structure Way (Good:Int→List Kid→Nat→Int→Prop) (Rel:Int→List ByteArray→List ByteArray→ByteArray→List ByteArray→Int→Prop):Prop where
 base:∀ q s,fitsP s→Rel q [s] [] s [] q
 step:∀ q K i q1 A s C q',(h:i<K.length)→Good q K i q1→Rel q1 K[i].L A s C q'→Rel q (flat K) (flat (K.take i)++A) s (C++flat (K.drop (i+1))) q'
def RetAr (S:List Nat) (Inv:Int→World→Prop) (Rel:Int→List ByteArray→List ByteArray→ByteArray→List ByteArray→Int→Prop) (w:World) (q:Int) (L:List ByteArray) (e:Ending) (w':World):Prop:=
 ∃ p1 A s p2 C q',e=.returned (.tuple #[.pointer p1,.string s,.pointer p2])∧Tr w' S p1 A∧Tr w' S p2 C∧L=A++([s]++C)∧Rel q L A s C q'∧Inv q' w'∧Apart S w w'
theorem LX (w:World) (p q:Option Addr):PRow (w.alloc (.cells #[.pointer p,.pointer q] 128)) w.heap.size 0 [.pointer p,.pointer q]:=
 ⟨by simp,fun j hj=>by
  match j,hj with
  | 0,_=>simp [World.cell?_alloc_new]
  | 1,_=>simp [World.cell?_alloc_new]⟩
theorem IY (w:World) (p q r:Option Addr):PRow (w.alloc (.cells #[.pointer p,.pointer q,.pointer r] 128)) w.heap.size 0 [.pointer p,.pointer q,.pointer r]:=
 ⟨by simp,fun j hj=>by
  match j,hj with
  | 0,_=>simp [World.cell?_alloc_new]
  | 1,_=>simp [World.cell?_alloc_new]
  | 2,_=>simp [World.cell?_alloc_new]⟩
theorem gC (hS:InS S w) (t1:Tr w S p L) (t2:Tr w S q R) (hz:(wholeL (L++R)).size≤6000) :
 Calls prog 166 #[.slice (some ⟨w.heap.size,0,none⟩) (2:Nat) (2:Nat)] (w.alloc (.cells #[.pointer p,.pointer q] 128)) (RetTr S w (L++R)):=by
 have hb:Below w.heap.size w (w.alloc (.cells #[.pointer p,.pointer q] 128)):=(Below.refl _ _).alloc (Nat.le_refl _) _
 have hc:cat [(p,L),(q,R)]=L++R:=by simp [cat]
 refine (kH (X:=[(p,L),(q,R)]) (n:=2) (c:=2) (hS.on hb.size) (LX w p q) rfl (by decide) (fun x hx=>?_) (by rw [hc];exact hz)).mono fun e w' h=>by rw [hc] at h;exact h.from hb
 simp at hx
 rcases hx with rfl|rfl
 ·exact t1.later hb
 ·exact t2.later hb
theorem pF {r:Option Addr} {X:List ByteArray} (hS:InS S w) (t1:Tr w S p L) (t2:Tr w S q R) (t3:Tr w S r X) (hz:(wholeL (L++(R++X))).size≤6000) :
 Calls prog 166 #[.slice (some ⟨w.heap.size,0,none⟩) (3:Nat) (3:Nat)] (w.alloc (.cells #[.pointer p,.pointer q,.pointer r] 128)) (RetTr S w (L++(R++X))):=by
 have hb:Below w.heap.size w (w.alloc (.cells #[.pointer p,.pointer q,.pointer r] 128)):=(Below.refl _ _).alloc (Nat.le_refl _) _
 have hc:cat [(p,L),(q,R),(r,X)]=L++(R++X):=by simp [cat]
 refine (kH (X:=[(p,L),(q,R),(r,X)]) (n:=3) (c:=3) (hS.on hb.size) (IY w p q r) rfl (by decide) (fun x hx=>?_) (by rw [hc];exact hz)).mono fun e w' h=>by rw [hc] at h;exact h.from hb
 simp at hx
 rcases hx with rfl|rfl|rfl
 ·exact t1.later hb
 ·exact t2.later hb
 ·exact t3.later hb
theorem oU {K:List Kid} (hS:InS S w) (p:JoinP w (Off S w) g o n h K) (h8:n≤8) :
 Calls prog 172 #[.slice (some ⟨g,o,none⟩) n c] w (RetTr S w (flat K)):=by
 rcases Nat.eq_zero_or_pos n with rfl|h0
 ·obtain rfl:K=[]:=List.eq_nil_of_length_eq_zero p.len
  exact (xG w).mono fun e w' ⟨he,hb⟩=>⟨none,he,.inl ⟨rfl,rfl⟩,hb⟩
 ·exact GJ hS p h0 h8
theorem JoinP.apartS {K:List Kid} (p:JoinP w (Off S w) g o n h K) (hg:g ∉ S) (ha:Apart S w w'):JoinP w' (Off S w') g o n h K:=
 ⟨p.len,p.row.keep ha.size (ha.block g p.row.1 hg),fun k hk=>(p.kids k hk).apartS ha,fun i hi=>hi.1,p.hh,p.size⟩
theorem JoinP.later {K:List Kid} (p:JoinP w (Off S w) g o n h K) (hb:Below w.heap.size w w'):JoinP w' (Off S w') g o n h K:=
 ⟨p.len,p.row.on hb,fun k hk=>(p.kids k hk).later hb,fun i hi=>hi.1,p.hh,p.size⟩
theorem JoinP.none {K:List Kid} (p:JoinP w (Off S w) g o n h K) (hn:n=0) (o':Nat):JoinP w (Off S w) g o' n h K:=by
 subst hn
 obtain rfl:K=[]:=List.eq_nil_of_length_eq_zero p.len
 exact ⟨rfl,⟨p.row.1,fun j hj=>absurd hj (by simp [ptrs])⟩,p.kids,p.lt,p.hh,p.size⟩
theorem aL (A B:List ByteArray):(wholeL (A++B)).size=(wholeL A).size+(wholeL B).size:=by rw [aE,ByteArray.size_append]
theorem jP {K:List Kid} {i:Nat} (h:i<K.length):flat K=flat (K.take i)++(K[i].L++flat (K.drop (i+1))):=by
 rw [← cV,← flat_app,← flat_app,List.singleton_append,← List.drop_eq_getElem_cons,List.take_append_drop]
set_option maxHeartbeats 800000 in
theorem zP (f:Value) (w:World):Calls prog 167 #[.pointer none,f] w fun e w'=>e=.returned (.tuple #[.pointer none,.string ⟨#[]⟩,.pointer none])∧Below w.heap.size w w':=by
 have cb:=DI w
 have cf:=qT
 have CB:=hid cb;have CF:=hid cf
 clear cb cf
 go_enter func167,ntmps167
 go_wp2_with fail
 refine CB.out.mono ?_;rintro e w1 ⟨rfl,aa⟩
 have ac:=hid aa
 clear aa
 go_wp2_with fail
 refine (onward ac.out (CF.out w1)).mono ?_;rintro e w2 ⟨rfl,ab⟩
 have ad:=hid ab
 clear ab
 go_wp2
 refine bodyPost_ret (v:=.tuple #[.pointer none,.string ⟨#[]⟩,.pointer none]) (by simp [results,results167,go_sem]) rfl ?_
 exact ⟨rfl,ad.out⟩
def AroundC (S:List Nat) (F:FuncId) (caps:Array Value) (Inv:Int→World→Prop) (Rel:Int→List ByteArray→List ByteArray→ByteArray→List ByteArray→Int→Prop) (h:Nat):Prop:=∀ (w:World) (b:Nat) (L:List ByteArray) (q:Int),KnotW w (Off S w) h b L→InS S w→Inv q w→(wholeL L).size≤6000 →
 Calls prog 167 #[pv b,(.func (.func F) #[] caps)] w (RetAr S Inv Rel w q L)
set_option maxHeartbeats 800000 in
theorem MH {F:FuncId} {caps:Array Value} {Inv:Int→World→Prop} {Good:Int→List Kid→Nat→Int→Prop} {Rel:Int→List ByteArray→List ByteArray→ByteArray→List ByteArray→Int→Prop} (hp:Pick S F caps Inv Good) (hy:Way Good Rel):AroundC S F caps Inv Rel 0:=by
 intro w b L q k hS hq hz
 have cb:=fO k
 obtain ⟨-,s,rfl,hf,hB⟩:=k
 have cf:=fun W (hW:Below w.heap.size w W)=>pU (hB.onto hW)
 have HR:=hid (fun W (hW:Below w.heap.size w W)=>(show RetAr S Inv Rel w q [s] (.returned (.tuple #[.pointer none,.string s,.pointer none])) W from ⟨none,[],s,none,[],q,rfl,.inl ⟨rfl,rfl⟩,.inl ⟨rfl,rfl⟩,rfl,hy.base q s hf,hp.on q w W hq hW,.of_below hW⟩))
 have CB:=hid cb;have CF:=hid cf
 clear cb cf hB hf hq hS hz hp hy
 go_enter func167,ntmps167
 go_wp2_with fail
 refine CB.out.mono ?_;rintro e w1 ⟨rfl,aa⟩
 have ab:=hid aa
 clear aa
 go_wp2_with fail
 refine (onward ab.out (CF.out w1 ab.out)).mono ?_;rintro e w2 ⟨rfl,ac⟩
 have ad:=hid ac
 clear ac
 go_wp2
 refine bodyPost_ret (v:=.tuple #[.pointer none,.string s,.pointer none]) (by simp [results,results167,go_sem]) rfl ?_
 exact HR.out w2 ad.out
set_option maxHeartbeats 1600000 in
theorem NX {F:FuncId} {caps:Array Value} {Inv:Int→World→Prop} {Good:Int→List Kid→Nat→Int→Prop} {Rel:Int→List ByteArray→List ByteArray→ByteArray→List ByteArray→Int→Prop} (ent:∀ (args:Array Value) (w:World),(callFunc F args).run prog w=.ok (.enter F args) w) (hp:Pick S F caps Inv Good) (hy:Way Good Rel) (hh:h≤20) (ih:AroundC S F caps Inv Rel h):AroundC S F caps Inv Rel (h+1):=by
 intro w b L q k hS hq hz
 obtain ⟨M,g,c,hM,rfl,-⟩:=k.node
 have cb:=dF hM (by omega)
 have h2:=hM.two
 have h8:=hM.eight
 obtain ⟨n,hn⟩:∃ n,M.length=n:=⟨_,rfl⟩
 rw [hn] at h2 h8
 have hj:∀ (w1:World) (g':Nat),Below w.heap.size w w1→PRow w1 g' 0 (ptrs M)→JoinP w1 (Off S w1) g' 0 n h M:=fun w1 g' hb hr=>⟨hn,hr,fun k hk=>(hM.kids k hk).later hb,fun i hi=>hi.1,by omega,by omega⟩
 have hcall:∀ (w1:World) (g' c':Nat),g' ∉ S→Below w.heap.size w w1→PRow w1 g' 0 (ptrs M)→Calls prog F (#[.slice (some ⟨g',0,none⟩) n c']++caps) w1 fun e w'=>∃ (i:Nat) (q1:Int),e=.returned (.int .i64 i)∧i<n∧Good q M i q1∧Inv q1 w'∧Apart S w1 w':=fun w1 g' c' hgS hb hr=>by
  have:=hp.call q w1 g' c' h M hgS (hp.on q w w1 hq hb) (hS.on hb.size) (by rw [hn];exact hj w1 g' hb hr) (by omega) (by omega)
  rw [hn] at this
  exact this
 have CB:=hid cb;have CC:=hid hcall;have HJ:=hid hj;have HN:=hid hn;have HS:=hid hS;have HY:=hid hy;have HI:=hid ih;have HZ:=hid hz;have be:=hid hp.on
 clear cb hcall hj hn hS hy ih hz hp hM k hq
 go_enter func167,ntmps167
 go_wp2_with fail
 refine CB.out.mono ?_;rintro e w1 ⟨v1,rfl,a6,am⟩
 obtain ⟨g',c',rfl,hc',hg',ar⟩:=bF a6 (by rw [HN.out];omega)
 rw [HN.out] at hc' ⊢
 have au:=hid (show g' ∉ S from fun hm=>by have:=HS.out g' hm;omega)
 have cw:=CC.out w1 g' c' au.out am ar
 have CW:=hid cw
 have bf:=hid (HJ.out w1 g' am ar);have a7:=hid am
 clear a6 am hg' ar cw
 have b0:((n:Int) == 0)=false:=by simpa using (show ¬ (n:Int)=0 by omega)
 have b0':(n == 0)=false:=by simpa using (show ¬ n=0 by omega)
 go_wp2_with fail
 refine CW.out.mono ?_;rintro e w2 ⟨i,q1,rfl,hin,hgood,a8,an⟩
 have ao:=bf.out.apartS au.out an
 have q0:=ao.cell hin
 rw [Nat.zero_add] at q0
 have hil:i<M.length:=by rw [HN.out];exact hin
 have av:InS S w2:=HS.out.on (Nat.le_trans a7.out.size an.size)
 have e0:=jP hil
 have hxz:(wholeL M[i].L).size≤6000:=by
  have:=HZ.out
  rw [e0,aE,aE,ByteArray.size_append,ByteArray.size_append] at this
  omega
 have ci:=HI.out w2 M[i].b M[i].L q1 (ao.kids _ (List.getElem_mem hil)) av a8 hxz
 have a9:=hid (fun A s C q'=>HY.out.step q M i q1 A s C q' hil hgood)
 have ba:=hid e0
 obtain ⟨xb,hxb⟩:∃ xb,M[i].b=xb:=⟨_,rfl⟩
 obtain ⟨xL,hxL⟩:∃ xL,M[i].L=xL:=⟨_,rfl⟩
 rw [hxb] at q0 ci
 rw [hxL] at ci a9 ba
 have CI:=hid ci;have bg:=hid ao;have bh:=hid ((Apart.of_below a7.out:Apart S w w1).trans an (fun x hx=>.inl hx));have bi:=hid av
 have b1:(0:Int)≤(i:Int):=by omega
 have b2:(i:Int)<(n:Int):=by omega
 clear ci ao an hgood a8 hxz hil hxb hxL e0 av
 go_wp2_with fail
 refine CI.out.mono ?_;rintro e w3 ⟨p1,A,s,p2,C,q',rfl,t1,t2,hL,hrel,bb,aq⟩
 have aw:=bg.out.apartS au.out aq
 have hsA:InS S w3:=bi.out.on aq.size
 have hall:flat M=(flat (M.take i)++A)++([s]++(C++flat (M.drop (i+1)))):=by rw [ba.out,hL];simp only [List.append_assoc]
 have bc:(wholeL (flat (M.take i)++A)).size≤6000:=by
  have:=HZ.out
  rw [hall] at this
  simp only [aL] at this ⊢
  omega
 have bd:(wholeL (C++flat (M.drop (i+1)))).size≤6000:=by
  have:=HZ.out
  rw [hall] at this
  simp only [aL] at this ⊢
  omega
 have ca:∀ W,Below w3.heap.size w3 W→Calls prog 172 #[.slice (some ⟨g',0,none⟩) i c'] W (RetTr S W (flat (M.take i))):=fun W hW=>oU (hsA.on hW.size) ((aw.later hW).head (by omega)) (by omega)
 have cc:∀ W o (len cap:Nat),Below w3.heap.size w3 W→len=n - (i+1)→(o=i+1∨n=i+1)→Calls prog 172 #[.slice (some ⟨g',o,none⟩) len cap] W (RetTr S W (flat (M.drop (i+1)))):=fun W o len cap hW hlen ho=>by
  subst hlen
  have:=(aw.later hW).tail (i+1)
  rw [Nat.zero_add] at this
  rcases ho with rfl|ho
  ·exact oU (hsA.on hW.size) this (by omega)
  ·exact oU (hsA.on hW.size) (this.none (by omega) o) (by omega)
 have ct1:∀ W p,Below w3.heap.size w3 W→Tr W S p (flat (M.take i))→Calls prog 166 #[.slice (some ⟨W.heap.size,0,none⟩) (2:Nat) (2:Nat)] (W.alloc (.cells #[.pointer p,.pointer p1] 128)) (RetTr S W (flat (M.take i)++A)):=fun W p hW hp =>
  gC (hsA.on hW.size) hp (t1.later hW) bc
 have ct2:∀ W p,Below w3.heap.size w3 W→Tr W S p (flat (M.drop (i+1)))→Calls prog 166 #[.slice (some ⟨W.heap.size,0,none⟩) (2:Nat) (2:Nat)] (W.alloc (.cells #[.pointer p2,.pointer p] 128)) (RetTr S W (C++flat (M.drop (i+1)))):=fun W p hW hp =>
  gC (hsA.on hW.size) (t2.later hW) hp bd
 have ax:=hid (fun W (hW:Below w3.heap.size w3 W) u v (hu:Tr W S u (flat (M.take i)++A)) (hv:Tr W S v (C++flat (M.drop (i+1))))=>(show RetAr S Inv Rel w q (flat M) (.returned (.tuple #[.pointer u,.string s,.pointer v])) W from ⟨u,_,s,v,_,q',rfl,hu,hv,hall,a9.out A s C q' hrel,be.out q' w3 W bb hW,(bh.out.trans aq (fun x hx=>.inl hx)).trans (Apart.of_below hW:Apart S w3 W) (fun x hx=>.inl hx)⟩))
 have CA:=hid ca;have CD:=hid cc;have T1:=hid ct1;have T2:=hid ct2
 have b3:(i:Int)≤(c':Int):=by omega
 have b3':i≤c':=by omega
 have b4:(i:Int)+1≤(n:Int):=by omega
 have b5:(n:Int)≤(c':Int):=by omega
 have b6:IntKind.i64.wrap ((i:Int)+1)=(i:Int)+1:=IntWalk.i64_in _ (by omega)
 have b7:((i:Int)+1).toNat=i+1:=by omega
 have b8:(0:Int)≤(i:Int)+1:=by omega
 clear ca cc ct1 ct2 hall bc bd hsA aw t1 t2 hL hrel bb aq
 go_wp2_with fail
 by_cases hcz:c'=i+1
 ·subst hcz
  have b9:(i:Int)≤(i:Int)+1:=by omega
  refine wp_region_held_drew (S:=(fun w':World=>Below w3.heap.size w3 w')) (by kernel_rfl) (Below.refl _ _).drew (fun hHeld=>?_)
  refine sqt 0 ?_
  refine sqt 1 ?_
  refine sqt 2 ?_
  refine sqt 4 ?_
  refine sqt 7 ?_
  refine sqt 8 ?_
  refine sqt 9 ?_
  refine sqt 10 ?_
  refine sqt 11 ?_
  refine sqt 12 ?_
  refine sqr 3 fun K hK=>?_
  go_simp
  (go_at_call 172;refine (CA.out _ hHeld).mono ?_;rintro e w4 ⟨u1,rfl,af,ag⟩;have aa:=hid (hHeld.trans (ag.mono hHeld.size));have ay:=hid af;clear af ag)
  try go_wp2_with fail
  refine hK.out _ _ ?_ (fun hHeld=>?_)
  ·exact aa.out
  clear hK K
  try simp only [Act.put,sqp]
  refine sqr 5 fun K hK=>?_
  go_simp
  have az:=hid (aa.out.alloc aa.out.size (.cells #[.pointer u1,.pointer p1] 128))
  try go_wp2_with fail
  refine hK.out _ _ ?_ (fun hHeld=>?_)
  ·exact az.out
  clear hK K
  try simp only [Act.put,sqp]
  refine sqr 6 fun K hK=>?_
  go_simp
  (go_at_call 166;refine (T1.out w4 u1 aa.out ay.out).mono ?_;rintro e w5 ⟨u2,rfl,ah,ai⟩;have ac:=hid (aa.out.trans (ai.mono aa.out.size));have a0:=hid ah;clear ah ai)
  try go_wp2_with fail
  refine hK.out _ _ ?_ (fun hHeld=>?_)
  ·exact ac.out
  clear hK K
  try simp only [Act.put,sqp]
  refine sqr 13 fun K hK=>?_
  go_simp
  (go_at_call 172;refine (CD.out _ 0 0 _ ac.out (by omega) (.inr (by omega))).mono ?_;rintro e w6 ⟨u3,rfl,aj,ad⟩;have ab:=hid (ac.out.trans (ad.mono ac.out.size));have a1:=hid ad;have a2:=hid aj;clear aj ad)
  try go_wp2_with fail
  refine hK.out _ _ ?_ (fun hHeld=>?_)
  ·exact ab.out
  clear hK K
  try simp only [Act.put,sqp]
  refine sqr 14 fun K hK=>?_
  go_simp
  have a3:=hid (ab.out.alloc ab.out.size (.cells #[.pointer p2,.pointer u3] 128))
  try go_wp2_with fail
  refine hK.out _ _ ?_ (fun hHeld=>?_)
  ·exact a3.out
  clear hK K
  try simp only [Act.put,sqp]
  refine sqr 15 fun K hK=>?_
  go_simp
  (go_at_call 166;refine (T2.out w6 u3 ab.out a2.out).mono ?_;rintro e w7 ⟨u4,rfl,ak,ae⟩;have al:=hid (ab.out.trans (ae.mono ab.out.size));have a4:=hid ae;have a5:=hid ak;clear ak ae)
  try go_wp2_with fail
  refine hK.out _ _ ?_ (fun hHeld=>?_)
  ·exact al.out
  clear hK K
  try simp only [Act.put,sqp]
  refine sqt 16 ?_
  refine sqt 17 ?_
  refine sqt 18 ?_
  refine wpAnyH_done (by kernel_rfl) ?_ _
  go_wp2_with fail
  refine bodyPost_ret (v:=.tuple #[.pointer u2,.string s,.pointer u4]) (by simp [results,results167,go_sem]) rfl ?_
  exact ax.out w7 al.out u2 u4 ((a0.out.later a1.out).later a4.out) a5.out
 ·
  refine wp_region_held_drew (S:=(fun w':World=>Below w3.heap.size w3 w')) (by kernel_rfl) (Below.refl _ _).drew (fun hHeld=>?_)
  refine sqt 0 ?_
  refine sqt 1 ?_
  refine sqt 2 ?_
  refine sqt 4 ?_
  refine sqt 7 ?_
  refine sqt 8 ?_
  refine sqt 9 ?_
  refine sqt 10 ?_
  refine sqt 11 ?_
  refine sqt 12 ?_
  refine sqr 3 fun K hK=>?_
  go_simp
  (go_at_call 172;refine (CA.out _ hHeld).mono ?_;rintro e w4 ⟨u1,rfl,af,ag⟩;have aa:=hid (hHeld.trans (ag.mono hHeld.size));have ay:=hid af;clear af ag)
  try go_wp2_with fail
  refine hK.out _ _ ?_ (fun hHeld=>?_)
  ·exact aa.out
  clear hK K
  try simp only [Act.put,sqp]
  refine sqr 5 fun K hK=>?_
  go_simp
  have az:=hid (aa.out.alloc aa.out.size (.cells #[.pointer u1,.pointer p1] 128))
  try go_wp2_with fail
  refine hK.out _ _ ?_ (fun hHeld=>?_)
  ·exact az.out
  clear hK K
  try simp only [Act.put,sqp]
  refine sqr 6 fun K hK=>?_
  go_simp
  (go_at_call 166;refine (T1.out w4 u1 aa.out ay.out).mono ?_;rintro e w5 ⟨u2,rfl,ah,ai⟩;have ac:=hid (aa.out.trans (ai.mono aa.out.size));have a0:=hid ah;clear ah ai)
  try go_wp2_with fail
  refine hK.out _ _ ?_ (fun hHeld=>?_)
  ·exact ac.out
  clear hK K
  try simp only [Act.put,sqp]
  refine sqr 13 fun K hK=>?_
  go_simp
  (go_at_call 172;refine (CD.out _ (i+1) (n - (i+1)) _ ac.out (by omega) (.inl rfl)).mono ?_;rintro e w6 ⟨u3,rfl,aj,ad⟩;have ab:=hid (ac.out.trans (ad.mono ac.out.size));have a1:=hid ad;have a2:=hid aj;clear aj ad)
  try go_wp2_with fail
  refine hK.out _ _ ?_ (fun hHeld=>?_)
  ·exact ab.out
  clear hK K
  try simp only [Act.put,sqp]
  refine sqr 14 fun K hK=>?_
  go_simp
  have a3:=hid (ab.out.alloc ab.out.size (.cells #[.pointer p2,.pointer u3] 128))
  try go_wp2_with fail
  refine hK.out _ _ ?_ (fun hHeld=>?_)
  ·exact a3.out
  clear hK K
  try simp only [Act.put,sqp]
  refine sqr 15 fun K hK=>?_
  go_simp
  (go_at_call 166;refine (T2.out w6 u3 ab.out a2.out).mono ?_;rintro e w7 ⟨u4,rfl,ak,ae⟩;have al:=hid (ab.out.trans (ae.mono ab.out.size));have a4:=hid ae;have a5:=hid ak;clear ak ae)
  try go_wp2_with fail
  refine hK.out _ _ ?_ (fun hHeld=>?_)
  ·exact al.out
  clear hK K
  try simp only [Act.put,sqp]
  refine sqt 16 ?_
  refine sqt 17 ?_
  refine sqt 18 ?_
  refine wpAnyH_done (by kernel_rfl) ?_ _
  go_wp2_with fail
  refine bodyPost_ret (v:=.tuple #[.pointer u2,.string s,.pointer u4]) (by simp [results,results167,go_sem]) rfl ?_
  exact ax.out w7 al.out u2 u4 ((a0.out.later a1.out).later a4.out) a5.out
theorem jE {F:FuncId} {caps:Array Value} {Inv:Int→World→Prop} {Good:Int→List Kid→Nat→Int→Prop} {Rel:Int→List ByteArray→List ByteArray→ByteArray→List ByteArray→Int→Prop} (ent:∀ (args:Array Value) (w:World),(callFunc F args).run prog w=.ok (.enter F args) w) (hp:Pick S F caps Inv Good) (hy:Way Good Rel) (h:Nat) (hh:h≤20):AroundC S F caps Inv Rel h:=by
 induction h with
 | zero=>exact MH hp hy
 | succ h ih=>exact NX ent hp hy (by omega) (ih (by omega))
def noneI (q:Int) (w:World):Prop:=True
def lastG (q:Int) (K:List Kid) (i:Nat) (q1:Int):Prop:=i+1=K.length
def lastR (q:Int) (L A:List ByteArray) (s:ByteArray) (C:List ByteArray) (q':Int):Prop:=C=[]
def firstG (q:Int) (K:List Kid) (i:Nat) (q1:Int):Prop:=i=0
def firstR (q:Int) (L A:List ByteArray) (s:ByteArray) (C:List ByteArray) (q':Int):Prop:=A=[]
theorem GW:Way lastG lastR:=
 ⟨fun q s _=>rfl,fun q K i q1 A s C q' h hg hr=>by
  unfold lastG at hg;unfold lastR at hr ⊢
  rw [hr,hg,List.drop_length];rfl⟩
theorem DA:Way firstG firstR:=
 ⟨fun q s _=>rfl,fun q K i q1 A s C q' h hg hr=>by
  unfold firstG at hg;unfold firstR at hr ⊢
  subst hg;rw [hr];rfl⟩
theorem EA:Pick [] 168 #[] noneI lastG:=by
 refine ⟨fun _ _ _ _ _=>trivial,fun q w g c h K _ _ _ _ h2 h8=>?_⟩
 obtain ⟨n,hn⟩:∃ n,K.length=n+1:=⟨K.length - 1,by omega⟩
 show Calls prog 168 #[.slice (some ⟨g,0,none⟩) K.length c] w _
 have HN:=hid hn
 rw [hn]
 rw [hn] at h8
 clear hn h2
 go_enter func168,ntmps168
 go_wp2
 go_ret
 exact ⟨n,q,rfl,by omega,HN.out.symm,trivial,Apart.refl _ _⟩
theorem yI:Pick [] 169 #[] noneI firstG:=by
 refine ⟨fun _ _ _ _ _=>trivial,fun q w g c h K _ _ _ _ h2 h8=>?_⟩
 show Calls prog 169 #[.slice (some ⟨g,0,none⟩) K.length c] w _
 go_enter func169,ntmps169
 go_wp2
 go_ret
 exact ⟨0,q,rfl,by omega,rfl,trivial,Apart.refl _ _⟩
def i64P (q:Int):Prop:=-9223372036854775808≤q∧q≤9223372036854775807
def placeI (bt:Nat) (q:Int) (w:World):Prop:=Blk w bt #[.int .i64 q] 3∧i64P q
def placeG (q:Int) (K:List Kid) (i:Nat) (q1:Int):Prop:=q1=q - (wholeL (flat (K.take i))).size∧(0<i→0≤q1)∧∀ h:i<K.length,i+1<K.length→q1<(wholeL K[i].L).size
theorem oY {K:List Kid} (h:K.length≤n):flat (K.drop n)=[]:=by rw [List.drop_of_length_le h];rfl
def cutR (q:Int) (L A:List ByteArray) (s:ByteArray) (C:List ByteArray) (q':Int):Prop:=CutAt L q A s C q'
theorem FC:Way placeG cutR:=by
 refine ⟨fun q s _=>⟨rfl,by have z:(wholeL []).size=0:=rfl;omega,fun h=>absurd rfl h,fun h=>absurd rfl h⟩,fun q K i q1 A s C q' h hg hr=>?_⟩
 obtain ⟨g1,g2,g3⟩:=hg
 obtain ⟨r1,r2,r3,r4⟩:=hr
 have e:=jP h
 refine ⟨by rw [e,r1];simp only [List.append_assoc],by rw [aL];omega,fun hn=>?_,fun hn=>?_⟩
 ·by_cases hA:A=[]
  ·subst hA
   have:0<i:=by
    rcases Nat.eq_zero_or_pos i with rfl|h0
    ·exact absurd rfl hn
    ·exact h0
   have:=g2 this
   have z:(wholeL []).size=0:=rfl
   omega
  ·exact r3 hA
 ·by_cases hC:C=[]
  ·subst hC
   have hi:i+1<K.length:=by
    rcases Nat.lt_or_ge (i+1) K.length with g|g
    ·exact g
    ·exact absurd (oY g) hn
   have:=g3 h hi
   rw [r1,aL,aL,bO] at this
   have z:(wholeL []).size=0:=rfl
   omega
  ·exact r4 hC
structure SpI (bt:Nat) (w:World) (K:List Kid) (q:Int) (i:Nat) (q1:Int) (wr:World):Prop where
 blk:Blk wr bt #[.int .i64 q1] 3
 in':i64P q1
 at':q1=q - (wholeL (flat (K.take i))).size
 lo:0<i→0≤q1
 ap:Apart [bt] w wr
theorem oT (K:List Kid) (k:Nat) (h:k<K.length):(wholeL (flat (K.take (k+1)))).size=(wholeL (flat (K.take k))).size+(wholeL K[k].L).size:=by rw [qE K k h,aL]
set_option maxHeartbeats 1600000 in
theorem yE (bt:Nat):Pick [bt] 207 #[.pointer (some ⟨bt,0,none⟩)] (placeI bt) placeG:=by
 refine ⟨fun q w w' h hb=>⟨h.1.onto hb,h.2⟩,fun q w g c h M hgS hq hS hj h2 h8=>?_⟩
 show Calls prog 207 #[.slice (some ⟨g,0,none⟩) M.length c,.pointer (some ⟨bt,0,none⟩)] w _
 have hbt:bt<w.heap.size:=hS bt (by simp)
 have hg:g≠bt:=by simpa using hgS
 have hcf:∀ (a b c:Int) (W:World),(Instr.field 173 (cntV a b c) 0).run prog W=.ok (.int .i64 a) W:=fun a b c W=>by kernel_rfl
 obtain ⟨n,hn⟩:∃ n,M.length=n:=⟨_,rfl⟩
 rw [hn] at h2 h8 hj ⊢
 have HN:=hid hn;have HJ:=hid hj;have HS:=hid hS;have HG:=hid hg;have am:=hid hgS
 have aj:=hid hq;have ao:=hid hbt
 clear hn hj hS hg hgS hq hbt
 have e1:IntKind.i64.wrap ((n:Int) - 1)=(n:Int) - 1:=IntWalk.i64_in _ (by omega)
 go_enter func207,ntmps207
 go_wp2
 go_loopw [4] (fun v wr=>∃ (i:Nat) (q1:Int),v=.int .i64 i∧i<n∧SpI bt w M q i q1 wr) (fun v _=>n - (intOf v).toNat)
 case atStart=>exact ⟨0,q,rfl,by omega,aj.out.1,aj.out.2,by have z:(wholeL (flat (M.take 0))).size=0:=rfl;omega,fun h=>absurd h (Nat.lt_irrefl 0),Apart.refl _ _⟩
 case round =>
  obtain ⟨i,q1,rfl,hin,hI⟩:=hrel
  have hil:i<M.length:=by rw [HN.out];exact hin
  have hj:=HJ.out.apartS am.out hI.ap
  have r0:=hj.cell hin
  rw [Nat.zero_add] at r0
  have hgl:=hj.row.1
  obtain ⟨kv,-,hB⟩:=(hj.kids _ (List.getElem_mem hil)).cells
  have cc:∀ W,Below wr.heap.size wr W→Calls prog 139 #[pv M[i].b] W fun e w'=>e=.returned (cntV (wholeL M[i].L).size (runes (wholeL M[i].L).data.toList) (lines (wholeL M[i].L).data.toList))∧Below W.heap.size W w':=fun W hW=>qY (hB.onto hW)
  have hsz:=oT M i hil
  have hzz:(wholeL M[i].L).size≤1000000:=by
   have:=hj.size
   rw [jP hil,aL,aL] at this
   omega
  have ac:=hid (fun (W:World) (hW:Below wr.heap.size wr W) (hh:i+1<n→q1<(wholeL M[i].L).size)=>(show ∃ (i':Nat) (q1:Int),Ending.returned (.int .i64 i)=.returned (.int .i64 i')∧i'<n∧placeG q M i' q1∧placeI bt q1 W∧Apart [bt] w W from
   ⟨i,q1,rfl,hin,⟨hI.at',hI.lo,fun _ h=>hh (by rw [← HN.out];exact h)⟩,⟨hI.blk.onto hW,hI.in'⟩,hI.ap.trans (Apart.of_below hW:Apart [bt] wr W) (fun x hx=>.inl hx)⟩))
  have af:=hid (fun (W:World) (hW:Below wr.heap.size wr W) (hle:((wholeL M[i].L).size:Int)≤q1)=>(show SpI bt w M q (i+1) (q1 - (wholeL M[i].L).size) (W.setCell ⟨bt,0,none⟩ (.int .i64 (q1 - (wholeL M[i].L).size))) from
   ⟨(hI.blk.onto hW).set 0 _,by have:=hI.in';unfold i64P at this ⊢;omega,by rw [hsz];have:=hI.at';omega,fun _=>by omega,(hI.ap.trans (Apart.of_below hW:Apart [bt] wr W) (fun x hx=>.inl hx)).setCell (.inl (by simp)) _⟩))
  have ag:=hid (fun hle:((wholeL M[i].L).size:Int)≤q1=>(IntWalk.i64_in _ (by have:=hI.in';unfold i64P at this;omega):IntKind.i64.wrap (q1 - ((wholeL M[i].L).size:Int))=q1 - ((wholeL M[i].L).size:Int)))
  have HQ:=hid (And.intro (fun W (hW:Below wr.heap.size wr W)=>(hI.blk.onto hW).cell 0 (.int .i64 q1) rfl) (fun W (hW:Below wr.heap.size wr W)=>(hW.cell (p:=⟨g,i,none⟩) hgl).trans r0))
  have HF:=hid (fun W (hW:Below wr.heap.size wr W)=>(hI.blk.onto hW).free 0)
  obtain ⟨xb,hxb⟩:∃ xb,M[i].b=xb:=⟨_,rfl⟩
  obtain ⟨z,hz⟩:∃ z,(wholeL M[i].L).size=z:=⟨_,rfl⟩
  obtain ⟨R,hR⟩:∃ R,runes (wholeL M[i].L).data.toList=R:=⟨_,rfl⟩
  obtain ⟨Y,hY⟩:∃ Y,lines (wholeL M[i].L).data.toList=Y:=⟨_,rfl⟩
  rw [hxb,hz,hR,hY] at cc
  rw [hxb] at HQ
  rw [hz] at ac af ag hzz
  have CC:=hid cc;have aq:=hid hgl
  have hcf':=hcf z R Y
  have b1:(0:Int)≤(i:Int):=by omega
  have b2:(i:Int)<(n:Int):=by omega
  clear hj r0 hB cc hsz hI hil hxb hz hR hY hgl
  by_cases hlt:i+1<n
  ·have t1:decide ((i:Int)<(n:Int) - 1)=true:=decide_eq_true (by omega)
   have t2:(i:Int)<(n:Int) - 1:=by omega
   by_cases hge:(z:Int)≤q1
   ·have t3:decide ((z:Int)≤q1)=true:=decide_eq_true hge
    have HN:=hid (fun W (hW:Below wr.heap.size wr W)=>af.out W hW hge)
    have e2:=ag.out hge
    have E2:=hid e2
    clear e2
    go_wp2_with fail
    refine wp_region_held_drew (S:=(fun w':World=>Below wr.heap.size wr w'∧w'.cell? ⟨bt,0,none⟩=some (.int .i64 q1)∧w'.cell? ⟨g,i,none⟩=some (pv xb))) (by kernel_rfl) ⟨(Below.refl _ _).drew,HQ.out.1 wr (Below.refl _ _),HQ.out.2 wr (Below.refl _ _)⟩ (fun hHeld=>?_)
    refine sqt 0 ?_
    refine sqt 1 ?_
    refine sqt 2 ?_
    refine sqt 3 ?_
    refine sqt 4 ?_
    refine sqt 5 ?_
    refine sqt 6 ?_
    refine sqt 7 ?_
    refine sqt 8 ?_
    refine sqt 9 ?_
    refine sqt 10 ?_
    refine sqr 11 fun K hK=>?_
    go_simp
    (go_at_call 139;refine (CC.out _ hHeld.1).mono ?_;rintro e w2 ⟨rfl,ae⟩;have aa:=hid (hHeld.1.trans (ae.mono hHeld.1.size));clear ae)
    try go_wp2_with fail
    refine hK.out _ _ ?_ (fun hHeld=>?_)
    ·exact ⟨aa.out,HQ.out.1 w2 aa.out,HQ.out.2 w2 aa.out⟩
    clear hK K
    try simp only [Act.put,sqp]
    refine sqt 12 ?_
    refine sqt 13 ?_
    refine sqt 14 ?_
    refine wpAnyH_done (by kernel_rfl) ?_ _
    have CD:=hid (fun W (hW:Below w2.heap.size w2 W)=>CC.out W (aa.out.trans (hW.mono aa.out.size)))
    have ah:=hid (fun W (hW:Below w2.heap.size w2 W)=>HQ.out.1 W (aa.out.trans (hW.mono aa.out.size)))
    have ak:=hid (fun W (hW:Below w2.heap.size w2 W)=>HF.out W (aa.out.trans (hW.mono aa.out.size)))
    have ai:=hid (fun W (hW:Below w2.heap.size w2 W)=>HQ.out.2 W (aa.out.trans (hW.mono aa.out.size)))
    have al:=hid (fun W (hW:Below w2.heap.size w2 W)=>(World.cell?_of_block (w:=W) (a:=⟨g,i,none⟩) (Below.heap_setCell W ⟨bt,0,none⟩ (.int .i64 (q1 - z)) g HG.out)).trans (ai.out W hW))
    have e2:=E2.out
    go_wp2_with fail
    refine wp_region_held_drew (S:=(fun w':World=>Apart [bt] w2 w'∧w'.cell? ⟨g,i,none⟩=some (pv xb))) (by kernel_rfl) ⟨(Apart.refl _ _).drewN 1,ai.out w2 (Below.refl _ _)⟩ (fun hHeld=>?_)
    refine sqt 1 ?_
    refine sqt 2 ?_
    refine sqt 3 ?_
    refine sqt 4 ?_
    have z1:=ah.out w2.drew (Below.refl w2.heap.size w2).drew
    refine wpAnyH_ready (rs:=[0,5]) (by kernel_rfl) (by simp) ?_
    refine AllReadyH.cons (by simp only [sqg];rfl) (fun K hK=>?_) (AllReadyH.cons (by simp only [sqg];rfl) (fun K hK=>?_) AllReadyH.nil)
    ·go_simp
     try go_wp2_with fail
     refine hK.out _ _ ?_ (fun hHeld=>?_)
     ·exact hHeld
     clear hK K
     try simp only [Act.put,sqp]
     refine sqr 5 fun K hK=>?_
     go_simp
     (go_at_call 139;refine (CD.out _ (Below.refl w2.heap.size w2).drew).mono ?_;rintro e w3 ⟨rfl,ad⟩;have ab:=hid ((Below.refl w2.heap.size w2).drew.trans (ad.mono (Below.refl w2.heap.size w2).drew.size));have an:=hid ad;clear ad)
     try go_wp2_with fail
     refine hK.out _ _ ?_ (fun hHeld=>?_)
     ·exact ⟨.of_below ab.out,ai.out w3 ab.out⟩
     clear hK K
     try simp only [Act.put,sqp]
     refine sqt 6 ?_
     refine sqt 7 ?_
     have z2:=ah.out w3 ab.out
     have z3:=ak.out w3 ab.out
     refine sqr 8 fun K hK=>?_
     go_simp
     skip
     try go_wp2_with fail
     refine hK.out _ _ ?_ (fun hHeld=>?_)
     ·exact ⟨Apart.setCell (.of_below ab.out) (.inl (by simp)) _,al.out w3 ab.out⟩
     clear hK K
     try simp only [Act.put,sqp]
     refine wpAnyH_done (by kernel_rfl) ?_ _
     go_wp2_with fail
     go_roundw
     case rel=>exact ⟨i+1,_,by go_num,by omega,HN.out w3 (aa.out.trans (ab.out.mono aa.out.size))⟩
     case measure=>simp [intOf];omega
    ·go_simp
     (go_at_call 139;refine (CD.out _ (Below.refl w2.heap.size w2).drew).mono ?_;rintro e w3 ⟨rfl,ad⟩;have ab:=hid ((Below.refl w2.heap.size w2).drew.trans (ad.mono (Below.refl w2.heap.size w2).drew.size));have an:=hid ad;clear ad)
     try go_wp2_with fail
     refine hK.out _ _ ?_ (fun hHeld=>?_)
     ·exact ⟨.of_below ab.out,ai.out w3 ab.out⟩
     clear hK K
     try simp only [Act.put,sqp]
     refine sqt 6 ?_
     clear z1
     have z1:=ah.out w3 ab.out
     refine sqr 0 fun K hK=>?_
     go_simp
     try go_wp2_with fail
     refine hK.out _ _ ?_ (fun hHeld=>?_)
     ·exact hHeld
     clear hK K
     try simp only [Act.put,sqp]
     refine sqt 7 ?_
     have z2:=ah.out w3 ab.out
     have z3:=ak.out w3 ab.out
     refine sqr 8 fun K hK=>?_
     go_simp
     skip
     try go_wp2_with fail
     refine hK.out _ _ ?_ (fun hHeld=>?_)
     ·exact ⟨Apart.setCell (.of_below ab.out) (.inl (by simp)) _,al.out w3 ab.out⟩
     clear hK K
     try simp only [Act.put,sqp]
     refine wpAnyH_done (by kernel_rfl) ?_ _
     go_wp2_with fail
     go_roundw
     case rel=>exact ⟨i+1,_,by go_num,by omega,HN.out w3 (aa.out.trans (ab.out.mono aa.out.size))⟩
     case measure=>simp [intOf];omega
   ·have t3:decide ((z:Int)≤q1)=false:=decide_eq_false hge
    have HE:=hid (fun W (hW:Below wr.heap.size wr W)=>ac.out W hW (fun _=>by omega))
    clear af ac ag
    go_wp2_with fail
    refine wp_region_held_drew (S:=(fun w':World=>Below wr.heap.size wr w'∧w'.cell? ⟨bt,0,none⟩=some (.int .i64 q1)∧w'.cell? ⟨g,i,none⟩=some (pv xb))) (by kernel_rfl) ⟨(Below.refl _ _).drew,HQ.out.1 wr (Below.refl _ _),HQ.out.2 wr (Below.refl _ _)⟩ (fun hHeld=>?_)
    refine sqt 0 ?_
    refine sqt 1 ?_
    refine sqt 2 ?_
    refine sqt 3 ?_
    refine sqt 4 ?_
    refine sqt 5 ?_
    refine sqt 6 ?_
    refine sqt 7 ?_
    refine sqt 8 ?_
    refine sqt 9 ?_
    refine sqt 10 ?_
    refine sqr 11 fun K hK=>?_
    go_simp
    (go_at_call 139;refine (CC.out _ hHeld.1).mono ?_;rintro e w2 ⟨rfl,ae⟩;have aa:=hid (hHeld.1.trans (ae.mono hHeld.1.size));clear ae)
    try go_wp2_with fail
    refine hK.out _ _ ?_ (fun hHeld=>?_)
    ·exact ⟨aa.out,HQ.out.1 w2 aa.out,HQ.out.2 w2 aa.out⟩
    clear hK K
    try simp only [Act.put,sqp]
    refine sqt 12 ?_
    refine sqt 13 ?_
    refine sqt 14 ?_
    refine wpAnyH_done (by kernel_rfl) ?_ _
    go_wp2_with fail
    go_ret
    exact HE.out _ aa.out
  ·have t1:decide ((i:Int)<(n:Int) - 1)=false:=decide_eq_false (by omega)
   have t2:¬ (i:Int)<(n:Int) - 1:=by omega
   have HE:=hid (fun W (hW:Below wr.heap.size wr W)=>ac.out W hW (fun h=>absurd h hlt))
   clear af ac ag
   go_wp2_with fail
   refine wp_region_held_drew (S:=(fun w':World=>Below wr.heap.size wr w'∧w'.cell? ⟨bt,0,none⟩=some (.int .i64 q1)∧w'.cell? ⟨g,i,none⟩=some (pv xb))) (by kernel_rfl) ⟨(Below.refl _ _).drew,HQ.out.1 wr (Below.refl _ _),HQ.out.2 wr (Below.refl _ _)⟩ (fun hHeld=>?_)
   refine sqt 0 ?_
   refine sqt 1 ?_
   refine sqt 2 ?_
   refine sqt 3 ?_
   refine sqt 4 ?_
   refine sqt 5 ?_
   refine wpAnyH_take (i:=6) (v:=undef) (by simp only [sqg];rfl) (by kernel_rfl) (by kernel_rfl) (by kernel_rfl) (fun _ _ _ h=>by exact h) (Or.inr ⟨by rfl,rfl⟩) (by assumption) ?_
   try simp only [Act.put,sqp]
   refine wpAnyH_take (i:=7) (v:=undef) (by simp only [sqg];rfl) (by kernel_rfl) (by kernel_rfl) (by kernel_rfl) (fun _ _ _ h=>by exact h) (Or.inr ⟨by rfl,rfl⟩) (by assumption) ?_
   try simp only [Act.put,sqp]
   refine wpAnyH_take (i:=8) (v:=undef) (by simp only [sqg];rfl) (by kernel_rfl) (by kernel_rfl) (by kernel_rfl) (fun _ _ _ h=>by exact h) (Or.inr ⟨by rfl,rfl⟩) (by assumption) ?_
   try simp only [Act.put,sqp]
   refine wpAnyH_take (i:=9) (v:=undef) (by simp only [sqg];rfl) (by kernel_rfl) (by kernel_rfl) (by kernel_rfl) (fun _ _ _ h=>by exact h) (Or.inr ⟨by rfl,rfl⟩) (by assumption) ?_
   try simp only [Act.put,sqp]
   refine wpAnyH_take (i:=10) (v:=undef) (by simp only [sqg];rfl) (by kernel_rfl) (by kernel_rfl) (by kernel_rfl) (fun _ _ _ h=>by exact h) (Or.inr ⟨by rfl,rfl⟩) (by assumption) ?_
   try simp only [Act.put,sqp]
   refine wpAnyH_take (i:=11) (v:=undef) (by simp only [sqg];rfl) (by kernel_rfl) (by kernel_rfl) (by kernel_rfl) (fun _ _ _ h=>by exact h) (Or.inr ⟨by rfl,rfl⟩) (by assumption) ?_
   try simp only [Act.put,sqp]
   refine wpAnyH_take (i:=12) (v:=undef) (by simp only [sqg];rfl) (by kernel_rfl) (by kernel_rfl) (by kernel_rfl) (fun _ _ _ h=>by exact h) (Or.inr ⟨by rfl,rfl⟩) (by assumption) ?_
   try simp only [Act.put,sqp]
   refine wpAnyH_take (i:=13) (v:=undef) (by simp only [sqg];rfl) (by kernel_rfl) (by kernel_rfl) (by kernel_rfl) (fun _ _ _ h=>by exact h) (Or.inr ⟨by rfl,rfl⟩) (by assumption) ?_
   try simp only [Act.put,sqp]
   refine sqt 14 ?_
   refine wpAnyH_done (by kernel_rfl) ?_ _
   go_wp2_with fail
   go_ret
   exact HE.out _ (Below.refl _ _).drew
theorem Apart.below (h:Apart [] w w'):Below w.heap.size w w':=h.to_below (by simp) (Nat.le_refl _)
theorem Tr.first (t:Tr w S p L):∀ W,Below w.heap.size w W→Calls prog 165 #[.pointer p] W fun e w'=>e=.returned (.string (fstL L))∧Below W.heap.size W w':=fun W hW=>by
 rcases t with ⟨rfl,rfl⟩|⟨b,h,rfl,k⟩
 ·exact qT W
 ·obtain ⟨kv,-,hB⟩:=(k.later hW).cells
  exact pU hB
theorem Tr.last (t:Tr w S p L):∀ W,Below w.heap.size w W→Calls prog 164 #[.pointer p] W fun e w'=>e=.returned (.string (lstL L))∧Below W.heap.size W w':=fun W hW=>by
 rcases t with ⟨rfl,rfl⟩|⟨b,h,rfl,k⟩
 ·exact IU W
 ·obtain ⟨kv,-,hB⟩:=(k.later hW).cells
  exact JF hB
theorem Tr.bare (t:Tr w S p L):Tr w [] p L:=by
 rcases t with t|⟨b,h,e,k⟩
 ·exact .inl t
 ·exact .inr ⟨b,h,e,k.weak fun i hi=>⟨hi.1,by simp⟩⟩
theorem oV (x:ByteArray) (hz:x.size≤1000000) (w:World):Calls prog 170 #[.string x] w (RetTr [] w (leafL x)):=by
 unfold leafL
 by_cases h:fitsB x=true
 ·rw [if_pos h]
  exact (uI x (by unfold maxLen;omega) h w).mono fun e w' ⟨b,he,hb,hB,hbel⟩=>⟨_,he,.inr ⟨b,0,rfl,⟨hB.lt,by simp⟩,x,rfl,(aU x).1 h,hB⟩,hbel⟩
 ·rw [if_neg h]
  exact (NW x (by unfold maxLen;omega) (Bool.eq_false_iff.2 h) w).mono fun e w' ⟨he,hb⟩=>⟨none,he,.inl ⟨rfl,rfl⟩,hb⟩
def RetText (w:World) (s:ByteArray) (e:Ending) (w':World):Prop:=∃ p L,e=.returned (.pointer p)∧Tr w' [] p L∧TightP L∧wholeL L=s∧Below w.heap.size w w'
theorem fG (h:TightP L):(fstL L).size≤16∧(lstL L).size≤16:=by
 cases hL:L with
 | nil=>exact ⟨Nat.zero_le _,Nat.zero_le _⟩
 | cons x M =>
  subst hL
  have h0:0<(x::M).length:=by simp
  rw [sJ h0,tJ h0]
  exact ⟨(h _ _).1.2.1,(h _ _).1.2.1⟩
theorem lV (w:World):InS [] w:=fun m hm=>absurd hm (by simp)
set_option maxHeartbeats 1600000 in
theorem yO (t1:Tr w [] p L) (t2:Tr w [] q R) (hL:TightP L) (hR:TightP R) (hz:(wholeL (L++R)).size≤6000) (hn:(joinL (lstL L) (fstL R)).length≠1) :
 Calls prog 140 #[.pointer p,.pointer q] w (RetText w (wholeL L++wholeL R)):=by
 have c1:=t1.last
 have c2:=t2.first
 have z1:=(fG hL).2
 have z2:=(fG hR).1
 have cj:=vC (lstL L) (fstL R) (by omega) (by omega)
 have ct:=fun W (hW:Below w.heap.size w W)=>gC (lV W) (t1.later hW) (t2.later hW) hz
 have HE:=hid (fun W W' e (hb:Below w.heap.size w W) (h:RetTr [] W (L++R) e W')=>(show RetText w (wholeL L++wholeL R) e W' from by
  obtain ⟨p',h1,h2,h3⟩:=h
  exact ⟨p',_,h1,h2,IA hL hR hn,aE L R,hb.trans (h3.mono hb.size)⟩))
 obtain ⟨x,hx⟩:∃ x,lstL L=x:=⟨_,rfl⟩
 obtain ⟨y,hy⟩:∃ y,fstL R=y:=⟨_,rfl⟩
 rw [hx] at c1
 rw [hy] at c2
 rw [hx,hy] at cj hn
 obtain ⟨n,hjn⟩:∃ n,(joinL x y).length=n:=⟨_,rfl⟩
 unfold RetStrs at cj
 rw [hjn] at cj hn
 have b1:((n:Int) == 1)=false:=by simpa using (show ¬ (n:Int)=1 by omega)
 have b2:(n == 1)=false:=by simpa using hn
 have b3:((n:Int) != 1)=true:=by simpa using (show ¬ (n:Int)=1 by omega)
 have b4:(n != 1)=true:=by simpa using hn
 have C1:=hid c1;have C2:=hid c2;have CJ:=hid cj;have CT:=hid ct
 clear c1 c2 z1 z2 cj ct hx hy hjn hn t1 t2 hL hR hz
 go_enter func140,ntmps140
 go_wp2_with fail
 refine (C1.out _ (Below.refl _ _)).mono ?_;rintro e w1 ⟨rfl,aa⟩
 have ab:=hid aa
 clear aa
 go_wp2_with fail
 refine (onward ab.out (C2.out _ ab.out)).mono ?_;rintro e w2 ⟨rfl,ac⟩
 have ad:=hid ac
 clear ac
 go_wp2_with fail
 refine (CJ.out w2).mono ?_;rintro e w3 ⟨a,c,rfl,-,ae⟩
 have af:=hid (ad.out.trans (ae.mono ad.out.size))
 clear ae
 go_wp2_with fail
 refine (CT.out w3 af.out).mono ?_;intro e w4 hr
 have HR:=hid (HE.out w3 w4 e af.out hr)
 obtain ⟨p',rfl,-,-⟩:=hr
 go_wp2
 go_ret
 exact HR.out
set_option maxHeartbeats 1600000 in
theorem zB (t1:Tr w [] p L) (t2:Tr w [] q R) (hL:TightP L) (hR:TightP R) (hz:(wholeL (L++R)).size≤6000) (hn:(joinL (lstL L) (fstL R)).length=1) :
 Calls prog 140 #[.pointer p,.pointer q] w (RetText w (wholeL L++wholeL R)):=by
 have c1:=t1.last
 have c2:=t2.first
 have z1:=(fG hL).2
 have z2:=(fG hR).1
 have cj:=vC (lstL L) (fstL R) (by omega) (by omega)
 have hj:=vK hn
 obtain ⟨f1,f2,f3⟩:=(gA _ _).1 hn
 rcases t1 with ⟨-,rfl⟩|⟨b1,h1,rfl,k1⟩
 ·exact absurd f1.1 (show ¬ 1≤(0:Nat) by decide)
 rcases t2 with ⟨-,rfl⟩|⟨b2,h2,rfl,k2⟩
 ·exact absurd f2.1 (show ¬ 1≤(0:Nat) by decide)
 have hz':=hz
 rw [aL] at hz'
 have g1:=k1.high (by omega)
 have g2:=k2.high (by omega)
 have ca:=fun W (hW:Below w.heap.size w W)=>jE (fun _ _=>by rfl) EA GW h1 (by omega) W b1 L 0 (k1.later hW) (lV W) trivial (by omega)
 have cb:=fun W (hW:Below w.heap.size w W)=>jE (fun _ _=>by rfl) yI DA h2 (by omega) W b2 R 0 (k2.later hW) (lV W) trivial (by omega)
 have cl:=oV (lstL L++fstL R) (by rw [ByteArray.size_append];omega)
 have hlf:leafL (lstL L++fstL R)=[lstL L++fstL R]:=by
  unfold leafL
  rw [if_pos ((aU _).2 (sP f1 f2 f3))]
 rw [hlf] at cl
 have hend:∀ (A C:List ByteArray) (s1 s2:ByteArray),L=A++([s1]++[])→R=[]++([s2]++C)→TightP (A++([lstL L++fstL R]++C))∧wholeL (A++([lstL L++fstL R]++C))=wholeL L++wholeL R:=fun A C s1 s2 e1 e2=>by
  rw [List.append_nil] at e1
  rw [List.nil_append] at e2
  have x1:lstL L=s1:=by rw [e1];exact BM A s1
  have x2:fstL R=s2:=by rw [e2];rfl
  rw [x1,x2] at f3
  rw [e1] at hL
  rw [e2] at hR
  have:=LD hL hR f3
  rw [x1,x2,e1,e2]
  exact this
 have ct:∀ W p1 p2 p3 A C s1 s2,Tr W [] p1 A→Tr W [] p2 [lstL L++fstL R]→Tr W [] p3 C→L=A++([s1]++[])→R=[]++([s2]++C)→Below w.heap.size w W→Calls prog 166 #[.slice (some ⟨W.heap.size,0,none⟩) (3:Nat) (3:Nat)] (W.alloc (.cells #[.pointer p1,.pointer p2,.pointer p3] 128)) (RetText w (wholeL L++wholeL R)):=fun W p1 p2 p3 A C s1 s2 u1 u2 u3 e1 e2 hW=>by
  obtain ⟨y1,y2⟩:=hend A C s1 s2 e1 e2
  refine (pF (lV W) u1 u2 u3 (by rw [y2,ByteArray.size_append];exact hz')).mono ?_
  rintro e w' ⟨p',h1,h2,h3⟩
  exact ⟨p',_,h1,h2,y1,y2,hW.trans (h3.mono hW.size)⟩
 obtain ⟨x,hx⟩:∃ x,lstL L=x:=⟨_,rfl⟩
 obtain ⟨y,hy⟩:∃ y,fstL R=y:=⟨_,rfl⟩
 rw [hx] at c1
 rw [hy] at c2
 rw [hx,hy] at cj hj cl ct
 unfold RetStrs at cj
 rw [hj] at cj
 obtain ⟨xy,hxy⟩:∃ xy,x++y=xy:=⟨_,rfl⟩
 rw [hxy] at cj cl ct
 have C1:=hid c1;have C2:=hid c2;have CJ:=hid cj;have CA:=hid ca;have CB:=hid cb;have CL:=hid cl;have CT:=hid ct
 clear c1 c2 z1 z2 cj ca cb cl ct hx hy hxy hj hn hend hlf f1 f2 f3 k1 k2 hL hR hz hz' g1 g2
 go_enter func140,ntmps140
 go_wp2_with fail
 refine (C1.out _ (Below.refl _ _)).mono ?_;rintro e w1 ⟨rfl,ag⟩
 have ah:=hid ag
 clear ag
 go_wp2_with fail
 refine (onward ah.out (C2.out _ ah.out)).mono ?_;rintro e w2 ⟨rfl,ai⟩
 have aj:=hid ai
 clear ai
 go_wp2_with fail
 refine (CJ.out w2).mono ?_;rintro e w3 ⟨a,c,rfl,hst,ak⟩
 obtain ⟨ad,rfl,hab,q0⟩:=hst 0 (by simp)
 have ar:=hid (show w3.cell? ad=some (.string xy) by simpa [Addr.add] using q0)
 have au:=hid (show ad.block<w3.heap.size from hab)
 have ab:=hid (aj.out.trans (ak.mono aj.out.size))
 clear ak hst hab q0
 go_wp2_with fail
 refine (CA.out w3 ab.out).mono ?_;rintro e w4 ⟨p1,A,s1,p2,C1',q',rfl,t1,-,e1,r1,-,al⟩
 unfold lastR at r1
 subst r1
 have ac:=al.below
 have ae:=hid (ab.out.trans (ac.mono ab.out.size));have am:=hid ac;have av:=hid t1;have aw:=hid e1
 clear t1 e1 al ac
 go_wp2_with fail
 refine (CB.out w4 ae.out).mono ?_;rintro e w5 ⟨p3,A2,s2,p4,C2',q2,rfl,-,t4,e2,r2,-,an⟩
 unfold firstR at r2
 subst r2
 have aa:=an.below
 have ao:=hid (ae.out.trans (aa.mono ae.out.size));have ax:=hid aa;have ay:=hid t4;have az:=hid e2
 have q0:w5.cell? ad=some (.string xy):=((am.out.trans (aa.mono am.out.size)).cell au.out).trans ar.out
 clear t4 e2 an aa
 go_wp2_with fail
 refine (CL.out w5).mono ?_;rintro e w6 ⟨p5,rfl,t5,af⟩
 have a0:=hid (ao.out.trans (af.mono ao.out.size));have aq:=hid af;have a1:=hid t5
 clear t5 af
 go_wp2_with fail
 refine (CT.out w6 p1 p5 p4 A C2' s1 s2 ((av.out.later ax.out).later aq.out) a1.out (ay.out.later aq.out) aw.out az.out a0.out).mono ?_
 rintro e w7 ⟨p',L',rfl,hr⟩
 have HR:=hid (show RetText w (wholeL L++wholeL R) (.returned (.pointer p')) w7 from ⟨p',L',rfl,hr⟩)
 clear hr
 go_wp2
 go_ret
 exact HR.out
theorem fM (t1:Tr w [] p L) (t2:Tr w [] q R) (hL:TightP L) (hR:TightP R) (hz:(wholeL (L++R)).size≤6000) :
 Calls prog 140 #[.pointer p,.pointer q] w (RetText w (wholeL L++wholeL R)):=by
 by_cases hn:(joinL (lstL L) (fstL R)).length=1
 ·exact zB t1 t2 hL hR hz hn
 ·exact yO t1 t2 hL hR hz hn
structure CutP2 (L:List ByteArray) (at':Int) (A:List ByteArray) (s:ByteArray) (C:List ByteArray) (q:Int):Prop where
 ta:TightP A
 tc:TightP C
 small:s.size≤16
 le:backI s.data.toList q≤s.size
 t1:TightP (leafL (s.extract 0 (backI s.data.toList q)))
 w1:wholeL (leafL (s.extract 0 (backI s.data.toList q)))=s.extract 0 (backI s.data.toList q)
 t2:TightP (leafL (s.extract (backI s.data.toList q) s.size))
 w2:wholeL (leafL (s.extract (backI s.data.toList q) s.size))=s.extract (backI s.data.toList q) s.size
 e1:(wholeL L).extract 0 (backI (wholeL L).data.toList at')=wholeL A++s.extract 0 (backI s.data.toList q)
 e2:(wholeL L).extract (backI (wholeL L).data.toList at') (wholeL L).size=s.extract (backI s.data.toList q) s.size++wholeL C
theorem CutAt.made {A C:List ByteArray} {s:ByteArray} {p q:Int} (h:CutAt L p A s C q) (hL:TightP L):CutP2 L p A s C q:=by
 obtain ⟨h1,h2,h3,h4,h5,h6,h7,h8,h9,h10⟩:=h.parts hL
 exact ⟨h1,h2,h3.2.1,h4,h5,h6,h7,h8,h9,h10⟩
theorem cC (a b:Nat):(⟨#[]⟩:ByteArray).extract a b=⟨#[]⟩:=by
 apply aI
 rw [aC]
 simp
theorem eM:leafL ⟨#[]⟩=[]:=by unfold leafL;rw [if_neg (by decide +kernel)]
theorem GR (p:Int):CutP2 [] p [] ⟨#[]⟩ [] p:=by
 have h:backI (⟨#[]⟩:ByteArray).data.toList p≤0:=by have:=fV (⟨#[]⟩:ByteArray).data.toList p;simpa using this
 refine ⟨aQ,aQ,Nat.zero_le _,h,?_,?_,?_,?_,?_,?_⟩
 ·rw [cC,eM];exact aQ
 ·rw [cC,eM];rfl
 ·rw [cC,eM];exact aQ
 ·rw [cC,eM];rfl
 ·show (⟨#[]⟩:ByteArray).extract _ _=⟨#[]⟩++(⟨#[]⟩:ByteArray).extract _ _
  rw [cC,cC];rfl
 ·show (⟨#[]⟩:ByteArray).extract _ _=(⟨#[]⟩:ByteArray).extract _ _++⟨#[]⟩
  rw [cC,cC];rfl
def RetSplit (w:World) (s t:ByteArray) (e:Ending) (w':World):Prop:=
 ∃ p L q R,e=.returned (.tuple #[.pointer p,.pointer q])∧Tr w' [] p L∧Tr w' [] q R∧TightP L∧TightP R∧wholeL L=s∧wholeL R=t∧Below w.heap.size w w'
def RetDown (bt:Nat) (w1:World) (L:List ByteArray) (at':Int) (e:Ending) (w':World):Prop:=
 ∃ p1 A s p2 C q,e=.returned (.tuple #[.pointer p1,.string s,.pointer p2])∧Tr w' [] p1 A∧Tr w' [] p2 C∧CutP2 L at' A s C q∧w'.cell? ⟨bt,0,none⟩=some (.int .i64 q)∧(wholeL A).size≤(wholeL L).size∧(wholeL C).size≤(wholeL L).size∧Apart [bt] w1 w'
theorem ME {bt:Nat} {at':Int} (t:Tr w [bt] p L) (hL:TightP L) (hz:(wholeL L).size≤6000) (hq:placeI bt at' w) :
 Calls prog 167 #[.pointer p,.func (.func 207) #[] #[.pointer (some ⟨bt,0,none⟩)]] w (RetDown bt w L at'):=by
 have hlt:=hq.1.lt
 rcases t with ⟨rfl,rfl⟩|⟨b,h,rfl,k⟩
 ·refine (zP _ w).mono ?_
  rintro e w' ⟨rfl,hb⟩
  exact ⟨none,[],_,none,[],at',rfl,.inl ⟨rfl,rfl⟩,.inl ⟨rfl,rfl⟩,GR at',(hq.1.onto hb).cell 0 _ rfl,Nat.le_refl _,Nat.le_refl _,.of_below hb⟩
 ·have g:=k.high hz
  refine (jE (fun _ _=>by rfl) (yE bt) FC h (by omega) w b L at' k (fun m hm=>by rw [List.mem_singleton.1 hm];exact hlt) hq hz).mono ?_
  rintro e w' ⟨p1,A,s,p2,C,q,rfl,t1,t2,he,hr,hq',ha⟩
  refine ⟨p1,A,s,p2,C,q,rfl,t1.bare,t2.bare,CutAt.made hr hL,hq'.1.cell 0 _ rfl,?_,?_,ha⟩
  ·rw [he,aL];omega
  ·rw [he,aL,aL];omega
set_option maxHeartbeats 1600000 in
theorem pW {at':Int} (t:Tr w [] p L) (hL:TightP L) (hz:(wholeL L).size≤5000) (hat:i64P at') :
 Calls prog 187 #[.pointer p,.int .i64 at'] w (RetSplit w ((wholeL L).extract 0 (backI (wholeL L).data.toList at')) ((wholeL L).extract (backI (wholeL L).data.toList at') (wholeL L).size)):=by
 have hmf:∀ (fn:Fn) (first cap:Array Value) (w:World),(Instr.makeFunc fn first cap).run prog w=.ok (.func fn first cap) w:=fun _ _ _ _=>rfl
 have ae:Below w.heap.size w (w.alloc (.cells #[.int .i64 at'] 3)):=(Below.refl _ _).alloc (Nat.le_refl _) _
 have ao:Tr (w.alloc (.cells #[.int .i64 at'] 3)) [w.heap.size] p L:=by
  rcases t with t|⟨b,h,e,k⟩
  ·exact .inl t
  ·exact .inr ⟨b,h,e,k.beside ae (Nat.le_refl _)⟩
 have cd:=ME ao hL (by omega) ⟨Blk.new w _ _,hat⟩
 have HZ:=hid hz
 obtain ⟨s1,af⟩:∃ s1,(wholeL L).extract 0 (backI (wholeL L).data.toList at')=s1:=⟨_,rfl⟩
 obtain ⟨s2,ag⟩:∃ s2,(wholeL L).extract (backI (wholeL L).data.toList at') (wholeL L).size=s2:=⟨_,rfl⟩
 rw [af,ag]
 have ay:=hid af;have az:=hid ag;have CD:=hid cd;have aq:=hid ae
 clear af ag cd ae ao t hL hz hat
 go_enter func187,ntmps187
 go_wp2_with fail
 refine CD.out.mono ?_;rintro e w2 ⟨p1,A,s,p2,C,q,rfl,t1,t2,hc,hcell,z1,z2,ha⟩
 have ar:Below w.heap.size w w2:=aq.out.trans (ha.to_below (by simp) aq.out.size)
 have cb:=iK s (by have:=hc.small;unfold maxLen;omega) q w2
 have h16:=hc.small
 have hle:=hc.le
 obtain ⟨n,hn⟩:∃ n,backI s.data.toList q=n:=⟨_,rfl⟩
 have ah:=ay.out.symm.trans hc.e1
 have ai:=az.out.symm.trans hc.e2
 have aj:=hc.t1
 have ak:=hc.t2
 have aa:=hc.w1
 have ab:=hc.w2
 rw [hn] at cb hle ah ai aj ak aa ab
 have y1:=cH s n hle
 have y2:=dN s n
 have cl1:=oV (s.extract 0 n) (by omega)
 have cl2:=oV (s.extract n s.size) (by omega)
 have cc1:∀ W q,Below w2.heap.size w2 W→Tr W [] q (leafL (s.extract 0 n))→Calls prog 140 #[.pointer p1,.pointer q] W (RetText W s1):=fun W q hW tq=>by
  have:=fM (t1.later hW) tq hc.ta aj (by rw [aL,aa];have:=HZ.out;omega)
  rwa [aa,← ah] at this
 have cc2:∀ W q,Below w2.heap.size w2 W→Tr W [] q (leafL (s.extract n s.size))→Calls prog 140 #[.pointer q,.pointer p2] W (RetText W s2):=fun W q hW tq=>by
  have:=fM tq (t2.later hW) ak hc.tc (by rw [aL,ab];have:=HZ.out;omega)
  rwa [ab,← ai] at this
 have au:=hid ar;have CB:=hid cb;have L1:=hid cl1;have L2:=hid cl2;have C1:=hid cc1;have C2:=hid cc2
 have b1:(n:Int)≤(s.size:Int):=by omega
 have b2:(0:Int)≤(n:Int):=by omega
 clear t1 t2 hc z1 z2 ha ar cb hn ah ai aj ak aa ab y1 y2 cl1 cl2 cc1 cc2
 go_wp2_with fail
 refine CB.out.mono ?_;rintro e w3 ⟨rfl,rfl⟩
 go_wp2_with fail
 refine wp_region_held_drew (S:=(fun w':World=>Below w2.heap.size w2 w')) (by kernel_rfl) (Below.refl _ _).drew (fun hHeld=>?_)
 refine sqt 0 ?_
 refine sqt 1 ?_
 refine sqt 2 ?_
 refine sqt 3 ?_
 refine sqt 6 ?_
 refine sqt 7 ?_
 refine sqt 8 ?_
 refine sqt 10 ?_
 refine sqr 4 fun K hK=>?_
 go_simp
 (go_at_call 170;refine (L1.out _).mono ?_;rintro e w3 ⟨u1,rfl,v1,av⟩;have ac:=hid (hHeld.trans (av.mono hHeld.size));have a0:=hid v1;clear v1 av)
 try go_wp2_with fail
 refine hK.out _ _ ?_ (fun hHeld=>?_)
 ·exact ac.out
 clear hK K
 try simp only [Act.put,sqp]
 refine sqr 5 fun K hK=>?_
 go_simp
 (go_at_call 140;refine (C1.out w3 u1 ac.out a0.out).mono ?_;rintro e w4 ⟨u2,M2,rfl,v2,k2,x2,aw⟩;have al:=hid (ac.out.trans (aw.mono ac.out.size));have a1:=hid v2;have a2:=hid k2;have a3:=hid x2;clear v2 k2 x2 aw)
 try go_wp2_with fail
 refine hK.out _ _ ?_ (fun hHeld=>?_)
 ·exact al.out
 clear hK K
 try simp only [Act.put,sqp]
 refine sqr 9 fun K hK=>?_
 go_simp
 (go_at_call 170;refine (L2.out w4).mono ?_;rintro e w5 ⟨u3,rfl,v3,am⟩;have ad:=hid (al.out.trans (am.mono al.out.size));have a4:=hid am;have a5:=hid v3;clear v3 am)
 try go_wp2_with fail
 refine hK.out _ _ ?_ (fun hHeld=>?_)
 ·exact ad.out
 clear hK K
 try simp only [Act.put,sqp]
 refine sqr 11 fun K hK=>?_
 go_simp
 (go_at_call 140;refine (C2.out w5 u3 ad.out a5.out).mono ?_;rintro e w6 ⟨u4,M4,rfl,v4,k4,x4,an⟩;have ax:=hid (ad.out.trans (an.mono ad.out.size));have a6:=hid an;have a7:=hid v4;have a8:=hid k4;have a9:=hid x4;clear v4 k4 x4 an)
 try go_wp2_with fail
 refine hK.out _ _ ?_ (fun hHeld=>?_)
 ·exact ax.out
 clear hK K
 try simp only [Act.put,sqp]
 refine sqt 12 ?_
 refine sqt 13 ?_
 refine wpAnyH_done (by kernel_rfl) ?_ _
 go_wp2_with fail
 go_ret2
 exact ⟨u2,M2,u4,M4,rfl,(a1.out.later a4.out).later a6.out,a7.out,a2.out,a8.out,a3.out,a9.out,au.out.trans (ax.out.mono au.out.size)⟩
end Go.Proofs.YtbagenpobcgjnaaGreat
