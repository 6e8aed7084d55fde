/-
  Joined: WeldTogether, WeldAr, WeldPick, WeldCut, WeldTight.
-/
import Derived.Test.YtbagenpobcgjnaaGreatJKnotDev6
import Derived.Laws.EntriesVeiled
open ByteArray renaming size_append->Af
open Go renaming Addr->Ae,Calls->zq,Ending->Am,FuncId->An,Good->zy,Value->Aa,World->zo,bodyPost_ret->Ar,results->Au,undef->Ai,wpAnyH_done->Ag,wpAnyH_take->Ah,wp_region_held_drew->Al
open Go.Act renaming put->zp
open Go.Ending renaming returned->zv
open Go.IntKind renaming i64->zt
open Go.Lib renaming hid->zk
open Go.Obj renaming cells->zu
open Go.RowKit renaming Below->zn,intOf->Ak
open Go.RowKit.Below renaming refl->zr
open Go.Value renaming int->zx,pointer->zm,slice->zw,string->zz,tuple->Ad
open Go.World renaming cell?_alloc_new->Ao
open List renaming append_assoc->Bc,append_nil->A6,eq_nil_of_length_eq_zero->A9,flatten_append->Az,getElem_mem->Av,length_map->A4,map_append->Ay,nil_append->A7,take_append_drop->A0
open Nat renaming eq_zero_or_pos->A8,le_refl->Ab,le_trans->A5,lt_or_ge->Ax,zero_add->Aq,zero_le->Ap
open Or renaming inr->Aj
variable {L R:List ByteArray} {S:List Nat} {c g h n o:Nat} {p q:Option Go.Addr} {w w':Go.World}
namespace Go.Proofs.YtbagenpobcgjnaaGreat
open Go.Proofs.Tryz
set_option maxRecDepth 100000
open Lib (hid)
open Go.RowKit
set_option linter.unusedVariables false
set_option linter.unusedSimpArgs false
def Tr (w:zo) (S:List Nat) (p:Option Ae) (L:List ByteArray):Prop:=(p=none∧L=[])∨∃ b h,p=some ⟨b,0,none⟩∧mb w (ph S w) h b L
theorem Tr.later (t:Tr w S p L) (hb:zn w w w'):Tr w' S p L:=by
 rcases t with t|⟨b,h,e,k⟩
 ·exact .inl t
 ·exact .inr ⟨b,h,e,k.later hb⟩
theorem mb.high {b:Nat} (k:mb w (ph S w) h b L) (hz:(ly L).size≤6000):h≤12:=by
 obtain ⟨h1,h2⟩:=k.chunks;have h3:=OW h1;rcases Ax 12 h with g|g
 ·have:2 ^ 13≤2 ^ h:=Nat.pow_le_pow_right lj g;omega
 ·exact g
def rj (S:List Nat) (w:zo) (L:List ByteArray) (e:Am) (w':zo):Prop:=∃ p,e=zv (zm p)∧Tr w' S p L∧zn w w w'
theorem rj.from {w1:zo} {e:Am} (r:rj S w1 L e w') (hb:zn w w w1):rj S w L e w':=by
 obtain ⟨p,h1,h2,h3⟩:=r;exact ⟨p,h1,h2,hb.trans (h3.mono hb.size)⟩
set_option maxHeartbeats 800000 in
theorem TJ {K:List pd} (p:m7 w (ph S w) g o 1 h K) :
 zq prog 172 #[zw (some ⟨g,o,none⟩) (1:Nat) c] w (rj S w (flat K)):=by
 have ce:=p.even (c:=c) lj;have CE:=zk ce;have HP:=zk p;clear ce p;go_enter func172,ntmps172;go_wp2_with fail;refine CE.out.mono ?_;rintro e w1 ⟨rfl,aa⟩;obtain ⟨b,q0,hk⟩:=(HP.out.on aa).one;have ab:=zk aa;have HR:=zk (show rj S w (flat K) (zv (pv b)) w1 from ⟨_,rfl,.inr ⟨b,h,rfl,hk.weak fun i hi=>hi.on aa.size⟩,aa⟩);clear aa hk;go_wp2
 go_loopw [0] (fun t wr=>t=zw (some ⟨g,o,none⟩) 1 c∧wr=w1) (fun _ _=>0)
 case atStart=>exact ⟨rfl,rfl⟩
 case round =>
  obtain ⟨rfl,rfl⟩:=hrel;go_wp2;go_ret;exact HR.out
set_option maxHeartbeats 800000 in
theorem SC {K:List pd} (hS:qg S w) (p:m7 w (ph S w) g o n h K) (h2:2≤n) (h8:n≤8) :
 zq prog 172 #[zw (some ⟨g,o,none⟩) n c] w (rj S w (flat K)):=by
 have ce:=p.even (c:=c) lg;have cj:=fun W (hW:zn w w W)=>eK (c:=c) (p.on hW) h2 h8;have CE:=zk ce;have CJ:=zk cj;have HS:=zk hS;clear ce cj p hS;have t1:((n:Int) == 0)=false:=by simpa using (show ¬ (n:Int)=0 by omega)
 have t2:(n == 0)=false:=by simpa using (show ¬ n=0 by omega)
 have t3:((n:Int) == 1)=false:=by simpa using (show ¬ (n:Int)=1 by omega)
 have t4:(n == 1)=false:=by simpa using (show ¬ n=1 by omega)
 have t5:¬ (8:Int)<(n:Int):=lg;go_enter func172,ntmps172;go_wp2_with fail;refine CE.out.mono ?_;rintro e w1 ⟨rfl,ab⟩;have aa:=zk ab;clear ab;go_wp2
 go_loopw [0] (fun t wr=>t=zw (some ⟨g,o,none⟩) n c∧wr=w1) (fun _ _=>0)
 case atStart=>exact ⟨rfl,rfl⟩
 case round =>
  obtain ⟨rfl,rfl⟩:=hrel;go_wp2_with fail;refine (CJ.out _ aa.out).mono ?_;rintro e w2 ⟨b,gb,cb,rfl,hbb,hgg,hkn,ac⟩;have hs:=aa.out.size;have hbw:=aa.out.trans (ac.mono hs);have HR:=zk (show rj S w (flat K) (zv (pv b)) w2 from ⟨_,rfl,.inr ⟨b,h+1,rfl,hkn.made HS.out lg lg hbw.size⟩,hbw⟩);clear hbb hgg hkn ac hbw;go_wp2;go_ret;exact HR.out
theorem IY {K:List pd} (hS:qg S w) (p:m7 w (ph S w) g o n h K) (h1:1≤n) (h8:n≤8) :
 zq prog 172 #[zw (some ⟨g,o,none⟩) n c] w (rj S w (flat K)):=by
 by_cases e:n=1
 ·subst e;exact TJ p
 ·exact SC hS p lg h8
theorem BF {a:Option Ae} (w:zo):zq prog 172 #[zw a 0 c] w fun e w'=>e=zv (zm none)∧zn w w w':=by
 go_enter func172,ntmps172;go_wp2;go_ret;exact ⟨rfl,zr _ _⟩
abbrev zh:=Option Ae×List ByteArray
def wi (X:List zh):List Aa:=X.map fun x=>zm x.1
def ww (X:List zh):List ByteArray:=(X.map Prod.snd).flatten
theorem NX (X:List zh) (k:Nat) (h:k<X.length):ww (X.take (k+1))=ww (X.take k)++X[k].2:=by
 unfold ww;rw [List.take_succ_eq_append_getElem h,Ay,Az];simp
theorem TX (X:List zh) (k:Nat):(ly (ww (X.take k))).size≤(ly (ww X)).size:=by
 have e:ww X=ww (X.take k)++ww (X.drop k):=by
  unfold ww;rw [← Az,← Ay,A0]
 rw [e,aJ,Af];omega
structure TgI (S:List Nat) (w1:zo) (X:List zh) (k:Nat) (p:Option Ae) (wr:zo):Prop where
 t:Tr wr S p (ww (X.take k))
 bel:zn w1 w1 wr
set_option maxHeartbeats 1600000 in
theorem lW {X:List zh} (hS:qg S w) (hr:qr w g 0 (wi X)) (hn:X.length=n) (h3:n≤3) (hX:∀ x∈X,Tr w S x.1 x.2) (hz:(ly (ww X)).size≤6000) :
 zq prog 166 #[zw (some ⟨g,0,none⟩) n c] w (rj S w (ww X)):=by
 have hmf:∀ (fn:Fn) (first cap:Array Aa) (w:zo),(Instr.makeFunc fn first cap).run prog w=.ok (.func fn first cap) w:=fun _ _ _ _=>rfl;have HS:=zk hS;have HR:=zk hr;have HN:=zk hn;have HX:=zk hX;have HZ:=zk hz;clear hS hr hn hX hz;go_enter func166,ntmps166;go_wp2;have ad:zn w w (w.alloc (zu #[vu w] 230)):=(zr _ _).alloc (Ab _) _;have hbx:(w.alloc (zu #[vu w] 230)) ⟨w,0,none⟩=some (vu w):=(l6.new w #[vu w] 230).cell 0 _ rfl;have hsz:w.heap.size<(w.alloc (zu #[vu w] 230)):=li;obtain ⟨w1,hw⟩:∃ w1,w1=w.alloc (zu #[vu w] 230):=⟨_,rfl⟩;rw [← hw] at ad hbx hsz;rw [← hw];obtain ⟨bl,hbl⟩:∃ bl,w.heap.size=bl:=⟨_,rfl⟩;rw [hbl] at hbx hsz;simp only [hbl];have HW:=zk ad;have aj:=zk hbx;have ak:=zk hsz;clear hw ad hbx hsz hbl hmf
 go_loopw [4,10] (fun v i wr=>∃ (k:Nat) (p:Option Ae),k≤n∧v=zm p∧i=zx zt k∧TgI S w1 X k p wr) (fun _ i _=>n - (Ak i).toNat)
 case atStart=>exact ⟨0,none,Ap _,rfl,rfl,.inl ⟨rfl,rfl⟩,zr _ _⟩
 case round =>
  obtain ⟨k,p,hk,rfl,rfl,hI⟩:=hrel;by_cases hlt:k<n
  ·have hkl:k<X.length:=by rw [HN.out];exact hlt
   have hbw:=HW.out.trans (hI.bel.mono HW.out.size);have q0:=(HR.out.on hbw).2 k (by unfold wi;rw [A4];exact hkl);rw [show (wi X)[k]'(by unfold wi;rw [A4];exact hkl)=zm X[k].1 by simp [wi],Aq] at q0;have ht:=(HX.out X[k] (Av hkl)).later hbw;have hst:=NX X k hkl;have hcz:=A5 (TX X (k+1)) HZ.out;obtain ⟨x,hx⟩:∃ x,X[k]=x:=⟨_,rfl⟩;rw [hx] at q0 ht hst;obtain ⟨xp,xl⟩:=x;dsimp only at q0 ht hst;rw [hst] at hcz;have b1:(k:Int)<(n:Int):=lg;have ac:(ly (ww (X.take k))).size≤6000:=by rw [aJ,Af] at hcz;omega
   have ab:(ly xl).size≤6000:=by rw [aJ,Af] at hcz;omega
   rcases ht with ⟨rfl,rfl⟩|⟨b,h,rfl,kb⟩
   ·have kh:=pW wr;have HN:=zk (fun W (hW:zn wr wr W)=>(show TgI S w1 X (k+1) p W from ⟨by rw [hst,A6];exact hI.t.later hW,hI.bel.trans (hW.mono hI.bel.size)⟩));have KH:=zk kh;clear kh hI hst hcz hx hkl hbw ac ab;go_wp2_with fail;refine KH.out.mono ?_;rintro e w2 ⟨rfl,aa⟩;have ae:=zk (HN.out w2 aa);clear aa;go_wp2;go_roundw
    case rel=>exact ⟨k+1,p,lg,rfl,by go_num,ae.out⟩
    case measure=>simp [Ak];omega
   ·have kh:=(kb.hgt (by have:=kb.high ab;omega)).call;have KH:=zk kh;rcases hI.t with ⟨rfl,he⟩|⟨a,ha,rfl,ka⟩
    ·have HN:=zk (fun W (hW:zn wr wr W)=>(show TgI S w1 X (k+1) (some ⟨b,0,none⟩) W from ⟨.inr ⟨b,h,rfl,by rw [hst,he,A7];exact kb.later hW⟩,hI.bel.trans (hW.mono hI.bel.size)⟩));clear kh hI hst hcz hx hkl hbw ac ab kb he;go_wp2_with fail;refine KH.out.mono ?_;rintro e w2 ⟨rfl,aa⟩;have ae:=zk (HN.out w2 aa);clear aa;go_wp2;go_roundw
     case rel=>exact ⟨k+1,_,lg,rfl,by go_num,ae.out⟩
     case measure=>simp [Ak];omega
    ·have hha:=ka.high ac;have hhb:=kb.high ab;have af:qg S wr:=HS.out.on hbw.size;have cl:=fun W (hW:zn wr wr W)=>RD (ha+h) S W a b ha h bl _ _ (Ab _) (af.on hW.size) (((hI.bel.trans (hW.mono hI.bel.size)).cell ak.out).trans aj.out) (ka.later hW) (kb.later hW) lg lg lg;rw [← hst] at cl hcz;have ag:∀ W,zn wr wr W→W ⟨bl,0,none⟩=some (vu bl):=fun W hW=>((hI.bel.trans (hW.mono hI.bel.size)).cell ak.out).trans aj.out;have HN:=zk (fun W (hW:zn wr wr W) q (hq:Tr W S q (ww (X.take (k+1))))=>(show TgI S w1 X (k+1) q W from ⟨hq,hI.bel.trans (hW.mono hI.bel.size)⟩));have CL:=zk cl;have HB:=zk ag;have al:=zk hcz;have au:=zk af;have HM:=zk (show max ha h≤12 from lg);obtain ⟨hm,hhm⟩:∃ hm,max ha h=hm:=⟨_,rfl⟩;rw [hhm] at CL HM;obtain ⟨XL,hXL⟩:∃ XL,ww (X.take (k+1))=XL:=⟨_,rfl⟩;rw [hXL] at CL al HN;clear kh hI hst hcz hx hkl hbw ac ab kb ka cl ag af hhm hXL hha hhb;go_wp2_with fail;refine KH.out.mono ?_;rintro e w2 ⟨rfl,aa⟩;have q1:=HB.out w2 aa;have ah:=zk aa;clear aa;go_wp2_with fail;refine (CL.out w2 ah.out).mono ?_;rintro e w3 ⟨r,c3,K3,rfl,ho,x1,x2,hf,am,an⟩;have ai:=ah.out.trans (an.mono ah.out.size);have hJ:m7 w3 (ph S w3) r 0 K3.length hm K3:=⟨rfl,(iE ho lg).2.2,fun k hk=>(am k hk).lessS,fun i hi=>hi.1,by have:=HM.out;omega,by rw [hf];have:=al.out;omega⟩;have cu:=IY (c:=c3) (au.out.on ai.size) hJ x1 lg;rw [hf] at cu;have CU:=zk cu;have ao:=zk ai;clear ho hf am an ai hJ cu;go_wp2_with fail;refine CU.out.mono ?_;rintro e w4 ⟨q,rfl,aq,ar⟩;have av:=zk (HN.out w4 (ao.out.trans (ar.mono ao.out.size)) q aq);clear aq ar;go_wp2;go_roundw
     case rel=>exact ⟨k+1,q,lg,rfl,by go_num,av.out⟩
     case measure=>simp [Ak];omega
  ·obtain rfl:k=n:=lg;have e:X.take k=X:=List.take_of_length_le (by rw [HN.out];exact Ab _);have HQ:=zk (show rj S w (ww X) (zv (zm p)) wr from ⟨p,rfl,by have:=hI.t;rwa [e] at this,HW.out.trans (hI.bel.mono HW.out.size)⟩);clear hI e;go_wp2;go_ret;exact HQ.out
structure zi (S:List Nat) (F:An) (caps:Array Aa) (Inv:Int→zo→Prop) (zy:Int→List pd→Nat→Int→Prop):Prop where
 on:∀ q w w',Inv q w→zn w.heap.size w w'→Inv q w'
 call:∀ q w g c h (K:List pd),g ∉ S→Inv q w→qg S w→m7 w (ph S w) g 0 K.length h K→2≤K.length→K.length≤8→zq prog F (#[zw (some ⟨g,0,none⟩) K.length c]++caps) w fun e w' =>
  ∃ (i:Nat) (q1:Int),e=zv (zx zt i)∧i<K.length∧zy q K i q1∧Inv q1 w'∧lx S w w'
structure Way (zy:Int→List pd→Nat→Int→Prop) (Rel:Int→List ByteArray→List ByteArray→ByteArray→List ByteArray→Int→Prop):Prop where
 base:∀ q s,qt s→Rel q [s] [] s [] q
 step:∀ q K i q1 A s C q',(h:i<K.length)→zy q K i q1→Rel q1 K[i].L A s C q'→Rel q (flat K) (flat (K.take i)++A) s (C++flat (K.drop (i+1))) q'
def RetAr (S:List Nat) (Inv:Int→zo→Prop) (Rel:Int→List ByteArray→List ByteArray→ByteArray→List ByteArray→Int→Prop) (w:zo) (q:Int) (L:List ByteArray) (e:Am) (w':zo):Prop:=
 ∃ p1 A s p2 C q',e=zv (Ad #[zm p1,zz s,zm p2])∧Tr w' S p1 A∧Tr w' S p2 C∧L=A++([s]++C)∧Rel q L A s C q'∧Inv q' w'∧lx S w w'
theorem OX (w:zo) (p q:Option Ae):qr (w.alloc (zu #[zm p,zm q] 128)) w 0 [zm p,zm q]:=
 ⟨li,fun j hj=>by
  match j,hj with
  | 0,_=>simp [Ao]
  | 1,_=>simp [Ao]⟩
theorem OQ (w:zo) (p q r:Option Ae):qr (w.alloc (zu #[zm p,zm q,zm r] 128)) w 0 [zm p,zm q,zm r]:=
 ⟨li,fun j hj=>by
  match j,hj with
  | 0,_=>simp [Ao]
  | 1,_=>simp [Ao]
  | 2,_=>simp [Ao]⟩
theorem iC (hS:qg S w) (t1:Tr w S p L) (t2:Tr w S q R) (hz:(ly (L++R)).size≤6000) :
 zq prog 166 #[zw (some ⟨w,0,none⟩) (2:Nat) (2:Nat)] (w.alloc (zu #[zm p,zm q] 128)) (rj S w (L++R)):=by
 have hb:zn w w (w.alloc (zu #[zm p,zm q] 128)):=(zr _ _).alloc (Ab _) _;have hc:ww [(p,L),(q,R)]=L++R:=by simp [ww]
 refine (lW (X:=[(p,L),(q,R)]) (n:=2) (c:=2) (hS.on hb.size) (OX w p q) rfl lj (fun x hx=>?_) (by rw [hc];exact hz)).mono fun e w' h=>by rw [hc] at h;exact h.from hb
 simp at hx;rcases hx with rfl|rfl
 ·exact t1.later hb
 ·exact t2.later hb
theorem rH {r:Option Ae} {X:List ByteArray} (hS:qg S w) (t1:Tr w S p L) (t2:Tr w S q R) (t3:Tr w S r X) (hz:(ly (L++(R++X))).size≤6000) :
 zq prog 166 #[zw (some ⟨w,0,none⟩) (3:Nat) (3:Nat)] (w.alloc (zu #[zm p,zm q,zm r] 128)) (rj S w (L++(R++X))):=by
 have hb:zn w w (w.alloc (zu #[zm p,zm q,zm r] 128)):=(zr _ _).alloc (Ab _) _;have hc:ww [(p,L),(q,R),(r,X)]=L++(R++X):=by simp [ww]
 refine (lW (X:=[(p,L),(q,R),(r,X)]) (n:=3) (c:=3) (hS.on hb.size) (OQ w p q r) rfl lj (fun x hx=>?_) (by rw [hc];exact hz)).mono fun e w' h=>by rw [hc] at h;exact h.from hb
 simp at hx;rcases hx with rfl|rfl|rfl
 ·exact t1.later hb
 ·exact t2.later hb
 ·exact t3.later hb
theorem rL {K:List pd} (hS:qg S w) (p:m7 w (ph S w) g o n h K) (h8:n≤8) :
 zq prog 172 #[zw (some ⟨g,o,none⟩) n c] w (rj S w (flat K)):=by
 rcases A8 n with rfl|h0
 ·obtain rfl:K=[]:=A9 p.len;exact (BF w).mono fun e w' ⟨he,hb⟩=>⟨none,he,.inl ⟨rfl,rfl⟩,hb⟩
 ·exact IY hS p h0 h8
theorem m7.apartS {K:List pd} (p:m7 w (ph S w) g o n h K) (hg:g ∉ S) (ha:lx S w w'):m7 w' (ph S w') g o n h K:=
 ⟨p.len,p.row.keep ha.size (ha.block g p.row.1 hg),fun k hk=>(p.kids k hk).apartS ha,fun i hi=>hi.1,p.hh,p.size⟩
theorem m7.later {K:List pd} (p:m7 w (ph S w) g o n h K) (hb:zn w w w'):m7 w' (ph S w') g o n h K:=
 ⟨p.len,p.row.on hb,fun k hk=>(p.kids k hk).later hb,fun i hi=>hi.1,p.hh,p.size⟩
theorem m7.none {K:List pd} (p:m7 w (ph S w) g o n h K) (hn:n=0) (o':Nat):m7 w (ph S w) g o' n h K:=by
 subst hn;obtain rfl:K=[]:=A9 p.len;exact ⟨rfl,⟨p.row.1,fun j hj=>absurd hj (by simp [nu])⟩,p.kids,p.lt,p.hh,p.size⟩
theorem aN (A B:List ByteArray):(ly (A++B)).size=(ly A).size+(ly B).size:=by rw [aJ,Af]
theorem mR {K:List pd} {i:Nat} (h:i<K.length):flat K=flat (K.take i)++(K[i].L++flat (K.drop (i+1))):=by
 rw [← dI,← od,← od,List.singleton_append,← List.drop_eq_getElem_cons,A0]
set_option maxHeartbeats 800000 in
theorem FW (f:Aa) (w:zo):zq prog 167 #[zm none,f] w fun e w'=>e=zv (Ad #[zm none,zz ⟨#[]⟩,zm none])∧zn w w w':=by
 have cb:=JP w;have cf:=sL;have CB:=zk cb;have CF:=zk cf;clear cb cf;go_enter func167,ntmps167;go_wp2_with fail;refine CB.out.mono ?_;rintro e w1 ⟨rfl,aa⟩;have ac:=zk aa;clear aa;go_wp2_with fail;refine (mw ac.out (CF.out w1)).mono ?_;rintro e w2 ⟨rfl,ab⟩;have ad:=zk ab;clear ab;go_wp2;refine Ar (v:=Ad #[zm none,zz ⟨#[]⟩,zm none]) (by simp [Au,results167,go_sem]) rfl ?_;exact ⟨rfl,ad.out⟩
def vz (S:List Nat) (F:An) (caps:Array Aa) (Inv:Int→zo→Prop) (Rel:Int→List ByteArray→List ByteArray→ByteArray→List ByteArray→Int→Prop) (h:Nat):Prop:=∀ (w:zo) (b:Nat) (L:List ByteArray) (q:Int),mb w (ph S w) h b L→qg S w→Inv q w→(ly L).size≤6000 →
 zq prog 167 #[pv b,(.func (.func F) #[] caps)] w (RetAr S Inv Rel w q L)
set_option maxHeartbeats 800000 in
theorem RJ {F:An} {caps:Array Aa} {Inv:Int→zo→Prop} {zy:Int→List pd→Nat→Int→Prop} {Rel:Int→List ByteArray→List ByteArray→ByteArray→List ByteArray→Int→Prop} (hp:zi S F caps Inv zy) (hy:Way zy Rel):vz S F caps Inv Rel 0:=by
 intro w b L q k hS hq hz;have cb:=gG k;obtain ⟨-,s,rfl,hf,hB⟩:=k;have cf:=fun W (hW:zn w w W)=>uD (hB.onto hW);have HR:=zk (fun W (hW:zn w w W)=>(show RetAr S Inv Rel w q [s] (zv (Ad #[zm none,zz s,zm none])) W from ⟨none,[],s,none,[],q,rfl,.inl ⟨rfl,rfl⟩,.inl ⟨rfl,rfl⟩,rfl,hy.base q s hf,hp.on q w W hq hW,.of_below hW⟩));have CB:=zk cb;have CF:=zk cf;clear cb cf hB hf hq hS hz hp hy;go_enter func167,ntmps167;go_wp2_with fail;refine CB.out.mono ?_;rintro e w1 ⟨rfl,aa⟩;have ab:=zk aa;clear aa;go_wp2_with fail;refine (mw ab.out (CF.out w1 ab.out)).mono ?_;rintro e w2 ⟨rfl,ac⟩;have ad:=zk ac;clear ac;go_wp2;refine Ar (v:=Ad #[zm none,zz s,zm none]) (by simp [Au,results167,go_sem]) rfl ?_;exact HR.out w2 ad.out
set_option maxHeartbeats 1600000 in
theorem SB {F:An} {caps:Array Aa} {Inv:Int→zo→Prop} {zy:Int→List pd→Nat→Int→Prop} {Rel:Int→List ByteArray→List ByteArray→ByteArray→List ByteArray→Int→Prop} (ent:∀ (args:Array Aa) (w:zo),(callFunc F args).run prog w=.ok (.enter F args) w) (hp:zi S F caps Inv zy) (hy:Way zy Rel) (hh:h≤20) (ih:vz S F caps Inv Rel h):vz S F caps Inv Rel (h+1):=by
 intro w b L q k hS hq hz;obtain ⟨M,g,c,hM,rfl,-⟩:=k.node;have cb:=eB hM lg;have h2:=hM.two;have h8:=hM.eight;obtain ⟨n,hn⟩:∃ n,M.length=n:=⟨_,rfl⟩;rw [hn] at h2 h8;have hj:∀ (w1:zo) (g':Nat),zn w w w1→qr w1 g' 0 (nu M)→m7 w1 (ph S w1) g' 0 n h M:=fun w1 g' hb hr=>⟨hn,hr,fun k hk=>(hM.kids k hk).later hb,fun i hi=>hi.1,lg,lg⟩;have hcall:∀ (w1:zo) (g' c':Nat),g' ∉ S→zn w w w1→qr w1 g' 0 (nu M)→zq prog F (#[zw (some ⟨g',0,none⟩) n c']++caps) w1 fun e w'=>∃ (i:Nat) (q1:Int),e=zv (zx zt i)∧i<n∧zy q M i q1∧Inv q1 w'∧lx S w1 w':=fun w1 g' c' hgS hb hr=>by
  have:=hp.call q w1 g' c' h M hgS (hp.on q w w1 hq hb) (hS.on hb.size) (by rw [hn];exact hj w1 g' hb hr) lg lg;rw [hn] at this;exact this
 have CB:=zk cb;have CC:=zk hcall;have HJ:=zk hj;have HN:=zk hn;have HS:=zk hS;have HY:=zk hy;have HI:=zk ih;have HZ:=zk hz;have be:=zk hp.on;clear cb hcall hj hn hS hy ih hz hp hM k hq;go_enter func167,ntmps167;go_wp2_with fail;refine CB.out.mono ?_;rintro e w1 ⟨v1,rfl,a6,am⟩;obtain ⟨g',c',rfl,hc',hg',ar⟩:=bL a6 (by rw [HN.out];omega);rw [HN.out] at hc' ⊢;have au:=zk (show g' ∉ S from fun hm=>by have:=HS.out g' hm;omega);have cw:=CC.out w1 g' c' au.out am ar;have CW:=zk cw;have bf:=zk (HJ.out w1 g' am ar);have a7:=zk am;clear a6 am hg' ar cw;have b0:((n:Int) == 0)=false:=by simpa using (show ¬ (n:Int)=0 by omega)
 have b0':(n == 0)=false:=by simpa using (show ¬ n=0 by omega)
 go_wp2_with fail;refine CW.out.mono ?_;rintro e w2 ⟨i,q1,rfl,hin,hgood,a8,an⟩;have ao:=bf.out.apartS au.out an;have q0:=ao.cell hin;rw [Aq] at q0;have hil:i<M.length:=by rw [HN.out];exact hin
 have av:qg S w2:=HS.out.on (A5 a7.out.size an.size);have e0:=mR hil;have hxz:(ly M[i].L).size≤6000:=by
  have:=HZ.out;rw [e0,aJ,aJ,Af,Af] at this;omega
 have ci:=HI.out w2 M[i].b M[i].L q1 (ao.kids _ (Av hil)) av a8 hxz;have a9:=zk (fun A s C q'=>HY.out.step q M i q1 A s C q' hil hgood);have ba:=zk e0;obtain ⟨xb,hxb⟩:∃ xb,M[i].b=xb:=⟨_,rfl⟩;obtain ⟨xL,hxL⟩:∃ xL,M[i].L=xL:=⟨_,rfl⟩;rw [hxb] at q0 ci;rw [hxL] at ci a9 ba;have CI:=zk ci;have bg:=zk ao;have bh:=zk ((lx.of_below a7.out:lx S w w1).trans an (fun x hx=>.inl hx));have bi:=zk av;have b1:(0:Int)≤(i:Int):=lg;have b2:(i:Int)<(n:Int):=lg;clear ci ao an hgood a8 hxz hil hxb hxL e0 av;go_wp2_with fail;refine CI.out.mono ?_;rintro e w3 ⟨p1,A,s,p2,C,q',rfl,t1,t2,hL,hrel,bb,aq⟩;have aw:=bg.out.apartS au.out aq;have hsA:qg S w3:=bi.out.on aq.size;have hall:flat M=(flat (M.take i)++A)++([s]++(C++flat (M.drop (i+1)))):=by rw [ba.out,hL];simp only [Bc]
 have bc:(ly (flat (M.take i)++A)).size≤6000:=by
  have:=HZ.out;rw [hall] at this;simp only [aN] at this ⊢;omega
 have bd:(ly (C++flat (M.drop (i+1)))).size≤6000:=by
  have:=HZ.out;rw [hall] at this;simp only [aN] at this ⊢;omega
 have ca:∀ W,zn w3 w3 W→zq prog 172 #[zw (some ⟨g',0,none⟩) i c'] W (rj S W (flat (M.take i))):=fun W hW=>rL (hsA.on hW.size) ((aw.later hW).head lg) lg;have cc:∀ W o (len cap:Nat),zn w3 w3 W→len=n - (i+1)→(o=i+1∨n=i+1)→zq prog 172 #[zw (some ⟨g',o,none⟩) len cap] W (rj S W (flat (M.drop (i+1)))):=fun W o len cap hW hlen ho=>by
  subst hlen;have:=(aw.later hW).tail (i+1);rw [Aq] at this;rcases ho with rfl|ho
  ·exact rL (hsA.on hW.size) this lg
  ·exact rL (hsA.on hW.size) (this.none lg o) lg
 have ct1:∀ W p,zn w3 w3 W→Tr W S p (flat (M.take i))→zq prog 166 #[zw (some ⟨W.heap.size,0,none⟩) (2:Nat) (2:Nat)] (W.alloc (zu #[zm p,zm p1] 128)) (rj S W (flat (M.take i)++A)):=fun W p hW hp =>
  iC (hsA.on hW.size) hp (t1.later hW) bc
 have ct2:∀ W p,zn w3 w3 W→Tr W S p (flat (M.drop (i+1)))→zq prog 166 #[zw (some ⟨W.heap.size,0,none⟩) (2:Nat) (2:Nat)] (W.alloc (zu #[zm p2,zm p] 128)) (rj S W (C++flat (M.drop (i+1)))):=fun W p hW hp =>
  iC (hsA.on hW.size) (t2.later hW) hp bd
 have ax:=zk (fun W (hW:zn w3 w3 W) u v (hu:Tr W S u (flat (M.take i)++A)) (hv:Tr W S v (C++flat (M.drop (i+1))))=>(show RetAr S Inv Rel w q (flat M) (zv (Ad #[zm u,zz s,zm v])) W from ⟨u,_,s,v,_,q',rfl,hu,hv,hall,a9.out A s C q' hrel,be.out q' w3 W bb hW,(bh.out.trans aq (fun x hx=>.inl hx)).trans (lx.of_below hW:lx S w3 W) (fun x hx=>.inl hx)⟩));have CA:=zk ca;have CD:=zk cc;have T1:=zk ct1;have T2:=zk ct2;have b3:(i:Int)≤(c':Int):=lg;have b3':i≤c':=lg;have b4:(i:Int)+1≤(n:Int):=lg;have b5:(n:Int)≤(c':Int):=lg;have b6:zt.wrap ((i:Int)+1)=(i:Int)+1:=IntWalk.i64_in _ lg;have b7:((i:Int)+1).toNat=i+1:=lg;have b8:(0:Int)≤(i:Int)+1:=lg;clear ca cc ct1 ct2 hall bc bd hsA aw t1 t2 hL hrel bb aq;go_wp2_with fail;by_cases hcz:c'=i+1
 ·subst hcz;have b9:(i:Int)≤(i:Int)+1:=lg;refine Al (S:=(fun w':zo=>zn w3 w3 w')) lh (zr _ _).drew (fun hHeld=>?_);refine lz 0 ?_;refine lz 1 ?_;refine lz 2 ?_;refine lz 4 ?_;refine lz 7 ?_;refine lz 8 ?_;refine lz 9 ?_;refine lz 10 ?_;refine lz 11 ?_;refine lz 12 ?_;refine m8 3 fun K hK=>?_;go_simp
  (go_at_call 172;refine (CA.out _ hHeld).mono ?_;rintro e w4 ⟨u1,rfl,af,ag⟩;have aa:=zk (hHeld.trans (ag.mono hHeld.size));have ay:=zk af;clear af ag)
  try go_wp2_with fail
  refine hK.out _ _ ?_ (fun hHeld=>?_)
  ·exact aa.out
  clear hK K
  try simp only [zp,mj]
  refine m8 5 fun K hK=>?_;go_simp;have az:=zk (aa.out.alloc aa.out.size (zu #[zm u1,zm p1] 128))
  try go_wp2_with fail
  refine hK.out _ _ ?_ (fun hHeld=>?_)
  ·exact az.out
  clear hK K
  try simp only [zp,mj]
  refine m8 6 fun K hK=>?_;go_simp
  (go_at_call 166;refine (T1.out w4 u1 aa.out ay.out).mono ?_;rintro e w5 ⟨u2,rfl,ah,ai⟩;have ac:=zk (aa.out.trans (ai.mono aa.out.size));have a0:=zk ah;clear ah ai)
  try go_wp2_with fail
  refine hK.out _ _ ?_ (fun hHeld=>?_)
  ·exact ac.out
  clear hK K
  try simp only [zp,mj]
  refine m8 13 fun K hK=>?_;go_simp
  (go_at_call 172;refine (CD.out _ 0 0 _ ac.out lg (.inr lg)).mono ?_;rintro e w6 ⟨u3,rfl,aj,ad⟩;have ab:=zk (ac.out.trans (ad.mono ac.out.size));have a1:=zk ad;have a2:=zk aj;clear aj ad)
  try go_wp2_with fail
  refine hK.out _ _ ?_ (fun hHeld=>?_)
  ·exact ab.out
  clear hK K
  try simp only [zp,mj]
  refine m8 14 fun K hK=>?_;go_simp;have a3:=zk (ab.out.alloc ab.out.size (zu #[zm p2,zm u3] 128))
  try go_wp2_with fail
  refine hK.out _ _ ?_ (fun hHeld=>?_)
  ·exact a3.out
  clear hK K
  try simp only [zp,mj]
  refine m8 15 fun K hK=>?_;go_simp
  (go_at_call 166;refine (T2.out w6 u3 ab.out a2.out).mono ?_;rintro e w7 ⟨u4,rfl,ak,ae⟩;have al:=zk (ab.out.trans (ae.mono ab.out.size));have a4:=zk ae;have a5:=zk ak;clear ak ae)
  try go_wp2_with fail
  refine hK.out _ _ ?_ (fun hHeld=>?_)
  ·exact al.out
  clear hK K
  try simp only [zp,mj]
  refine lz 16 ?_;refine lz 17 ?_;refine lz 18 ?_;refine Ag lh ?_ _;go_wp2_with fail;refine Ar (v:=Ad #[zm u2,zz s,zm u4]) (by simp [Au,results167,go_sem]) rfl ?_;exact ax.out w7 al.out u2 u4 ((a0.out.later a1.out).later a4.out) a5.out
 ·
  refine Al (S:=(fun w':zo=>zn w3 w3 w')) lh (zr _ _).drew (fun hHeld=>?_);refine lz 0 ?_;refine lz 1 ?_;refine lz 2 ?_;refine lz 4 ?_;refine lz 7 ?_;refine lz 8 ?_;refine lz 9 ?_;refine lz 10 ?_;refine lz 11 ?_;refine lz 12 ?_;refine m8 3 fun K hK=>?_;go_simp
  (go_at_call 172;refine (CA.out _ hHeld).mono ?_;rintro e w4 ⟨u1,rfl,af,ag⟩;have aa:=zk (hHeld.trans (ag.mono hHeld.size));have ay:=zk af;clear af ag)
  try go_wp2_with fail
  refine hK.out _ _ ?_ (fun hHeld=>?_)
  ·exact aa.out
  clear hK K
  try simp only [zp,mj]
  refine m8 5 fun K hK=>?_;go_simp;have az:=zk (aa.out.alloc aa.out.size (zu #[zm u1,zm p1] 128))
  try go_wp2_with fail
  refine hK.out _ _ ?_ (fun hHeld=>?_)
  ·exact az.out
  clear hK K
  try simp only [zp,mj]
  refine m8 6 fun K hK=>?_;go_simp
  (go_at_call 166;refine (T1.out w4 u1 aa.out ay.out).mono ?_;rintro e w5 ⟨u2,rfl,ah,ai⟩;have ac:=zk (aa.out.trans (ai.mono aa.out.size));have a0:=zk ah;clear ah ai)
  try go_wp2_with fail
  refine hK.out _ _ ?_ (fun hHeld=>?_)
  ·exact ac.out
  clear hK K
  try simp only [zp,mj]
  refine m8 13 fun K hK=>?_;go_simp
  (go_at_call 172;refine (CD.out _ (i+1) (n - (i+1)) _ ac.out lg (.inl rfl)).mono ?_;rintro e w6 ⟨u3,rfl,aj,ad⟩;have ab:=zk (ac.out.trans (ad.mono ac.out.size));have a1:=zk ad;have a2:=zk aj;clear aj ad)
  try go_wp2_with fail
  refine hK.out _ _ ?_ (fun hHeld=>?_)
  ·exact ab.out
  clear hK K
  try simp only [zp,mj]
  refine m8 14 fun K hK=>?_;go_simp;have a3:=zk (ab.out.alloc ab.out.size (zu #[zm p2,zm u3] 128))
  try go_wp2_with fail
  refine hK.out _ _ ?_ (fun hHeld=>?_)
  ·exact a3.out
  clear hK K
  try simp only [zp,mj]
  refine m8 15 fun K hK=>?_;go_simp
  (go_at_call 166;refine (T2.out w6 u3 ab.out a2.out).mono ?_;rintro e w7 ⟨u4,rfl,ak,ae⟩;have al:=zk (ab.out.trans (ae.mono ab.out.size));have a4:=zk ae;have a5:=zk ak;clear ak ae)
  try go_wp2_with fail
  refine hK.out _ _ ?_ (fun hHeld=>?_)
  ·exact al.out
  clear hK K
  try simp only [zp,mj]
  refine lz 16 ?_;refine lz 17 ?_;refine lz 18 ?_;refine Ag lh ?_ _;go_wp2_with fail;refine Ar (v:=Ad #[zm u2,zz s,zm u4]) (by simp [Au,results167,go_sem]) rfl ?_;exact ax.out w7 al.out u2 u4 ((a0.out.later a1.out).later a4.out) a5.out
theorem lE {F:An} {caps:Array Aa} {Inv:Int→zo→Prop} {zy:Int→List pd→Nat→Int→Prop} {Rel:Int→List ByteArray→List ByteArray→ByteArray→List ByteArray→Int→Prop} (ent:∀ (args:Array Aa) (w:zo),(callFunc F args).run prog w=.ok (.enter F args) w) (hp:zi S F caps Inv zy) (hy:Way zy Rel) (h:Nat) (hh:h≤20):vz S F caps Inv Rel h:=by
 induction h with
 | zero=>exact RJ hp hy
 | succ h ih=>exact SB ent hp hy lg (ih lg)
def noneI (q:Int) (w:zo):Prop:=True
def lastG (q:Int) (K:List pd) (i:Nat) (q1:Int):Prop:=i+1=K.length
def lastR (q:Int) (L A:List ByteArray) (s:ByteArray) (C:List ByteArray) (q':Int):Prop:=C=[]
def yn (q:Int) (K:List pd) (i:Nat) (q1:Int):Prop:=i=0
def yo (q:Int) (L A:List ByteArray) (s:ByteArray) (C:List ByteArray) (q':Int):Prop:=A=[]
theorem QR:Way lastG lastR:=
 ⟨fun q s _=>rfl,fun q K i q1 A s C q' h hg hr=>by
  unfold lastG at hg;unfold lastR at hr ⊢;rw [hr,hg,List.drop_length];rfl⟩
theorem IU:Way yn yo:=
 ⟨fun q s _=>rfl,fun q K i q1 A s C q' h hg hr=>by
  unfold yn at hg;unfold yo at hr ⊢;subst hg;rw [hr];rfl⟩
theorem IH:zi [] 168 #[] noneI lastG:=by
 refine ⟨fun _ _ _ _ _=>trivial,fun q w g c h K _ _ _ _ h2 h8=>?_⟩;obtain ⟨n,hn⟩:∃ n,K.length=n+1:=⟨K.length - 1,lg⟩;show zq prog 168 #[zw (some ⟨g,0,none⟩) K.length c] w _;have HN:=zk hn;rw [hn];rw [hn] at h8;clear hn h2;go_enter func168,ntmps168;go_wp2;go_ret;exact ⟨n,q,rfl,lg,HN.out.symm,trivial,lx.refl _ _⟩
theorem GQ:zi [] 169 #[] noneI yn:=by
 refine ⟨fun _ _ _ _ _=>trivial,fun q w g c h K _ _ _ _ h2 h8=>?_⟩;show zq prog 169 #[zw (some ⟨g,0,none⟩) K.length c] w _;go_enter func169,ntmps169;go_wp2;go_ret;exact ⟨0,q,rfl,lg,rfl,trivial,lx.refl _ _⟩
def oi (q:Int):Prop:=-9223372036854775808≤q∧q≤9223372036854775807
def yp (bt:Nat) (q:Int) (w:zo):Prop:=l6 w bt #[zx zt q] 3∧oi q
def yt (q:Int) (K:List pd) (i:Nat) (q1:Int):Prop:=q1=q - (ly (flat (K.take i))).size∧(0<i→0≤q1)∧∀ h:i<K.length,i+1<K.length→q1<(ly K[i].L).size
theorem qV {K:List pd} (h:K.length≤n):flat (K.drop n)=[]:=by rw [List.drop_of_length_le h];rfl
def cutR (q:Int) (L A:List ByteArray) (s:ByteArray) (C:List ByteArray) (q':Int):Prop:=vs L q A s C q'
theorem MP:Way yt cutR:=by
 refine ⟨fun q s _=>⟨rfl,by have z:(ly []).size=0:=rfl;omega,fun h=>absurd rfl h,fun h=>absurd rfl h⟩,fun q K i q1 A s C q' h hg hr=>?_⟩;obtain ⟨g1,g2,g3⟩:=hg;obtain ⟨r1,r2,r3,r4⟩:=hr;have e:=mR h;refine ⟨by rw [e,r1];simp only [Bc],by rw [aN];omega,fun hn=>?_,fun hn=>?_⟩
 ·by_cases hA:A=[]
  ·subst hA;have:0<i:=by
    rcases A8 i with rfl|h0
    ·exact absurd rfl hn
    ·exact h0
   have:=g2 this;have z:(ly []).size=0:=rfl;omega
  ·exact r3 hA
 ·by_cases hC:C=[]
  ·subst hC;have hi:i+1<K.length:=by
    rcases Ax (i+1) K.length with g|g
    ·exact g
    ·exact absurd (qV g) hn
   have:=g3 h hi;rw [r1,aN,aN,cE] at this;have z:(ly []).size=0:=rfl;omega
  ·exact r4 hC
structure SpI (bt:Nat) (w:zo) (K:List pd) (q:Int) (i:Nat) (q1:Int) (wr:zo):Prop where
 blk:l6 wr bt #[zx zt q1] 3
 in':oi q1
 at':q1=q - (ly (flat (K.take i))).size
 lo:0<i→0≤q1
 ap:lx [bt] w wr
theorem qW (K:List pd) (k:Nat) (h:k<K.length):(ly (flat (K.take (k+1)))).size=(ly (flat (K.take k))).size+(ly K[k].L).size:=by rw [tC K k h,aN]
set_option maxHeartbeats 1600000 in
theorem EM (bt:Nat):zi [bt] 207 #[zm (some ⟨bt,0,none⟩)] (yp bt) yt:=by
 refine ⟨fun q w w' h hb=>⟨h.1.onto hb,h.2⟩,fun q w g c h M hgS hq hS hj h2 h8=>?_⟩;show zq prog 207 #[zw (some ⟨g,0,none⟩) M.length c,zm (some ⟨bt,0,none⟩)] w _;have hbt:bt<w:=hS bt li;have hg:g≠bt:=by simpa using hgS
 have hcf:∀ (a b c:Int) (W:zo),(Instr.field 173 (cntV a b c) 0).run prog W=.ok (zx zt a) W:=fun a b c W=>lh;obtain ⟨n,hn⟩:∃ n,M.length=n:=⟨_,rfl⟩;rw [hn] at h2 h8 hj ⊢;have HN:=zk hn;have HJ:=zk hj;have HS:=zk hS;have HG:=zk hg;have am:=zk hgS;have aj:=zk hq;have ao:=zk hbt;clear hn hj hS hg hgS hq hbt;have e1:zt.wrap ((n:Int) - 1)=(n:Int) - 1:=IntWalk.i64_in _ lg;go_enter func207,ntmps207;go_wp2
 go_loopw [4] (fun v wr=>∃ (i:Nat) (q1:Int),v=zx zt i∧i<n∧SpI bt w M q i q1 wr) (fun v _=>n - (Ak v).toNat)
 case atStart=>exact ⟨0,q,rfl,lg,aj.out.1,aj.out.2,by have z:(ly (flat (M.take 0))).size=0:=rfl;omega,fun h=>absurd h (Nat.lt_irrefl 0),lx.refl _ _⟩
 case round =>
  obtain ⟨i,q1,rfl,hin,hI⟩:=hrel;have hil:i<M.length:=by rw [HN.out];exact hin
  have hj:=HJ.out.apartS am.out hI.ap;have r0:=hj.cell hin;rw [Aq] at r0;have hgl:=hj.row.1;obtain ⟨kv,-,hB⟩:=(hj.kids _ (Av hil)).cells;have cc:∀ W,zn wr wr W→zq prog 139 #[pv M[i].b] W fun e w'=>e=zv (cntV (ly M[i].L).size (oo (ly M[i].L).data.toList) (op (ly M[i].L).data.toList))∧zn W.heap.size W w':=fun W hW=>uC (hB.onto hW);have hsz:=qW M i hil;have hzz:(ly M[i].L).size≤1000000:=by
   have:=hj.size;rw [mR hil,aN,aN] at this;omega
  have ac:=zk (fun (W:zo) (hW:zn wr wr W) (hh:i+1<n→q1<(ly M[i].L).size)=>(show ∃ (i':Nat) (q1:Int),zv (zx zt i)=zv (zx zt i')∧i'<n∧yt q M i' q1∧yp bt q1 W∧lx [bt] w W from
   ⟨i,q1,rfl,hin,⟨hI.at',hI.lo,fun _ h=>hh (by rw [← HN.out];exact h)⟩,⟨hI.blk.onto hW,hI.in'⟩,hI.ap.trans (lx.of_below hW:lx [bt] wr W) (fun x hx=>.inl hx)⟩))
  have af:=zk (fun (W:zo) (hW:zn wr wr W) (hle:((ly M[i].L).size:Int)≤q1)=>(show SpI bt w M q (i+1) (q1 - (ly M[i].L).size) (W.setCell ⟨bt,0,none⟩ (zx zt (q1 - (ly M[i].L).size))) from
   ⟨(hI.blk.onto hW).set 0 _,by have:=hI.in';unfold oi at this ⊢;omega,by rw [hsz];have:=hI.at';omega,fun _=>lg,(hI.ap.trans (lx.of_below hW:lx [bt] wr W) (fun x hx=>.inl hx)).setCell (.inl li) _⟩))
  have ag:=zk (fun hle:((ly M[i].L).size:Int)≤q1=>(IntWalk.i64_in _ (by have:=hI.in';unfold oi at this;omega):zt.wrap (q1 - ((ly M[i].L).size:Int))=q1 - ((ly M[i].L).size:Int)));have HQ:=zk (And.intro (fun W (hW:zn wr wr W)=>(hI.blk.onto hW).cell 0 (zx zt q1) rfl) (fun W (hW:zn wr wr W)=>(hW.cell (p:=⟨g,i,none⟩) hgl).trans r0));have HF:=zk (fun W (hW:zn wr wr W)=>(hI.blk.onto hW).free 0);obtain ⟨xb,hxb⟩:∃ xb,M[i].b=xb:=⟨_,rfl⟩;obtain ⟨z,hz⟩:∃ z,(ly M[i].L).size=z:=⟨_,rfl⟩;obtain ⟨R,hR⟩:∃ R,oo (ly M[i].L).data.toList=R:=⟨_,rfl⟩;obtain ⟨Y,hY⟩:∃ Y,op (ly M[i].L).data.toList=Y:=⟨_,rfl⟩;rw [hxb,hz,hR,hY] at cc;rw [hxb] at HQ;rw [hz] at ac af ag hzz;have CC:=zk cc;have aq:=zk hgl;have hcf':=hcf z R Y;have b1:(0:Int)≤(i:Int):=lg;have b2:(i:Int)<(n:Int):=lg;clear hj r0 hB cc hsz hI hil hxb hz hR hY hgl;by_cases hlt:i+1<n
  ·have t1:decide ((i:Int)<(n:Int) - 1)=true:=decide_eq_true lg;have t2:(i:Int)<(n:Int) - 1:=lg;by_cases hge:(z:Int)≤q1
   ·have t3:decide ((z:Int)≤q1)=true:=decide_eq_true hge;have HN:=zk (fun W (hW:zn wr wr W)=>af.out W hW hge);have e2:=ag.out hge;have E2:=zk e2;clear e2;go_wp2_with fail;refine Al (S:=(fun w':zo=>zn wr wr w'∧w' ⟨bt,0,none⟩=some (zx zt q1)∧w' ⟨g,i,none⟩=some (pv xb))) lh ⟨(zr _ _).drew,HQ.out.1 wr (zr _ _),HQ.out.2 wr (zr _ _)⟩ (fun hHeld=>?_);refine lz 0 ?_;refine lz 1 ?_;refine lz 2 ?_;refine lz 3 ?_;refine lz 4 ?_;refine lz 5 ?_;refine lz 6 ?_;refine lz 7 ?_;refine lz 8 ?_;refine lz 9 ?_;refine lz 10 ?_;refine m8 11 fun K hK=>?_;go_simp
    (go_at_call 139;refine (CC.out _ hHeld.1).mono ?_;rintro e w2 ⟨rfl,ae⟩;have aa:=zk (hHeld.1.trans (ae.mono hHeld.1.size));clear ae)
    try go_wp2_with fail
    refine hK.out _ _ ?_ (fun hHeld=>?_)
    ·exact ⟨aa.out,HQ.out.1 w2 aa.out,HQ.out.2 w2 aa.out⟩
    clear hK K
    try simp only [zp,mj]
    refine lz 12 ?_;refine lz 13 ?_;refine lz 14 ?_;refine Ag lh ?_ _;have CD:=zk (fun W (hW:zn w2 w2 W)=>CC.out W (aa.out.trans (hW.mono aa.out.size)));have ah:=zk (fun W (hW:zn w2 w2 W)=>HQ.out.1 W (aa.out.trans (hW.mono aa.out.size)));have ak:=zk (fun W (hW:zn w2 w2 W)=>HF.out W (aa.out.trans (hW.mono aa.out.size)));have ai:=zk (fun W (hW:zn w2 w2 W)=>HQ.out.2 W (aa.out.trans (hW.mono aa.out.size)));have al:=zk (fun W (hW:zn w2 w2 W)=>(World.cell?_of_block (w:=W) (a:=⟨g,i,none⟩) (Below.heap_setCell W ⟨bt,0,none⟩ (zx zt (q1 - z)) g HG.out)).trans (ai.out W hW));have e2:=E2.out;go_wp2_with fail;refine Al (S:=(fun w':zo=>lx [bt] w2 w'∧w' ⟨g,i,none⟩=some (pv xb))) lh ⟨(lx.refl _ _).drewN 1,ai.out w2 (zr _ _)⟩ (fun hHeld=>?_);refine lz 1 ?_;refine lz 2 ?_;refine lz 3 ?_;refine lz 4 ?_;have z1:=ah.out w2.drew (zr w2 w2).drew;refine wpAnyH_ready (rs:=[0,5]) lh li ?_;refine AllReadyH.cons (by simp only [rg];rfl) (fun K hK=>?_) (AllReadyH.cons (by simp only [rg];rfl) (fun K hK=>?_) AllReadyH.nil)
    ·go_simp
     try go_wp2_with fail
     refine hK.out _ _ ?_ (fun hHeld=>?_)
     ·exact hHeld
     clear hK K
     try simp only [zp,mj]
     refine m8 5 fun K hK=>?_;go_simp
     (go_at_call 139;refine (CD.out _ (zr w2 w2).drew).mono ?_;rintro e w3 ⟨rfl,ad⟩;have ab:=zk ((zr w2 w2).drew.trans (ad.mono (zr w2 w2).drew.size));have an:=zk ad;clear ad)
     try go_wp2_with fail
     refine hK.out _ _ ?_ (fun hHeld=>?_)
     ·exact ⟨.of_below ab.out,ai.out w3 ab.out⟩
     clear hK K
     try simp only [zp,mj]
     refine lz 6 ?_;refine lz 7 ?_;have z2:=ah.out w3 ab.out;have z3:=ak.out w3 ab.out;refine m8 8 fun K hK=>?_;go_simp;skip
     try go_wp2_with fail
     refine hK.out _ _ ?_ (fun hHeld=>?_)
     ·exact ⟨lx.setCell (.of_below ab.out) (.inl li) _,al.out w3 ab.out⟩
     clear hK K
     try simp only [zp,mj]
     refine Ag lh ?_ _;go_wp2_with fail;go_roundw
     case rel=>exact ⟨i+1,_,by go_num,lg,HN.out w3 (aa.out.trans (ab.out.mono aa.out.size))⟩
     case measure=>simp [Ak];omega
    ·go_simp
     (go_at_call 139;refine (CD.out _ (zr w2 w2).drew).mono ?_;rintro e w3 ⟨rfl,ad⟩;have ab:=zk ((zr w2 w2).drew.trans (ad.mono (zr w2 w2).drew.size));have an:=zk ad;clear ad)
     try go_wp2_with fail
     refine hK.out _ _ ?_ (fun hHeld=>?_)
     ·exact ⟨.of_below ab.out,ai.out w3 ab.out⟩
     clear hK K
     try simp only [zp,mj]
     refine lz 6 ?_;clear z1;have z1:=ah.out w3 ab.out;refine m8 0 fun K hK=>?_;go_simp
     try go_wp2_with fail
     refine hK.out _ _ ?_ (fun hHeld=>?_)
     ·exact hHeld
     clear hK K
     try simp only [zp,mj]
     refine lz 7 ?_;have z2:=ah.out w3 ab.out;have z3:=ak.out w3 ab.out;refine m8 8 fun K hK=>?_;go_simp;skip
     try go_wp2_with fail
     refine hK.out _ _ ?_ (fun hHeld=>?_)
     ·exact ⟨lx.setCell (.of_below ab.out) (.inl li) _,al.out w3 ab.out⟩
     clear hK K
     try simp only [zp,mj]
     refine Ag lh ?_ _;go_wp2_with fail;go_roundw
     case rel=>exact ⟨i+1,_,by go_num,lg,HN.out w3 (aa.out.trans (ab.out.mono aa.out.size))⟩
     case measure=>simp [Ak];omega
   ·have t3:decide ((z:Int)≤q1)=false:=decide_eq_false hge;have HE:=zk (fun W (hW:zn wr wr W)=>ac.out W hW (fun _=>lg));clear af ac ag;go_wp2_with fail;refine Al (S:=(fun w':zo=>zn wr wr w'∧w' ⟨bt,0,none⟩=some (zx zt q1)∧w' ⟨g,i,none⟩=some (pv xb))) lh ⟨(zr _ _).drew,HQ.out.1 wr (zr _ _),HQ.out.2 wr (zr _ _)⟩ (fun hHeld=>?_);refine lz 0 ?_;refine lz 1 ?_;refine lz 2 ?_;refine lz 3 ?_;refine lz 4 ?_;refine lz 5 ?_;refine lz 6 ?_;refine lz 7 ?_;refine lz 8 ?_;refine lz 9 ?_;refine lz 10 ?_;refine m8 11 fun K hK=>?_;go_simp
    (go_at_call 139;refine (CC.out _ hHeld.1).mono ?_;rintro e w2 ⟨rfl,ae⟩;have aa:=zk (hHeld.1.trans (ae.mono hHeld.1.size));clear ae)
    try go_wp2_with fail
    refine hK.out _ _ ?_ (fun hHeld=>?_)
    ·exact ⟨aa.out,HQ.out.1 w2 aa.out,HQ.out.2 w2 aa.out⟩
    clear hK K
    try simp only [zp,mj]
    refine lz 12 ?_;refine lz 13 ?_;refine lz 14 ?_;refine Ag lh ?_ _;go_wp2_with fail;go_ret;exact HE.out _ aa.out
  ·have t1:decide ((i:Int)<(n:Int) - 1)=false:=decide_eq_false lg;have t2:¬ (i:Int)<(n:Int) - 1:=lg;have HE:=zk (fun W (hW:zn wr wr W)=>ac.out W hW (fun h=>absurd h hlt));clear af ac ag;go_wp2_with fail;refine Al (S:=(fun w':zo=>zn wr wr w'∧w' ⟨bt,0,none⟩=some (zx zt q1)∧w' ⟨g,i,none⟩=some (pv xb))) lh ⟨(zr _ _).drew,HQ.out.1 wr (zr _ _),HQ.out.2 wr (zr _ _)⟩ (fun hHeld=>?_);refine lz 0 ?_;refine lz 1 ?_;refine lz 2 ?_;refine lz 3 ?_;refine lz 4 ?_;refine lz 5 ?_;refine Ah (i:=6) (v:=Ai) (by simp only [rg];rfl) lh lh lh (fun _ _ _ h=>by exact h) (Aj ⟨lm,rfl⟩) ln ?_
   try simp only [zp,mj]
   refine Ah (i:=7) (v:=Ai) (by simp only [rg];rfl) lh lh lh (fun _ _ _ h=>by exact h) (Aj ⟨lm,rfl⟩) ln ?_
   try simp only [zp,mj]
   refine Ah (i:=8) (v:=Ai) (by simp only [rg];rfl) lh lh lh (fun _ _ _ h=>by exact h) (Aj ⟨lm,rfl⟩) ln ?_
   try simp only [zp,mj]
   refine Ah (i:=9) (v:=Ai) (by simp only [rg];rfl) lh lh lh (fun _ _ _ h=>by exact h) (Aj ⟨lm,rfl⟩) ln ?_
   try simp only [zp,mj]
   refine Ah (i:=10) (v:=Ai) (by simp only [rg];rfl) lh lh lh (fun _ _ _ h=>by exact h) (Aj ⟨lm,rfl⟩) ln ?_
   try simp only [zp,mj]
   refine Ah (i:=11) (v:=Ai) (by simp only [rg];rfl) lh lh lh (fun _ _ _ h=>by exact h) (Aj ⟨lm,rfl⟩) ln ?_
   try simp only [zp,mj]
   refine Ah (i:=12) (v:=Ai) (by simp only [rg];rfl) lh lh lh (fun _ _ _ h=>by exact h) (Aj ⟨lm,rfl⟩) ln ?_
   try simp only [zp,mj]
   refine Ah (i:=13) (v:=Ai) (by simp only [rg];rfl) lh lh lh (fun _ _ _ h=>by exact h) (Aj ⟨lm,rfl⟩) ln ?_
   try simp only [zp,mj]
   refine lz 14 ?_;refine Ag lh ?_ _;go_wp2_with fail;go_ret;exact HE.out _ (zr _ _).drew
theorem lx.below (h:lx [] w w'):zn w w w':=h.to_below li (Ab _)
theorem Tr.first (t:Tr w S p L):∀ W,zn w w W→zq prog 165 #[zm p] W fun e w'=>e=zv (zz (py L))∧zn W.heap.size W w':=fun W hW=>by
 rcases t with ⟨rfl,rfl⟩|⟨b,h,rfl,k⟩
 ·exact sL W
 ·obtain ⟨kv,-,hB⟩:=(k.later hW).cells;exact uD hB
theorem Tr.last (t:Tr w S p L):∀ W,zn w w W→zq prog 164 #[zm p] W fun e w'=>e=zv (zz (pl L))∧zn W.heap.size W w':=fun W hW=>by
 rcases t with ⟨rfl,rfl⟩|⟨b,h,rfl,k⟩
 ·exact OE W
 ·obtain ⟨kv,-,hB⟩:=(k.later hW).cells;exact NP hB
theorem Tr.bare (t:Tr w S p L):Tr w [] p L:=by
 rcases t with t|⟨b,h,e,k⟩
 ·exact .inl t
 ·exact .inr ⟨b,h,e,k.weak fun i hi=>⟨hi.1,li⟩⟩
theorem qX (x:ByteArray) (hz:x.size≤1000000) (w:zo):zq prog 170 #[zz x] w (rj [] w (ri x)):=by
 unfold ri;by_cases h:oe x=true
 ·rw [if_pos h];exact (yK x lq h w).mono fun e w' ⟨b,he,hb,hB,hbel⟩=>⟨_,he,.inr ⟨b,0,rfl,⟨hB.lt,li⟩,x,rfl,(aV x).1 h,hB⟩,hbel⟩
 ·rw [if_neg h];exact (SP x lq (Bool.eq_false_iff.2 h) w).mono fun e w' ⟨he,hb⟩=>⟨none,he,.inl ⟨rfl,rfl⟩,hb⟩
def qu (w:zo) (s:ByteArray) (e:Am) (w':zo):Prop:=∃ p L,e=zv (zm p)∧Tr w' [] p L∧mr L∧ly L=s∧zn w w w'
theorem gQ (h:mr L):(py L).size≤16∧(pl L).size≤16:=by
 cases hL:L with
 | nil=>exact ⟨Ap _,Ap _⟩
 | cons x M =>
  subst hL;have h0:0<(x::M).length:=li;rw [xG h0,xJ h0];exact ⟨(h _ _).1.2.1,(h _ _).1.2.1⟩
theorem nH (w:zo):qg [] w:=fun m hm=>absurd hm li
set_option maxHeartbeats 1600000 in
theorem DR (t1:Tr w [] p L) (t2:Tr w [] q R) (hL:mr L) (hR:mr R) (hz:(ly (L++R)).size≤6000) (hn:(rf (pl L) (py R)).length≠1) :
 zq prog 140 #[zm p,zm q] w (qu w (ly L++ly R)):=by
 have c1:=t1.last;have c2:=t2.first;have z1:=(gQ hL).2;have z2:=(gQ hR).1;have cj:=wS (pl L) (py R) lg lg;have ct:=fun W (hW:zn w w W)=>iC (nH W) (t1.later hW) (t2.later hW) hz;have HE:=zk (fun W W' e (hb:zn w w W) (h:rj [] W (L++R) e W')=>(show qu w (ly L++ly R) e W' from by
  obtain ⟨p',h1,h2,h3⟩:=h;exact ⟨p',_,h1,h2,QD hL hR hn,aJ L R,hb.trans (h3.mono hb.size)⟩))
 obtain ⟨x,hx⟩:∃ x,pl L=x:=⟨_,rfl⟩;obtain ⟨y,hy⟩:∃ y,py R=y:=⟨_,rfl⟩;rw [hx] at c1;rw [hy] at c2;rw [hx,hy] at cj hn;obtain ⟨n,hjn⟩:∃ n,(rf x y).length=n:=⟨_,rfl⟩;unfold ss at cj;rw [hjn] at cj hn;have b1:((n:Int) == 1)=false:=by simpa using (show ¬ (n:Int)=1 by omega)
 have b2:(n == 1)=false:=by simpa using hn
 have b3:((n:Int) != 1)=true:=by simpa using (show ¬ (n:Int)=1 by omega)
 have b4:(n != 1)=true:=by simpa using hn
 have C1:=zk c1;have C2:=zk c2;have CJ:=zk cj;have CT:=zk ct;clear c1 c2 z1 z2 cj ct hx hy hjn hn t1 t2 hL hR hz;go_enter func140,ntmps140;go_wp2_with fail;refine (C1.out _ (zr _ _)).mono ?_;rintro e w1 ⟨rfl,aa⟩;have ab:=zk aa;clear aa;go_wp2_with fail;refine (mw ab.out (C2.out _ ab.out)).mono ?_;rintro e w2 ⟨rfl,ac⟩;have ad:=zk ac;clear ac;go_wp2_with fail;refine (CJ.out w2).mono ?_;rintro e w3 ⟨a,c,rfl,-,ae⟩;have af:=zk (ad.out.trans (ae.mono ad.out.size));clear ae;go_wp2_with fail;refine (CT.out w3 af.out).mono ?_;intro e w4 hr;have HR:=zk (HE.out w3 w4 e af.out hr);obtain ⟨p',rfl,-,-⟩:=hr;go_wp2;go_ret;exact HR.out
set_option maxHeartbeats 1600000 in
theorem FI (t1:Tr w [] p L) (t2:Tr w [] q R) (hL:mr L) (hR:mr R) (hz:(ly (L++R)).size≤6000) (hn:(rf (pl L) (py R)).length=1) :
 zq prog 140 #[zm p,zm q] w (qu w (ly L++ly R)):=by
 have c1:=t1.last;have c2:=t2.first;have z1:=(gQ hL).2;have z2:=(gQ hR).1;have cj:=wS (pl L) (py R) lg lg;have hj:=AE hn;obtain ⟨f1,f2,f3⟩:=(iH _ _).1 hn;rcases t1 with ⟨-,rfl⟩|⟨b1,h1,rfl,k1⟩
 ·exact absurd f1.1 (show ¬ 1≤(0:Nat) by decide)
 rcases t2 with ⟨-,rfl⟩|⟨b2,h2,rfl,k2⟩
 ·exact absurd f2.1 (show ¬ 1≤(0:Nat) by decide)
 have hz':=hz;rw [aN] at hz';have g1:=k1.high lg;have g2:=k2.high lg;have ca:=fun W (hW:zn w w W)=>lE (fun _ _=>lm) IH QR h1 lg W b1 L 0 (k1.later hW) (nH W) trivial lg;have cb:=fun W (hW:zn w w W)=>lE (fun _ _=>lm) GQ IU h2 lg W b2 R 0 (k2.later hW) (nH W) trivial lg;have cl:=qX (pl L++py R) (by rw [Af];omega);have hlf:ri (pl L++py R)=[pl L++py R]:=by
  unfold ri;rw [if_pos ((aV _).2 (xR f1 f2 f3))]
 rw [hlf] at cl;have hend:∀ (A C:List ByteArray) (s1 s2:ByteArray),L=A++([s1]++[])→R=[]++([s2]++C)→mr (A++([pl L++py R]++C))∧ly (A++([pl L++py R]++C))=ly L++ly R:=fun A C s1 s2 e1 e2=>by
  rw [A6] at e1;rw [A7] at e2;have x1:pl L=s1:=by rw [e1];exact MJ A s1
  have x2:py R=s2:=by rw [e2];rfl
  rw [x1,x2] at f3;rw [e1] at hL;rw [e2] at hR;have:=OO hL hR f3;rw [x1,x2,e1,e2];exact this
 have ct:∀ W p1 p2 p3 A C s1 s2,Tr W [] p1 A→Tr W [] p2 [pl L++py R]→Tr W [] p3 C→L=A++([s1]++[])→R=[]++([s2]++C)→zn w w W→zq prog 166 #[zw (some ⟨W.heap.size,0,none⟩) (3:Nat) (3:Nat)] (W.alloc (zu #[zm p1,zm p2,zm p3] 128)) (qu w (ly L++ly R)):=fun W p1 p2 p3 A C s1 s2 u1 u2 u3 e1 e2 hW=>by
  obtain ⟨y1,y2⟩:=hend A C s1 s2 e1 e2;refine (rH (nH W) u1 u2 u3 (by rw [y2,Af];exact hz')).mono ?_;rintro e w' ⟨p',h1,h2,h3⟩;exact ⟨p',_,h1,h2,y1,y2,hW.trans (h3.mono hW.size)⟩
 obtain ⟨x,hx⟩:∃ x,pl L=x:=⟨_,rfl⟩;obtain ⟨y,hy⟩:∃ y,py R=y:=⟨_,rfl⟩;rw [hx] at c1;rw [hy] at c2;rw [hx,hy] at cj hj cl ct;unfold ss at cj;rw [hj] at cj;obtain ⟨xy,hxy⟩:∃ xy,x++y=xy:=⟨_,rfl⟩;rw [hxy] at cj cl ct;have C1:=zk c1;have C2:=zk c2;have CJ:=zk cj;have CA:=zk ca;have CB:=zk cb;have CL:=zk cl;have CT:=zk ct;clear c1 c2 z1 z2 cj ca cb cl ct hx hy hxy hj hn hend hlf f1 f2 f3 k1 k2 hL hR hz hz' g1 g2;go_enter func140,ntmps140;go_wp2_with fail;refine (C1.out _ (zr _ _)).mono ?_;rintro e w1 ⟨rfl,ag⟩;have ah:=zk ag;clear ag;go_wp2_with fail;refine (mw ah.out (C2.out _ ah.out)).mono ?_;rintro e w2 ⟨rfl,ai⟩;have aj:=zk ai;clear ai;go_wp2_with fail;refine (CJ.out w2).mono ?_;rintro e w3 ⟨a,c,rfl,hst,ak⟩;obtain ⟨ad,rfl,hab,q0⟩:=hst 0 li;have ar:=zk (show w3 ad=some (zz xy) by simpa [Addr.add] using q0);have au:=zk (show ad.block<w3 from hab);have ab:=zk (aj.out.trans (ak.mono aj.out.size));clear ak hst hab q0;go_wp2_with fail;refine (CA.out w3 ab.out).mono ?_;rintro e w4 ⟨p1,A,s1,p2,C1',q',rfl,t1,-,e1,r1,-,al⟩;unfold lastR at r1;subst r1;have ac:=al.below;have ae:=zk (ab.out.trans (ac.mono ab.out.size));have am:=zk ac;have av:=zk t1;have aw:=zk e1;clear t1 e1 al ac;go_wp2_with fail;refine (CB.out w4 ae.out).mono ?_;rintro e w5 ⟨p3,A2,s2,p4,C2',q2,rfl,-,t4,e2,r2,-,an⟩;unfold yo at r2;subst r2;have aa:=an.below;have ao:=zk (ae.out.trans (aa.mono ae.out.size));have ax:=zk aa;have ay:=zk t4;have az:=zk e2;have q0:w5 ad=some (zz xy):=((am.out.trans (aa.mono am.out.size)).cell au.out).trans ar.out;clear t4 e2 an aa;go_wp2_with fail;refine (CL.out w5).mono ?_;rintro e w6 ⟨p5,rfl,t5,af⟩;have a0:=zk (ao.out.trans (af.mono ao.out.size));have aq:=zk af;have a1:=zk t5;clear t5 af;go_wp2_with fail;refine (CT.out w6 p1 p5 p4 A C2' s1 s2 ((av.out.later ax.out).later aq.out) a1.out (ay.out.later aq.out) aw.out az.out a0.out).mono ?_;rintro e w7 ⟨p',L',rfl,hr⟩;have HR:=zk (show qu w (ly L++ly R) (zv (zm p')) w7 from ⟨p',L',rfl,hr⟩);clear hr;go_wp2;go_ret;exact HR.out
theorem gE (t1:Tr w [] p L) (t2:Tr w [] q R) (hL:mr L) (hR:mr R) (hz:(ly (L++R)).size≤6000) :
 zq prog 140 #[zm p,zm q] w (qu w (ly L++ly R)):=by
 by_cases hn:(rf (pl L) (py R)).length=1
 ·exact FI t1 t2 hL hR hz hn
 ·exact DR t1 t2 hL hR hz hn
structure CutP2 (L:List ByteArray) (at':Int) (A:List ByteArray) (s:ByteArray) (C:List ByteArray) (q:Int):Prop where
 ta:mr A
 tc:mr C
 small:s.size≤16
 le:mi s.data.toList q≤s.size
 t1:mr (ri (s.extract 0 (mi s.data.toList q)))
 w1:ly (ri (s.extract 0 (mi s.data.toList q)))=s.extract 0 (mi s.data.toList q)
 t2:mr (ri (s.extract (mi s.data.toList q) s.size))
 w2:ly (ri (s.extract (mi s.data.toList q) s.size))=s.extract (mi s.data.toList q) s.size
 e1:(ly L).extract 0 (mi (ly L).data.toList at')=ly A++s.extract 0 (mi s.data.toList q)
 e2:(ly L).extract (mi (ly L).data.toList at') (ly L).size=s.extract (mi s.data.toList q) s.size++ly C
theorem vs.made {A C:List ByteArray} {s:ByteArray} {p q:Int} (h:vs L p A s C q) (hL:mr L):CutP2 L p A s C q:=by
 obtain ⟨h1,h2,h3,h4,h5,h6,h7,h8,h9,h10⟩:=h.parts hL;exact ⟨h1,h2,h3.2.1,h4,h5,h6,h7,h8,h9,h10⟩
theorem cY (a b:Nat):(⟨#[]⟩:ByteArray).extract a b=⟨#[]⟩:=by
 apply aW;rw [aH];simp
theorem fQ:ri ⟨#[]⟩=[]:=by unfold ri;rw [if_neg (by decide +kernel)]
theorem NI (p:Int):CutP2 [] p [] ⟨#[]⟩ [] p:=by
 have h:mi (⟨#[]⟩:ByteArray).data.toList p≤0:=by have:=iU (⟨#[]⟩:ByteArray).data.toList p;simpa using this
 refine ⟨aR,aR,Ap _,h,?_,?_,?_,?_,?_,?_⟩
 ·rw [cY,fQ];exact aR
 ·rw [cY,fQ];rfl
 ·rw [cY,fQ];exact aR
 ·rw [cY,fQ];rfl
 ·show (⟨#[]⟩:ByteArray).extract _ _=⟨#[]⟩++(⟨#[]⟩:ByteArray).extract _ _;rw [cY,cY];rfl
 ·show (⟨#[]⟩:ByteArray).extract _ _=(⟨#[]⟩:ByteArray).extract _ _++⟨#[]⟩;rw [cY,cY];rfl
def wh (w:zo) (s t:ByteArray) (e:Am) (w':zo):Prop:=
 ∃ p L q R,e=zv (Ad #[zm p,zm q])∧Tr w' [] p L∧Tr w' [] q R∧mr L∧mr R∧ly L=s∧ly R=t∧zn w w w'
def RetDown (bt:Nat) (w1:zo) (L:List ByteArray) (at':Int) (e:Am) (w':zo):Prop:=
 ∃ p1 A s p2 C q,e=zv (Ad #[zm p1,zz s,zm p2])∧Tr w' [] p1 A∧Tr w' [] p2 C∧CutP2 L at' A s C q∧w' ⟨bt,0,none⟩=some (zx zt q)∧(ly A).size≤(ly L).size∧(ly C).size≤(ly L).size∧lx [bt] w1 w'
theorem QF {bt:Nat} {at':Int} (t:Tr w [bt] p L) (hL:mr L) (hz:(ly L).size≤6000) (hq:yp bt at' w) :
 zq prog 167 #[zm p,.func (.func 207) #[] #[zm (some ⟨bt,0,none⟩)]] w (RetDown bt w L at'):=by
 have hlt:=hq.1.lt;rcases t with ⟨rfl,rfl⟩|⟨b,h,rfl,k⟩
 ·refine (FW _ w).mono ?_;rintro e w' ⟨rfl,hb⟩;exact ⟨none,[],_,none,[],at',rfl,.inl ⟨rfl,rfl⟩,.inl ⟨rfl,rfl⟩,NI at',(hq.1.onto hb).cell 0 _ rfl,Ab _,Ab _,.of_below hb⟩
 ·have g:=k.high hz;refine (lE (fun _ _=>lm) (EM bt) MP h lg w b L at' k (fun m hm=>by rw [List.mem_singleton.1 hm];exact hlt) hq hz).mono ?_;rintro e w' ⟨p1,A,s,p2,C,q,rfl,t1,t2,he,hr,hq',ha⟩;refine ⟨p1,A,s,p2,C,q,rfl,t1.bare,t2.bare,vs.made hr hL,hq'.1.cell 0 _ rfl,?_,?_,ha⟩
  ·rw [he,aN];omega
  ·rw [he,aN,aN];omega
set_option maxHeartbeats 1600000 in
theorem sX {at':Int} (t:Tr w [] p L) (hL:mr L) (hz:(ly L).size≤5000) (hat:oi at') :
 zq prog 187 #[zm p,zx zt at'] w (wh w ((ly L).extract 0 (mi (ly L).data.toList at')) ((ly L).extract (mi (ly L).data.toList at') (ly L).size)):=by
 have hmf:∀ (fn:Fn) (first cap:Array Aa) (w:zo),(Instr.makeFunc fn first cap).run prog w=.ok (.func fn first cap) w:=fun _ _ _ _=>rfl;have ae:zn w w (w.alloc (zu #[zx zt at'] 3)):=(zr _ _).alloc (Ab _) _;have ao:Tr (w.alloc (zu #[zx zt at'] 3)) [w.heap.size] p L:=by
  rcases t with t|⟨b,h,e,k⟩
  ·exact .inl t
  ·exact .inr ⟨b,h,e,k.beside ae (Ab _)⟩
 have cd:=QF ao hL lg ⟨l6.new w _ _,hat⟩;have HZ:=zk hz;obtain ⟨s1,af⟩:∃ s1,(ly L).extract 0 (mi (ly L).data.toList at')=s1:=⟨_,rfl⟩;obtain ⟨s2,ag⟩:∃ s2,(ly L).extract (mi (ly L).data.toList at') (ly L).size=s2:=⟨_,rfl⟩;rw [af,ag];have ay:=zk af;have az:=zk ag;have CD:=zk cd;have aq:=zk ae;clear af ag cd ae ao t hL hz hat;go_enter func187,ntmps187;go_wp2_with fail;refine CD.out.mono ?_;rintro e w2 ⟨p1,A,s,p2,C,q,rfl,t1,t2,hc,hcell,z1,z2,ha⟩;have ar:zn w w w2:=aq.out.trans (ha.to_below li aq.out.size);have cb:=kJ s (by have:=hc.small;unfold maxLen;omega) q w2;have h16:=hc.small;have hle:=hc.le;obtain ⟨n,hn⟩:∃ n,mi s.data.toList q=n:=⟨_,rfl⟩;have ah:=ay.out.symm.trans hc.e1;have ai:=az.out.symm.trans hc.e2;have aj:=hc.t1;have ak:=hc.t2;have aa:=hc.w1;have ab:=hc.w2;rw [hn] at cb hle ah ai aj ak aa ab;have y1:=bK s n hle;have y2:=dA s n;have cl1:=qX (s.extract 0 n) lg;have cl2:=qX (s.extract n s.size) lg;have cc1:∀ W q,zn w2 w2 W→Tr W [] q (ri (s.extract 0 n))→zq prog 140 #[zm p1,zm q] W (qu W s1):=fun W q hW tq=>by
  have:=gE (t1.later hW) tq hc.ta aj (by rw [aN,aa];have:=HZ.out;omega);rwa [aa,← ah] at this
 have cc2:∀ W q,zn w2 w2 W→Tr W [] q (ri (s.extract n s.size))→zq prog 140 #[zm q,zm p2] W (qu W s2):=fun W q hW tq=>by
  have:=gE tq (t2.later hW) ak hc.tc (by rw [aN,ab];have:=HZ.out;omega);rwa [ab,← ai] at this
 have au:=zk ar;have CB:=zk cb;have L1:=zk cl1;have L2:=zk cl2;have C1:=zk cc1;have C2:=zk cc2;have b1:(n:Int)≤(s.size:Int):=lg;have b2:(0:Int)≤(n:Int):=lg;clear t1 t2 hc z1 z2 ha ar cb hn ah ai aj ak aa ab y1 y2 cl1 cl2 cc1 cc2;go_wp2_with fail;refine CB.out.mono ?_;rintro e w3 ⟨rfl,rfl⟩;go_wp2_with fail;refine Al (S:=(fun w':zo=>zn w2 w2 w')) lh (zr _ _).drew (fun hHeld=>?_);refine lz 0 ?_;refine lz 1 ?_;refine lz 2 ?_;refine lz 3 ?_;refine lz 6 ?_;refine lz 7 ?_;refine lz 8 ?_;refine lz 10 ?_;refine m8 4 fun K hK=>?_;go_simp
 (go_at_call 170;refine (L1.out _).mono ?_;rintro e w3 ⟨u1,rfl,v1,av⟩;have ac:=zk (hHeld.trans (av.mono hHeld.size));have a0:=zk v1;clear v1 av)
 try go_wp2_with fail
 refine hK.out _ _ ?_ (fun hHeld=>?_)
 ·exact ac.out
 clear hK K
 try simp only [zp,mj]
 refine m8 5 fun K hK=>?_;go_simp
 (go_at_call 140;refine (C1.out w3 u1 ac.out a0.out).mono ?_;rintro e w4 ⟨u2,M2,rfl,v2,k2,x2,aw⟩;have al:=zk (ac.out.trans (aw.mono ac.out.size));have a1:=zk v2;have a2:=zk k2;have a3:=zk x2;clear v2 k2 x2 aw)
 try go_wp2_with fail
 refine hK.out _ _ ?_ (fun hHeld=>?_)
 ·exact al.out
 clear hK K
 try simp only [zp,mj]
 refine m8 9 fun K hK=>?_;go_simp
 (go_at_call 170;refine (L2.out w4).mono ?_;rintro e w5 ⟨u3,rfl,v3,am⟩;have ad:=zk (al.out.trans (am.mono al.out.size));have a4:=zk am;have a5:=zk v3;clear v3 am)
 try go_wp2_with fail
 refine hK.out _ _ ?_ (fun hHeld=>?_)
 ·exact ad.out
 clear hK K
 try simp only [zp,mj]
 refine m8 11 fun K hK=>?_;go_simp
 (go_at_call 140;refine (C2.out w5 u3 ad.out a5.out).mono ?_;rintro e w6 ⟨u4,M4,rfl,v4,k4,x4,an⟩;have ax:=zk (ad.out.trans (an.mono ad.out.size));have a6:=zk an;have a7:=zk v4;have a8:=zk k4;have a9:=zk x4;clear v4 k4 x4 an)
 try go_wp2_with fail
 refine hK.out _ _ ?_ (fun hHeld=>?_)
 ·exact ax.out
 clear hK K
 try simp only [zp,mj]
 refine lz 12 ?_;refine lz 13 ?_;refine Ag lh ?_ _;go_wp2_with fail;go_ret2;exact ⟨u2,M2,u4,M4,rfl,(a1.out.later a4.out).later a6.out,a7.out,a2.out,a8.out,a3.out,a9.out,au.out.trans (ax.out.mono au.out.size)⟩
end Go.Proofs.YtbagenpobcgjnaaGreat
