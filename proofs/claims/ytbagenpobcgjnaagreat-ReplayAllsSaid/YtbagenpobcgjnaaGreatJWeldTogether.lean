/-
  Joined: WeldTogether, WeldAr, WeldPick, WeldCut, WeldTight.
-/
import Derived.Test.YtbagenpobcgjnaaGreatJKnotDev6
import Derived.Laws.EntriesVeiled
open ByteArray renaming size_append->zr
open Go renaming Addr->zq,Calls->zd,Ending->zy,FuncId->zz,Good->zk,Value->zn,World->yy,bodyPost_ret->Ae,results->Af,undef->zu,wpAnyH_done->zs,wpAnyH_take->zt,wp_region_held_drew->zx
open Go.Act renaming put->yz
open Go.Ending renaming returned->zh
open Go.IntKind renaming i64->zf
open Go.Lib renaming hid->yv
open Go.Obj renaming cells->zg
open Go.RowKit renaming Below->yx,intOf->zw
open Go.RowKit.Below renaming refl->ze
open Go.Value renaming int->zj,pointer->yw,slice->zi,string->zm,tuple->zp
open Go.World renaming cell?_alloc_new->Aa
open List renaming append_assoc->Av,append_nil->Ap,eq_nil_of_length_eq_zero->Au,flatten_append->Ak,getElem_mem->Ag,length_map->An,map_append->Aj,nil_append->Aq,take_append_drop->Al
open Nat renaming eq_zero_or_pos->Ar,le_refl->zo,le_trans->Ao,lt_or_ge->Ai,zero_add->Ad,zero_le->Ab
open Or renaming inr->zv
variable {L R:List ByteArray} {S:List Nat} {c g h n o:Nat} {p q:Option Go.Addr} {w w':Go.World}
namespace Go.Proofs.YtbagenpobcgjnaaGreat
open Go.Proofs.Tryz
set_option maxRecDepth 100000
open Lib (hid)
open Go.RowKit
set_option linter.unusedVariables false
set_option linter.unusedSimpArgs false
def Tr (w:yy) (S:List Nat) (p:Option zq) (L:List ByteArray):Prop:=(p=none∧L=[])∨∃ b h,p=some ⟨b,0,none⟩∧l9 w (pj S w) h b L
theorem Tr.later (t:Tr w S p L) (hb:yx w w w'):Tr w' S p L:=by
 rcases t with t|⟨b,h,e,k⟩
 ·exact .inl t
 ·exact .inr ⟨b,h,e,k.later hb⟩
theorem l9.high {b:Nat} (k:l9 w (pj S w) h b L) (hz:(lx L).size≤6000):h≤12:=by
 obtain ⟨h1,h2⟩:=k.chunks;have h3:=MP h1;rcases Ai 12 h with g|g
 ·have:2 ^ 13≤2 ^ h:=Nat.pow_le_pow_right li g;omega
 ·exact g
def rj (S:List Nat) (w:yy) (L:List ByteArray) (e:zy) (w':yy):Prop:=∃ p,e=zh (yw p)∧Tr w' S p L∧yx w w w'
theorem rj.from {w1:yy} {e:zy} (r:rj S w1 L e w') (hb:yx w w w1):rj S w L e w':=by
 obtain ⟨p,h1,h2,h3⟩:=r;exact ⟨p,h1,h2,hb.trans (h3.mono hb.size)⟩
set_option maxHeartbeats 800000 in
theorem SE {K:List pg} (p:m7 w (pj S w) g o 1 h K) :
 zd prog 172 #[zi (some ⟨g,o,none⟩) (1:Nat) c] w (rj S w (flat K)):=by
 have ce:=p.even (c:=c) li;have CE:=yv ce;have HP:=yv p;clear ce p;go_enter func172,ntmps172;go_wp2_with fail;refine CE.out.mono ?_;rintro e w1 ⟨rfl,aa⟩;obtain ⟨b,q0,hk⟩:=(HP.out.on aa).one;have ab:=yv aa;have HR:=yv (show rj S w (flat K) (zh (pv b)) w1 from ⟨_,rfl,.inr ⟨b,h,rfl,hk.weak fun i hi=>hi.on aa.size⟩,aa⟩);clear aa hk;go_wp2
 go_loopw [0] (fun t wr=>t=zi (some ⟨g,o,none⟩) 1 c∧wr=w1) (fun _ _=>0)
 case atStart=>exact ⟨rfl,rfl⟩
 case round =>
  obtain ⟨rfl,rfl⟩:=hrel;go_wp2;go_ret;exact HR.out
set_option maxHeartbeats 800000 in
theorem QG {K:List pg} (hS:qf S w) (p:m7 w (pj S w) g o n h K) (h2:2≤n) (h8:n≤8) :
 zd prog 172 #[zi (some ⟨g,o,none⟩) n c] w (rj S w (flat K)):=by
 have ce:=p.even (c:=c) lf;have cj:=fun W (hW:yx w w W)=>eD (c:=c) (p.on hW) h2 h8;have CE:=yv ce;have CJ:=yv cj;have HS:=yv hS;clear ce cj p hS;have t1:((n:Int) == 0)=false:=by simpa using (show ¬ (n:Int)=0 by omega)
 have t2:(n == 0)=false:=by simpa using (show ¬ n=0 by omega)
 have t3:((n:Int) == 1)=false:=by simpa using (show ¬ (n:Int)=1 by omega)
 have t4:(n == 1)=false:=by simpa using (show ¬ n=1 by omega)
 have t5:¬ (8:Int)<(n:Int):=lf;go_enter func172,ntmps172;go_wp2_with fail;refine CE.out.mono ?_;rintro e w1 ⟨rfl,ab⟩;have aa:=yv ab;clear ab;go_wp2
 go_loopw [0] (fun t wr=>t=zi (some ⟨g,o,none⟩) n c∧wr=w1) (fun _ _=>0)
 case atStart=>exact ⟨rfl,rfl⟩
 case round =>
  obtain ⟨rfl,rfl⟩:=hrel;go_wp2_with fail;refine (CJ.out _ aa.out).mono ?_;rintro e w2 ⟨b,gb,cb,rfl,hbb,hgg,hkn,ac⟩;have hs:=aa.out.size;have hbw:=aa.out.trans (ac.mono hs);have HR:=yv (show rj S w (flat K) (zh (pv b)) w2 from ⟨_,rfl,.inr ⟨b,h+1,rfl,hkn.made HS.out lf lf hbw.size⟩,hbw⟩);clear hbb hgg hkn ac hbw;go_wp2;go_ret;exact HR.out
theorem GP {K:List pg} (hS:qf S w) (p:m7 w (pj S w) g o n h K) (h1:1≤n) (h8:n≤8) :
 zd prog 172 #[zi (some ⟨g,o,none⟩) n c] w (rj S w (flat K)):=by
 by_cases e:n=1
 ·subst e;exact SE p
 ·exact QG hS p lf h8
theorem zP {a:Option zq} (w:yy):zd prog 172 #[zi a 0 c] w fun e w'=>e=zh (yw none)∧yx w w w':=by
 go_enter func172,ntmps172;go_wp2;go_ret;exact ⟨rfl,ze _ _⟩
abbrev yq:=Option zq×List ByteArray
def v7 (X:List yq):List zn:=X.map fun x=>yw x.1
def wi (X:List yq):List ByteArray:=(X.map Prod.snd).flatten
theorem MJ (X:List yq) (k:Nat) (h:k<X.length):wi (X.take (k+1))=wi (X.take k)++X[k].2:=by
 unfold wi;rw [List.take_succ_eq_append_getElem h,Aj,Ak];simp
theorem RK (X:List yq) (k:Nat):(lx (wi (X.take k))).size≤(lx (wi X)).size:=by
 have e:wi X=wi (X.take k)++wi (X.drop k):=by
  unfold wi;rw [← Ak,← Aj,Al]
 rw [e,aG,zr];omega
structure TgI (S:List Nat) (w1:yy) (X:List yq) (k:Nat) (p:Option zq) (wr:yy):Prop where
 t:Tr wr S p (wi (X.take k))
 bel:yx w1 w1 wr
set_option maxHeartbeats 1600000 in
theorem lL {X:List yq} (hS:qf S w) (hr:qp w g 0 (v7 X)) (hn:X.length=n) (h3:n≤3) (hX:∀ x∈X,Tr w S x.1 x.2) (hz:(lx (wi X)).size≤6000) :
 zd prog 166 #[zi (some ⟨g,0,none⟩) n c] w (rj S w (wi X)):=by
 have hmf:∀ (fn:Fn) (first cap:Array zn) (w:yy),(Instr.makeFunc fn first cap).run prog w=.ok (.func fn first cap) w:=fun _ _ _ _=>rfl;have HS:=yv hS;have HR:=yv hr;have HN:=yv hn;have HX:=yv hX;have HZ:=yv hz;clear hS hr hn hX hz;go_enter func166,ntmps166;go_wp2;have ad:yx w w (w.alloc (zg #[vl w] 230)):=(ze _ _).alloc (zo _) _;have hbx:(w.alloc (zg #[vl w] 230)) ⟨w,0,none⟩=some (vl w):=(l6.new w #[vl w] 230).cell 0 _ rfl;have hsz:w.heap.size<(w.alloc (zg #[vl w] 230)):=lh;obtain ⟨w1,hw⟩:∃ w1,w1=w.alloc (zg #[vl w] 230):=⟨_,rfl⟩;rw [← hw] at ad hbx hsz;rw [← hw];obtain ⟨bl,hbl⟩:∃ bl,w.heap.size=bl:=⟨_,rfl⟩;rw [hbl] at hbx hsz;simp only [hbl];have HW:=yv ad;have aj:=yv hbx;have ak:=yv hsz;clear hw ad hbx hsz hbl hmf
 go_loopw [4,10] (fun v i wr=>∃ (k:Nat) (p:Option zq),k≤n∧v=yw p∧i=zj zf k∧TgI S w1 X k p wr) (fun _ i _=>n - (zw i).toNat)
 case atStart=>exact ⟨0,none,Ab _,rfl,rfl,.inl ⟨rfl,rfl⟩,ze _ _⟩
 case round =>
  obtain ⟨k,p,hk,rfl,rfl,hI⟩:=hrel;by_cases hlt:k<n
  ·have hkl:k<X.length:=by rw [HN.out];exact hlt
   have hbw:=HW.out.trans (hI.bel.mono HW.out.size);have q0:=(HR.out.on hbw).2 k (by unfold v7;rw [An];exact hkl);rw [show (v7 X)[k]'(by unfold v7;rw [An];exact hkl)=yw X[k].1 by simp [v7],Ad] at q0;have ht:=(HX.out X[k] (Ag hkl)).later hbw;have hst:=MJ X k hkl;have hcz:=Ao (RK X (k+1)) HZ.out;obtain ⟨x,hx⟩:∃ x,X[k]=x:=⟨_,rfl⟩;rw [hx] at q0 ht hst;obtain ⟨xp,xl⟩:=x;dsimp only at q0 ht hst;rw [hst] at hcz;have b1:(k:Int)<(n:Int):=lf;have ac:(lx (wi (X.take k))).size≤6000:=by rw [aG,zr] at hcz;omega
   have ab:(lx xl).size≤6000:=by rw [aG,zr] at hcz;omega
   rcases ht with ⟨rfl,rfl⟩|⟨b,h,rfl,kb⟩
   ·have kh:=pQ wr;have HN:=yv (fun W (hW:yx wr wr W)=>(show TgI S w1 X (k+1) p W from ⟨by rw [hst,Ap];exact hI.t.later hW,hI.bel.trans (hW.mono hI.bel.size)⟩));have KH:=yv kh;clear kh hI hst hcz hx hkl hbw ac ab;go_wp2_with fail;refine KH.out.mono ?_;rintro e w2 ⟨rfl,aa⟩;have ae:=yv (HN.out w2 aa);clear aa;go_wp2;go_roundw
    case rel=>exact ⟨k+1,p,lf,rfl,by go_num,ae.out⟩
    case measure=>simp [zw];omega
   ·have kh:=(kb.hgt (by have:=kb.high ab;omega)).call;have KH:=yv kh;rcases hI.t with ⟨rfl,he⟩|⟨a,ha,rfl,ka⟩
    ·have HN:=yv (fun W (hW:yx wr wr W)=>(show TgI S w1 X (k+1) (some ⟨b,0,none⟩) W from ⟨.inr ⟨b,h,rfl,by rw [hst,he,Aq];exact kb.later hW⟩,hI.bel.trans (hW.mono hI.bel.size)⟩));clear kh hI hst hcz hx hkl hbw ac ab kb he;go_wp2_with fail;refine KH.out.mono ?_;rintro e w2 ⟨rfl,aa⟩;have ae:=yv (HN.out w2 aa);clear aa;go_wp2;go_roundw
     case rel=>exact ⟨k+1,_,lf,rfl,by go_num,ae.out⟩
     case measure=>simp [zw];omega
    ·have hha:=ka.high ac;have hhb:=kb.high ab;have af:qf S wr:=HS.out.on hbw.size;have cl:=fun W (hW:yx wr wr W)=>OS (ha+h) S W a b ha h bl _ _ (zo _) (af.on hW.size) (((hI.bel.trans (hW.mono hI.bel.size)).cell ak.out).trans aj.out) (ka.later hW) (kb.later hW) lf lf lf;rw [← hst] at cl hcz;have ag:∀ W,yx wr wr W→W ⟨bl,0,none⟩=some (vl bl):=fun W hW=>((hI.bel.trans (hW.mono hI.bel.size)).cell ak.out).trans aj.out;have HN:=yv (fun W (hW:yx wr wr W) q (hq:Tr W S q (wi (X.take (k+1))))=>(show TgI S w1 X (k+1) q W from ⟨hq,hI.bel.trans (hW.mono hI.bel.size)⟩));have CL:=yv cl;have HB:=yv ag;have al:=yv hcz;have au:=yv af;have HM:=yv (show max ha h≤12 from lf);obtain ⟨hm,hhm⟩:∃ hm,max ha h=hm:=⟨_,rfl⟩;rw [hhm] at CL HM;obtain ⟨XL,hXL⟩:∃ XL,wi (X.take (k+1))=XL:=⟨_,rfl⟩;rw [hXL] at CL al HN;clear kh hI hst hcz hx hkl hbw ac ab kb ka cl ag af hhm hXL hha hhb;go_wp2_with fail;refine KH.out.mono ?_;rintro e w2 ⟨rfl,aa⟩;have q1:=HB.out w2 aa;have ah:=yv aa;clear aa;go_wp2_with fail;refine (CL.out w2 ah.out).mono ?_;rintro e w3 ⟨r,c3,K3,rfl,ho,x1,x2,hf,am,an⟩;have ai:=ah.out.trans (an.mono ah.out.size);have hJ:m7 w3 (pj S w3) r 0 K3.length hm K3:=⟨rfl,(iA ho lf).2.2,fun k hk=>(am k hk).lessS,fun i hi=>hi.1,by have:=HM.out;omega,by rw [hf];have:=al.out;omega⟩;have cu:=GP (c:=c3) (au.out.on ai.size) hJ x1 lf;rw [hf] at cu;have CU:=yv cu;have ao:=yv ai;clear ho hf am an ai hJ cu;go_wp2_with fail;refine CU.out.mono ?_;rintro e w4 ⟨q,rfl,aq,ar⟩;have av:=yv (HN.out w4 (ao.out.trans (ar.mono ao.out.size)) q aq);clear aq ar;go_wp2;go_roundw
     case rel=>exact ⟨k+1,q,lf,rfl,by go_num,av.out⟩
     case measure=>simp [zw];omega
  ·obtain rfl:k=n:=lf;have e:X.take k=X:=List.take_of_length_le (by rw [HN.out];exact zo _);have HQ:=yv (show rj S w (wi X) (zh (yw p)) wr from ⟨p,rfl,by have:=hI.t;rwa [e] at this,HW.out.trans (hI.bel.mono HW.out.size)⟩);clear hI e;go_wp2;go_ret;exact HQ.out
structure yt (S:List Nat) (F:zz) (caps:Array zn) (Inv:Int→yy→Prop) (zk:Int→List pg→Nat→Int→Prop):Prop where
 on:∀ q w w',Inv q w→yx w.heap.size w w'→Inv q w'
 call:∀ q w g c h (K:List pg),g ∉ S→Inv q w→qf S w→m7 w (pj S w) g 0 K.length h K→2≤K.length→K.length≤8→zd prog F (#[zi (some ⟨g,0,none⟩) K.length c]++caps) w fun e w' =>
  ∃ (i:Nat) (q1:Int),e=zh (zj zf i)∧i<K.length∧zk q K i q1∧Inv q1 w'∧lu S w w'
structure Way (zk:Int→List pg→Nat→Int→Prop) (Rel:Int→List ByteArray→List ByteArray→ByteArray→List ByteArray→Int→Prop):Prop where
 base:∀ q s,qq s→Rel q [s] [] s [] q
 step:∀ q K i q1 A s C q',(h:i<K.length)→zk q K i q1→Rel q1 K[i].L A s C q'→Rel q (flat K) (flat (K.take i)++A) s (C++flat (K.drop (i+1))) q'
def RetAr (S:List Nat) (Inv:Int→yy→Prop) (Rel:Int→List ByteArray→List ByteArray→ByteArray→List ByteArray→Int→Prop) (w:yy) (q:Int) (L:List ByteArray) (e:zy) (w':yy):Prop:=
 ∃ p1 A s p2 C q',e=zh (zp #[yw p1,zm s,yw p2])∧Tr w' S p1 A∧Tr w' S p2 C∧L=A++([s]++C)∧Rel q L A s C q'∧Inv q' w'∧lu S w w'
theorem NY (w:yy) (p q:Option zq):qp (w.alloc (zg #[yw p,yw q] 128)) w 0 [yw p,yw q]:=
 ⟨lh,fun j hj=>by
  match j,hj with
  | 0,_=>simp [Aa]
  | 1,_=>simp [Aa]⟩
theorem MU (w:yy) (p q r:Option zq):qp (w.alloc (zg #[yw p,yw q,yw r] 128)) w 0 [yw p,yw q,yw r]:=
 ⟨lh,fun j hj=>by
  match j,hj with
  | 0,_=>simp [Aa]
  | 1,_=>simp [Aa]
  | 2,_=>simp [Aa]⟩
theorem gS (hS:qf S w) (t1:Tr w S p L) (t2:Tr w S q R) (hz:(lx (L++R)).size≤6000) :
 zd prog 166 #[zi (some ⟨w,0,none⟩) (2:Nat) (2:Nat)] (w.alloc (zg #[yw p,yw q] 128)) (rj S w (L++R)):=by
 have hb:yx w w (w.alloc (zg #[yw p,yw q] 128)):=(ze _ _).alloc (zo _) _;have hc:wi [(p,L),(q,R)]=L++R:=by simp [wi]
 refine (lL (X:=[(p,L),(q,R)]) (n:=2) (c:=2) (hS.on hb.size) (NY w p q) rfl li (fun x hx=>?_) (by rw [hc];exact hz)).mono fun e w' h=>by rw [hc] at h;exact h.from hb
 simp at hx;rcases hx with rfl|rfl
 ·exact t1.later hb
 ·exact t2.later hb
theorem qL {r:Option zq} {X:List ByteArray} (hS:qf S w) (t1:Tr w S p L) (t2:Tr w S q R) (t3:Tr w S r X) (hz:(lx (L++(R++X))).size≤6000) :
 zd prog 166 #[zi (some ⟨w,0,none⟩) (3:Nat) (3:Nat)] (w.alloc (zg #[yw p,yw q,yw r] 128)) (rj S w (L++(R++X))):=by
 have hb:yx w w (w.alloc (zg #[yw p,yw q,yw r] 128)):=(ze _ _).alloc (zo _) _;have hc:wi [(p,L),(q,R),(r,X)]=L++(R++X):=by simp [wi]
 refine (lL (X:=[(p,L),(q,R),(r,X)]) (n:=3) (c:=3) (hS.on hb.size) (MU w p q r) rfl li (fun x hx=>?_) (by rw [hc];exact hz)).mono fun e w' h=>by rw [hc] at h;exact h.from hb
 simp at hx;rcases hx with rfl|rfl|rfl
 ·exact t1.later hb
 ·exact t2.later hb
 ·exact t3.later hb
theorem qP {K:List pg} (hS:qf S w) (p:m7 w (pj S w) g o n h K) (h8:n≤8) :
 zd prog 172 #[zi (some ⟨g,o,none⟩) n c] w (rj S w (flat K)):=by
 rcases Ar n with rfl|h0
 ·obtain rfl:K=[]:=Au p.len;exact (zP w).mono fun e w' ⟨he,hb⟩=>⟨none,he,.inl ⟨rfl,rfl⟩,hb⟩
 ·exact GP hS p h0 h8
theorem m7.apartS {K:List pg} (p:m7 w (pj S w) g o n h K) (hg:g ∉ S) (ha:lu S w w'):m7 w' (pj S w') g o n h K:=
 ⟨p.len,p.row.keep ha.size (ha.block g p.row.1 hg),fun k hk=>(p.kids k hk).apartS ha,fun i hi=>hi.1,p.hh,p.size⟩
theorem m7.later {K:List pg} (p:m7 w (pj S w) g o n h K) (hb:yx w w w'):m7 w' (pj S w') g o n h K:=
 ⟨p.len,p.row.on hb,fun k hk=>(p.kids k hk).later hb,fun i hi=>hi.1,p.hh,p.size⟩
theorem m7.none {K:List pg} (p:m7 w (pj S w) g o n h K) (hn:n=0) (o':Nat):m7 w (pj S w) g o' n h K:=by
 subst hn;obtain rfl:K=[]:=Au p.len;exact ⟨rfl,⟨p.row.1,fun j hj=>absurd hj (by simp [ns])⟩,p.kids,p.lt,p.hh,p.size⟩
theorem aL (A B:List ByteArray):(lx (A++B)).size=(lx A).size+(lx B).size:=by rw [aG,zr]
theorem lT {K:List pg} {i:Nat} (h:i<K.length):flat K=flat (K.take i)++(K[i].L++flat (K.drop (i+1))):=by
 rw [← dC,← od,← od,List.singleton_append,← List.drop_eq_getElem_cons,Al]
set_option maxHeartbeats 800000 in
theorem ES (f:zn) (w:yy):zd prog 167 #[yw none,f] w fun e w'=>e=zh (zp #[yw none,zm ⟨#[]⟩,yw none])∧yx w w w':=by
 have cb:=GC w;have cf:=sQ;have CB:=yv cb;have CF:=yv cf;clear cb cf;go_enter func167,ntmps167;go_wp2_with fail;refine CB.out.mono ?_;rintro e w1 ⟨rfl,aa⟩;have ac:=yv aa;clear aa;go_wp2_with fail;refine (my ac.out (CF.out w1)).mono ?_;rintro e w2 ⟨rfl,ab⟩;have ad:=yv ab;clear ab;go_wp2;refine Ae (v:=zp #[yw none,zm ⟨#[]⟩,yw none]) (by simp [Af,results167,go_sem]) rfl ?_;exact ⟨rfl,ad.out⟩
def vq (S:List Nat) (F:zz) (caps:Array zn) (Inv:Int→yy→Prop) (Rel:Int→List ByteArray→List ByteArray→ByteArray→List ByteArray→Int→Prop) (h:Nat):Prop:=∀ (w:yy) (b:Nat) (L:List ByteArray) (q:Int),l9 w (pj S w) h b L→qf S w→Inv q w→(lx L).size≤6000 →
 zd prog 167 #[pv b,(.func (.func F) #[] caps)] w (RetAr S Inv Rel w q L)
set_option maxHeartbeats 800000 in
theorem PI {F:zz} {caps:Array zn} {Inv:Int→yy→Prop} {zk:Int→List pg→Nat→Int→Prop} {Rel:Int→List ByteArray→List ByteArray→ByteArray→List ByteArray→Int→Prop} (hp:yt S F caps Inv zk) (hy:Way zk Rel):vq S F caps Inv Rel 0:=by
 intro w b L q k hS hq hz;have cb:=gE k;obtain ⟨-,s,rfl,hf,hB⟩:=k;have cf:=fun W (hW:yx w w W)=>sH (hB.onto hW);have HR:=yv (fun W (hW:yx w w W)=>(show RetAr S Inv Rel w q [s] (zh (zp #[yw none,zm s,yw none])) W from ⟨none,[],s,none,[],q,rfl,.inl ⟨rfl,rfl⟩,.inl ⟨rfl,rfl⟩,rfl,hy.base q s hf,hp.on q w W hq hW,.of_below hW⟩));have CB:=yv cb;have CF:=yv cf;clear cb cf hB hf hq hS hz hp hy;go_enter func167,ntmps167;go_wp2_with fail;refine CB.out.mono ?_;rintro e w1 ⟨rfl,aa⟩;have ab:=yv aa;clear aa;go_wp2_with fail;refine (my ab.out (CF.out w1 ab.out)).mono ?_;rintro e w2 ⟨rfl,ac⟩;have ad:=yv ac;clear ac;go_wp2;refine Ae (v:=zp #[yw none,zm s,yw none]) (by simp [Af,results167,go_sem]) rfl ?_;exact HR.out w2 ad.out
set_option maxHeartbeats 1600000 in
theorem OZ {F:zz} {caps:Array zn} {Inv:Int→yy→Prop} {zk:Int→List pg→Nat→Int→Prop} {Rel:Int→List ByteArray→List ByteArray→ByteArray→List ByteArray→Int→Prop} (ent:∀ (args:Array zn) (w:yy),(callFunc F args).run prog w=.ok (.enter F args) w) (hp:yt S F caps Inv zk) (hy:Way zk Rel) (hh:h≤20) (ih:vq S F caps Inv Rel h):vq S F caps Inv Rel (h+1):=by
 intro w b L q k hS hq hz;obtain ⟨M,g,c,hM,rfl,-⟩:=k.node;have cb:=dN hM lf;have h2:=hM.two;have h8:=hM.eight;obtain ⟨n,hn⟩:∃ n,M.length=n:=⟨_,rfl⟩;rw [hn] at h2 h8;have hj:∀ (w1:yy) (g':Nat),yx w w w1→qp w1 g' 0 (ns M)→m7 w1 (pj S w1) g' 0 n h M:=fun w1 g' hb hr=>⟨hn,hr,fun k hk=>(hM.kids k hk).later hb,fun i hi=>hi.1,lf,lf⟩;have hcall:∀ (w1:yy) (g' c':Nat),g' ∉ S→yx w w w1→qp w1 g' 0 (ns M)→zd prog F (#[zi (some ⟨g',0,none⟩) n c']++caps) w1 fun e w'=>∃ (i:Nat) (q1:Int),e=zh (zj zf i)∧i<n∧zk q M i q1∧Inv q1 w'∧lu S w1 w':=fun w1 g' c' hgS hb hr=>by
  have:=hp.call q w1 g' c' h M hgS (hp.on q w w1 hq hb) (hS.on hb.size) (by rw [hn];exact hj w1 g' hb hr) lf lf;rw [hn] at this;exact this
 have CB:=yv cb;have CC:=yv hcall;have HJ:=yv hj;have HN:=yv hn;have HS:=yv hS;have HY:=yv hy;have HI:=yv ih;have HZ:=yv hz;have be:=yv hp.on;clear cb hcall hj hn hS hy ih hz hp hM k hq;go_enter func167,ntmps167;go_wp2_with fail;refine CB.out.mono ?_;rintro e w1 ⟨v1,rfl,a6,am⟩;obtain ⟨g',c',rfl,hc',hg',ar⟩:=bH a6 (by rw [HN.out];omega);rw [HN.out] at hc' ⊢;have au:=yv (show g' ∉ S from fun hm=>by have:=HS.out g' hm;omega);have cw:=CC.out w1 g' c' au.out am ar;have CW:=yv cw;have bf:=yv (HJ.out w1 g' am ar);have a7:=yv am;clear a6 am hg' ar cw;have b0:((n:Int) == 0)=false:=by simpa using (show ¬ (n:Int)=0 by omega)
 have b0':(n == 0)=false:=by simpa using (show ¬ n=0 by omega)
 go_wp2_with fail;refine CW.out.mono ?_;rintro e w2 ⟨i,q1,rfl,hin,hgood,a8,an⟩;have ao:=bf.out.apartS au.out an;have q0:=ao.cell hin;rw [Ad] at q0;have hil:i<M.length:=by rw [HN.out];exact hin
 have av:qf S w2:=HS.out.on (Ao a7.out.size an.size);have e0:=lT hil;have hxz:(lx M[i].L).size≤6000:=by
  have:=HZ.out;rw [e0,aG,aG,zr,zr] at this;omega
 have ci:=HI.out w2 M[i].b M[i].L q1 (ao.kids _ (Ag hil)) av a8 hxz;have a9:=yv (fun A s C q'=>HY.out.step q M i q1 A s C q' hil hgood);have ba:=yv e0;obtain ⟨xb,hxb⟩:∃ xb,M[i].b=xb:=⟨_,rfl⟩;obtain ⟨xL,hxL⟩:∃ xL,M[i].L=xL:=⟨_,rfl⟩;rw [hxb] at q0 ci;rw [hxL] at ci a9 ba;have CI:=yv ci;have bg:=yv ao;have bh:=yv ((lu.of_below a7.out:lu S w w1).trans an (fun x hx=>.inl hx));have bi:=yv av;have b1:(0:Int)≤(i:Int):=lf;have b2:(i:Int)<(n:Int):=lf;clear ci ao an hgood a8 hxz hil hxb hxL e0 av;go_wp2_with fail;refine CI.out.mono ?_;rintro e w3 ⟨p1,A,s,p2,C,q',rfl,t1,t2,hL,hrel,bb,aq⟩;have aw:=bg.out.apartS au.out aq;have hsA:qf S w3:=bi.out.on aq.size;have hall:flat M=(flat (M.take i)++A)++([s]++(C++flat (M.drop (i+1)))):=by rw [ba.out,hL];simp only [Av]
 have bc:(lx (flat (M.take i)++A)).size≤6000:=by
  have:=HZ.out;rw [hall] at this;simp only [aL] at this ⊢;omega
 have bd:(lx (C++flat (M.drop (i+1)))).size≤6000:=by
  have:=HZ.out;rw [hall] at this;simp only [aL] at this ⊢;omega
 have ca:∀ W,yx w3 w3 W→zd prog 172 #[zi (some ⟨g',0,none⟩) i c'] W (rj S W (flat (M.take i))):=fun W hW=>qP (hsA.on hW.size) ((aw.later hW).head lf) lf;have cc:∀ W o (len cap:Nat),yx w3 w3 W→len=n - (i+1)→(o=i+1∨n=i+1)→zd prog 172 #[zi (some ⟨g',o,none⟩) len cap] W (rj S W (flat (M.drop (i+1)))):=fun W o len cap hW hlen ho=>by
  subst hlen;have:=(aw.later hW).tail (i+1);rw [Ad] at this;rcases ho with rfl|ho
  ·exact qP (hsA.on hW.size) this lf
  ·exact qP (hsA.on hW.size) (this.none lf o) lf
 have ct1:∀ W p,yx w3 w3 W→Tr W S p (flat (M.take i))→zd prog 166 #[zi (some ⟨W.heap.size,0,none⟩) (2:Nat) (2:Nat)] (W.alloc (zg #[yw p,yw p1] 128)) (rj S W (flat (M.take i)++A)):=fun W p hW hp =>
  gS (hsA.on hW.size) hp (t1.later hW) bc
 have ct2:∀ W p,yx w3 w3 W→Tr W S p (flat (M.drop (i+1)))→zd prog 166 #[zi (some ⟨W.heap.size,0,none⟩) (2:Nat) (2:Nat)] (W.alloc (zg #[yw p2,yw p] 128)) (rj S W (C++flat (M.drop (i+1)))):=fun W p hW hp =>
  gS (hsA.on hW.size) (t2.later hW) hp bd
 have ax:=yv (fun W (hW:yx w3 w3 W) u v (hu:Tr W S u (flat (M.take i)++A)) (hv:Tr W S v (C++flat (M.drop (i+1))))=>(show RetAr S Inv Rel w q (flat M) (zh (zp #[yw u,zm s,yw v])) W from ⟨u,_,s,v,_,q',rfl,hu,hv,hall,a9.out A s C q' hrel,be.out q' w3 W bb hW,(bh.out.trans aq (fun x hx=>.inl hx)).trans (lu.of_below hW:lu S w3 W) (fun x hx=>.inl hx)⟩));have CA:=yv ca;have CD:=yv cc;have T1:=yv ct1;have T2:=yv ct2;have b3:(i:Int)≤(c':Int):=lf;have b3':i≤c':=lf;have b4:(i:Int)+1≤(n:Int):=lf;have b5:(n:Int)≤(c':Int):=lf;have b6:zf.wrap ((i:Int)+1)=(i:Int)+1:=IntWalk.i64_in _ lf;have b7:((i:Int)+1).toNat=i+1:=lf;have b8:(0:Int)≤(i:Int)+1:=lf;clear ca cc ct1 ct2 hall bc bd hsA aw t1 t2 hL hrel bb aq;go_wp2_with fail;by_cases hcz:c'=i+1
 ·subst hcz;have b9:(i:Int)≤(i:Int)+1:=lf;refine zx (S:=(fun w':yy=>yx w3 w3 w')) lg (ze _ _).drew (fun hHeld=>?_);refine ly 0 ?_;refine ly 1 ?_;refine ly 2 ?_;refine ly 4 ?_;refine ly 7 ?_;refine ly 8 ?_;refine ly 9 ?_;refine ly 10 ?_;refine ly 11 ?_;refine ly 12 ?_;refine m8 3 fun K hK=>?_;go_simp
  (go_at_call 172;refine (CA.out _ hHeld).mono ?_;rintro e w4 ⟨u1,rfl,af,ag⟩;have aa:=yv (hHeld.trans (ag.mono hHeld.size));have ay:=yv af;clear af ag)
  try go_wp2_with fail
  refine hK.out _ _ ?_ (fun hHeld=>?_)
  ·exact aa.out
  clear hK K
  try simp only [yz,mj]
  refine m8 5 fun K hK=>?_;go_simp;have az:=yv (aa.out.alloc aa.out.size (zg #[yw u1,yw p1] 128))
  try go_wp2_with fail
  refine hK.out _ _ ?_ (fun hHeld=>?_)
  ·exact az.out
  clear hK K
  try simp only [yz,mj]
  refine m8 6 fun K hK=>?_;go_simp
  (go_at_call 166;refine (T1.out w4 u1 aa.out ay.out).mono ?_;rintro e w5 ⟨u2,rfl,ah,ai⟩;have ac:=yv (aa.out.trans (ai.mono aa.out.size));have a0:=yv ah;clear ah ai)
  try go_wp2_with fail
  refine hK.out _ _ ?_ (fun hHeld=>?_)
  ·exact ac.out
  clear hK K
  try simp only [yz,mj]
  refine m8 13 fun K hK=>?_;go_simp
  (go_at_call 172;refine (CD.out _ 0 0 _ ac.out lf (.inr lf)).mono ?_;rintro e w6 ⟨u3,rfl,aj,ad⟩;have ab:=yv (ac.out.trans (ad.mono ac.out.size));have a1:=yv ad;have a2:=yv aj;clear aj ad)
  try go_wp2_with fail
  refine hK.out _ _ ?_ (fun hHeld=>?_)
  ·exact ab.out
  clear hK K
  try simp only [yz,mj]
  refine m8 14 fun K hK=>?_;go_simp;have a3:=yv (ab.out.alloc ab.out.size (zg #[yw p2,yw u3] 128))
  try go_wp2_with fail
  refine hK.out _ _ ?_ (fun hHeld=>?_)
  ·exact a3.out
  clear hK K
  try simp only [yz,mj]
  refine m8 15 fun K hK=>?_;go_simp
  (go_at_call 166;refine (T2.out w6 u3 ab.out a2.out).mono ?_;rintro e w7 ⟨u4,rfl,ak,ae⟩;have al:=yv (ab.out.trans (ae.mono ab.out.size));have a4:=yv ae;have a5:=yv ak;clear ak ae)
  try go_wp2_with fail
  refine hK.out _ _ ?_ (fun hHeld=>?_)
  ·exact al.out
  clear hK K
  try simp only [yz,mj]
  refine ly 16 ?_;refine ly 17 ?_;refine ly 18 ?_;refine zs lg ?_ _;go_wp2_with fail;refine Ae (v:=zp #[yw u2,zm s,yw u4]) (by simp [Af,results167,go_sem]) rfl ?_;exact ax.out w7 al.out u2 u4 ((a0.out.later a1.out).later a4.out) a5.out
 ·
  refine zx (S:=(fun w':yy=>yx w3 w3 w')) lg (ze _ _).drew (fun hHeld=>?_);refine ly 0 ?_;refine ly 1 ?_;refine ly 2 ?_;refine ly 4 ?_;refine ly 7 ?_;refine ly 8 ?_;refine ly 9 ?_;refine ly 10 ?_;refine ly 11 ?_;refine ly 12 ?_;refine m8 3 fun K hK=>?_;go_simp
  (go_at_call 172;refine (CA.out _ hHeld).mono ?_;rintro e w4 ⟨u1,rfl,af,ag⟩;have aa:=yv (hHeld.trans (ag.mono hHeld.size));have ay:=yv af;clear af ag)
  try go_wp2_with fail
  refine hK.out _ _ ?_ (fun hHeld=>?_)
  ·exact aa.out
  clear hK K
  try simp only [yz,mj]
  refine m8 5 fun K hK=>?_;go_simp;have az:=yv (aa.out.alloc aa.out.size (zg #[yw u1,yw p1] 128))
  try go_wp2_with fail
  refine hK.out _ _ ?_ (fun hHeld=>?_)
  ·exact az.out
  clear hK K
  try simp only [yz,mj]
  refine m8 6 fun K hK=>?_;go_simp
  (go_at_call 166;refine (T1.out w4 u1 aa.out ay.out).mono ?_;rintro e w5 ⟨u2,rfl,ah,ai⟩;have ac:=yv (aa.out.trans (ai.mono aa.out.size));have a0:=yv ah;clear ah ai)
  try go_wp2_with fail
  refine hK.out _ _ ?_ (fun hHeld=>?_)
  ·exact ac.out
  clear hK K
  try simp only [yz,mj]
  refine m8 13 fun K hK=>?_;go_simp
  (go_at_call 172;refine (CD.out _ (i+1) (n - (i+1)) _ ac.out lf (.inl rfl)).mono ?_;rintro e w6 ⟨u3,rfl,aj,ad⟩;have ab:=yv (ac.out.trans (ad.mono ac.out.size));have a1:=yv ad;have a2:=yv aj;clear aj ad)
  try go_wp2_with fail
  refine hK.out _ _ ?_ (fun hHeld=>?_)
  ·exact ab.out
  clear hK K
  try simp only [yz,mj]
  refine m8 14 fun K hK=>?_;go_simp;have a3:=yv (ab.out.alloc ab.out.size (zg #[yw p2,yw u3] 128))
  try go_wp2_with fail
  refine hK.out _ _ ?_ (fun hHeld=>?_)
  ·exact a3.out
  clear hK K
  try simp only [yz,mj]
  refine m8 15 fun K hK=>?_;go_simp
  (go_at_call 166;refine (T2.out w6 u3 ab.out a2.out).mono ?_;rintro e w7 ⟨u4,rfl,ak,ae⟩;have al:=yv (ab.out.trans (ae.mono ab.out.size));have a4:=yv ae;have a5:=yv ak;clear ak ae)
  try go_wp2_with fail
  refine hK.out _ _ ?_ (fun hHeld=>?_)
  ·exact al.out
  clear hK K
  try simp only [yz,mj]
  refine ly 16 ?_;refine ly 17 ?_;refine ly 18 ?_;refine zs lg ?_ _;go_wp2_with fail;refine Ae (v:=zp #[yw u2,zm s,yw u4]) (by simp [Af,results167,go_sem]) rfl ?_;exact ax.out w7 al.out u2 u4 ((a0.out.later a1.out).later a4.out) a5.out
theorem jN {F:zz} {caps:Array zn} {Inv:Int→yy→Prop} {zk:Int→List pg→Nat→Int→Prop} {Rel:Int→List ByteArray→List ByteArray→ByteArray→List ByteArray→Int→Prop} (ent:∀ (args:Array zn) (w:yy),(callFunc F args).run prog w=.ok (.enter F args) w) (hp:yt S F caps Inv zk) (hy:Way zk Rel) (h:Nat) (hh:h≤20):vq S F caps Inv Rel h:=by
 induction h with
 | zero=>exact PI hp hy
 | succ h ih=>exact OZ ent hp hy lf (ih lf)
def noneI (q:Int) (w:yy):Prop:=True
def lastG (q:Int) (K:List pg) (i:Nat) (q1:Int):Prop:=i+1=K.length
def lastR (q:Int) (L A:List ByteArray) (s:ByteArray) (C:List ByteArray) (q':Int):Prop:=C=[]
def x9 (q:Int) (K:List pg) (i:Nat) (q1:Int):Prop:=i=0
def yb (q:Int) (L A:List ByteArray) (s:ByteArray) (C:List ByteArray) (q':Int):Prop:=A=[]
theorem LD:Way lastG lastR:=
 ⟨fun q s _=>rfl,fun q K i q1 A s C q' h hg hr=>by
  unfold lastG at hg;unfold lastR at hr ⊢;rw [hr,hg,List.drop_length];rfl⟩
theorem GD:Way x9 yb:=
 ⟨fun q s _=>rfl,fun q K i q1 A s C q' h hg hr=>by
  unfold x9 at hg;unfold yb at hr ⊢;subst hg;rw [hr];rfl⟩
theorem JW:yt [] 168 #[] noneI lastG:=by
 refine ⟨fun _ _ _ _ _=>trivial,fun q w g c h K _ _ _ _ h2 h8=>?_⟩;obtain ⟨n,hn⟩:∃ n,K.length=n+1:=⟨K.length - 1,lf⟩;show zd prog 168 #[zi (some ⟨g,0,none⟩) K.length c] w _;have HN:=yv hn;rw [hn];rw [hn] at h8;clear hn h2;go_enter func168,ntmps168;go_wp2;go_ret;exact ⟨n,q,rfl,lf,HN.out.symm,trivial,lu.refl _ _⟩
theorem DE:yt [] 169 #[] noneI x9:=by
 refine ⟨fun _ _ _ _ _=>trivial,fun q w g c h K _ _ _ _ h2 h8=>?_⟩;show zd prog 169 #[zi (some ⟨g,0,none⟩) K.length c] w _;go_enter func169,ntmps169;go_wp2;go_ret;exact ⟨0,q,rfl,lf,rfl,trivial,lu.refl _ _⟩
def o8 (q:Int):Prop:=-9223372036854775808≤q∧q≤9223372036854775807
def yd (bt:Nat) (q:Int) (w:yy):Prop:=l6 w bt #[zj zf q] 3∧o8 q
def ye (q:Int) (K:List pg) (i:Nat) (q1:Int):Prop:=q1=q - (lx (flat (K.take i))).size∧(0<i→0≤q1)∧∀ h:i<K.length,i+1<K.length→q1<(lx K[i].L).size
theorem qM {K:List pg} (h:K.length≤n):flat (K.drop n)=[]:=by rw [List.drop_of_length_le h];rfl
def cutR (q:Int) (L A:List ByteArray) (s:ByteArray) (C:List ByteArray) (q':Int):Prop:=vi L q A s C q'
theorem JP:Way ye cutR:=by
 refine ⟨fun q s _=>⟨rfl,by have z:(lx []).size=0:=rfl;omega,fun h=>absurd rfl h,fun h=>absurd rfl h⟩,fun q K i q1 A s C q' h hg hr=>?_⟩;obtain ⟨g1,g2,g3⟩:=hg;obtain ⟨r1,r2,r3,r4⟩:=hr;have e:=lT h;refine ⟨by rw [e,r1];simp only [Av],by rw [aL];omega,fun hn=>?_,fun hn=>?_⟩
 ·by_cases hA:A=[]
  ·subst hA;have:0<i:=by
    rcases Ar i with rfl|h0
    ·exact absurd rfl hn
    ·exact h0
   have:=g2 this;have z:(lx []).size=0:=rfl;omega
  ·exact r3 hA
 ·by_cases hC:C=[]
  ·subst hC;have hi:i+1<K.length:=by
    rcases Ai (i+1) K.length with g|g
    ·exact g
    ·exact absurd (qM g) hn
   have:=g3 h hi;rw [r1,aL,aL,bQ] at this;have z:(lx []).size=0:=rfl;omega
  ·exact r4 hC
structure SpI (bt:Nat) (w:yy) (K:List pg) (q:Int) (i:Nat) (q1:Int) (wr:yy):Prop where
 blk:l6 wr bt #[zj zf q1] 3
 in':o8 q1
 at':q1=q - (lx (flat (K.take i))).size
 lo:0<i→0≤q1
 ap:lu [bt] w wr
theorem qJ (K:List pg) (k:Nat) (h:k<K.length):(lx (flat (K.take (k+1)))).size=(lx (flat (K.take k))).size+(lx K[k].L).size:=by rw [sE K k h,aL]
set_option maxHeartbeats 1600000 in
theorem DU (bt:Nat):yt [bt] 207 #[yw (some ⟨bt,0,none⟩)] (yd bt) ye:=by
 refine ⟨fun q w w' h hb=>⟨h.1.onto hb,h.2⟩,fun q w g c h M hgS hq hS hj h2 h8=>?_⟩;show zd prog 207 #[zi (some ⟨g,0,none⟩) M.length c,yw (some ⟨bt,0,none⟩)] w _;have hbt:bt<w:=hS bt lh;have hg:g≠bt:=by simpa using hgS
 have hcf:∀ (a b c:Int) (W:yy),(Instr.field 173 (cntV a b c) 0).run prog W=.ok (zj zf a) W:=fun a b c W=>lg;obtain ⟨n,hn⟩:∃ n,M.length=n:=⟨_,rfl⟩;rw [hn] at h2 h8 hj ⊢;have HN:=yv hn;have HJ:=yv hj;have HS:=yv hS;have HG:=yv hg;have am:=yv hgS;have aj:=yv hq;have ao:=yv hbt;clear hn hj hS hg hgS hq hbt;have e1:zf.wrap ((n:Int) - 1)=(n:Int) - 1:=IntWalk.i64_in _ lf;go_enter func207,ntmps207;go_wp2
 go_loopw [4] (fun v wr=>∃ (i:Nat) (q1:Int),v=zj zf i∧i<n∧SpI bt w M q i q1 wr) (fun v _=>n - (zw v).toNat)
 case atStart=>exact ⟨0,q,rfl,lf,aj.out.1,aj.out.2,by have z:(lx (flat (M.take 0))).size=0:=rfl;omega,fun h=>absurd h (Nat.lt_irrefl 0),lu.refl _ _⟩
 case round =>
  obtain ⟨i,q1,rfl,hin,hI⟩:=hrel;have hil:i<M.length:=by rw [HN.out];exact hin
  have hj:=HJ.out.apartS am.out hI.ap;have r0:=hj.cell hin;rw [Ad] at r0;have hgl:=hj.row.1;obtain ⟨kv,-,hB⟩:=(hj.kids _ (Ag hil)).cells;have cc:∀ W,yx wr wr W→zd prog 139 #[pv M[i].b] W fun e w'=>e=zh (cntV (lx M[i].L).size (op (lx M[i].L).data.toList) (oq (lx M[i].L).data.toList))∧yx W.heap.size W w':=fun W hW=>rO (hB.onto hW);have hsz:=qJ M i hil;have hzz:(lx M[i].L).size≤1000000:=by
   have:=hj.size;rw [lT hil,aL,aL] at this;omega
  have ac:=yv (fun (W:yy) (hW:yx wr wr W) (hh:i+1<n→q1<(lx M[i].L).size)=>(show ∃ (i':Nat) (q1:Int),zh (zj zf i)=zh (zj zf i')∧i'<n∧ye q M i' q1∧yd bt q1 W∧lu [bt] w W from
   ⟨i,q1,rfl,hin,⟨hI.at',hI.lo,fun _ h=>hh (by rw [← HN.out];exact h)⟩,⟨hI.blk.onto hW,hI.in'⟩,hI.ap.trans (lu.of_below hW:lu [bt] wr W) (fun x hx=>.inl hx)⟩))
  have af:=yv (fun (W:yy) (hW:yx wr wr W) (hle:((lx M[i].L).size:Int)≤q1)=>(show SpI bt w M q (i+1) (q1 - (lx M[i].L).size) (W.setCell ⟨bt,0,none⟩ (zj zf (q1 - (lx M[i].L).size))) from
   ⟨(hI.blk.onto hW).set 0 _,by have:=hI.in';unfold o8 at this ⊢;omega,by rw [hsz];have:=hI.at';omega,fun _=>lf,(hI.ap.trans (lu.of_below hW:lu [bt] wr W) (fun x hx=>.inl hx)).setCell (.inl lh) _⟩))
  have ag:=yv (fun hle:((lx M[i].L).size:Int)≤q1=>(IntWalk.i64_in _ (by have:=hI.in';unfold o8 at this;omega):zf.wrap (q1 - ((lx M[i].L).size:Int))=q1 - ((lx M[i].L).size:Int)));have HQ:=yv (And.intro (fun W (hW:yx wr wr W)=>(hI.blk.onto hW).cell 0 (zj zf q1) rfl) (fun W (hW:yx wr wr W)=>(hW.cell (p:=⟨g,i,none⟩) hgl).trans r0));have HF:=yv (fun W (hW:yx wr wr W)=>(hI.blk.onto hW).free 0);obtain ⟨xb,hxb⟩:∃ xb,M[i].b=xb:=⟨_,rfl⟩;obtain ⟨z,hz⟩:∃ z,(lx M[i].L).size=z:=⟨_,rfl⟩;obtain ⟨R,hR⟩:∃ R,op (lx M[i].L).data.toList=R:=⟨_,rfl⟩;obtain ⟨Y,hY⟩:∃ Y,oq (lx M[i].L).data.toList=Y:=⟨_,rfl⟩;rw [hxb,hz,hR,hY] at cc;rw [hxb] at HQ;rw [hz] at ac af ag hzz;have CC:=yv cc;have aq:=yv hgl;have hcf':=hcf z R Y;have b1:(0:Int)≤(i:Int):=lf;have b2:(i:Int)<(n:Int):=lf;clear hj r0 hB cc hsz hI hil hxb hz hR hY hgl;by_cases hlt:i+1<n
  ·have t1:decide ((i:Int)<(n:Int) - 1)=true:=decide_eq_true lf;have t2:(i:Int)<(n:Int) - 1:=lf;by_cases hge:(z:Int)≤q1
   ·have t3:decide ((z:Int)≤q1)=true:=decide_eq_true hge;have HN:=yv (fun W (hW:yx wr wr W)=>af.out W hW hge);have e2:=ag.out hge;have E2:=yv e2;clear e2;go_wp2_with fail;refine zx (S:=(fun w':yy=>yx wr wr w'∧w' ⟨bt,0,none⟩=some (zj zf q1)∧w' ⟨g,i,none⟩=some (pv xb))) lg ⟨(ze _ _).drew,HQ.out.1 wr (ze _ _),HQ.out.2 wr (ze _ _)⟩ (fun hHeld=>?_);refine ly 0 ?_;refine ly 1 ?_;refine ly 2 ?_;refine ly 3 ?_;refine ly 4 ?_;refine ly 5 ?_;refine ly 6 ?_;refine ly 7 ?_;refine ly 8 ?_;refine ly 9 ?_;refine ly 10 ?_;refine m8 11 fun K hK=>?_;go_simp
    (go_at_call 139;refine (CC.out _ hHeld.1).mono ?_;rintro e w2 ⟨rfl,ae⟩;have aa:=yv (hHeld.1.trans (ae.mono hHeld.1.size));clear ae)
    try go_wp2_with fail
    refine hK.out _ _ ?_ (fun hHeld=>?_)
    ·exact ⟨aa.out,HQ.out.1 w2 aa.out,HQ.out.2 w2 aa.out⟩
    clear hK K
    try simp only [yz,mj]
    refine ly 12 ?_;refine ly 13 ?_;refine ly 14 ?_;refine zs lg ?_ _;have CD:=yv (fun W (hW:yx w2 w2 W)=>CC.out W (aa.out.trans (hW.mono aa.out.size)));have ah:=yv (fun W (hW:yx w2 w2 W)=>HQ.out.1 W (aa.out.trans (hW.mono aa.out.size)));have ak:=yv (fun W (hW:yx w2 w2 W)=>HF.out W (aa.out.trans (hW.mono aa.out.size)));have ai:=yv (fun W (hW:yx w2 w2 W)=>HQ.out.2 W (aa.out.trans (hW.mono aa.out.size)));have al:=yv (fun W (hW:yx w2 w2 W)=>(World.cell?_of_block (w:=W) (a:=⟨g,i,none⟩) (Below.heap_setCell W ⟨bt,0,none⟩ (zj zf (q1 - z)) g HG.out)).trans (ai.out W hW));have e2:=E2.out;go_wp2_with fail;refine zx (S:=(fun w':yy=>lu [bt] w2 w'∧w' ⟨g,i,none⟩=some (pv xb))) lg ⟨(lu.refl _ _).drewN 1,ai.out w2 (ze _ _)⟩ (fun hHeld=>?_);refine ly 1 ?_;refine ly 2 ?_;refine ly 3 ?_;refine ly 4 ?_;have z1:=ah.out w2.drew (ze w2 w2).drew;refine wpAnyH_ready (rs:=[0,5]) lg lh ?_;refine AllReadyH.cons (by simp only [qz];rfl) (fun K hK=>?_) (AllReadyH.cons (by simp only [qz];rfl) (fun K hK=>?_) AllReadyH.nil)
    ·go_simp
     try go_wp2_with fail
     refine hK.out _ _ ?_ (fun hHeld=>?_)
     ·exact hHeld
     clear hK K
     try simp only [yz,mj]
     refine m8 5 fun K hK=>?_;go_simp
     (go_at_call 139;refine (CD.out _ (ze w2 w2).drew).mono ?_;rintro e w3 ⟨rfl,ad⟩;have ab:=yv ((ze w2 w2).drew.trans (ad.mono (ze w2 w2).drew.size));have an:=yv ad;clear ad)
     try go_wp2_with fail
     refine hK.out _ _ ?_ (fun hHeld=>?_)
     ·exact ⟨.of_below ab.out,ai.out w3 ab.out⟩
     clear hK K
     try simp only [yz,mj]
     refine ly 6 ?_;refine ly 7 ?_;have z2:=ah.out w3 ab.out;have z3:=ak.out w3 ab.out;refine m8 8 fun K hK=>?_;go_simp;skip
     try go_wp2_with fail
     refine hK.out _ _ ?_ (fun hHeld=>?_)
     ·exact ⟨lu.setCell (.of_below ab.out) (.inl lh) _,al.out w3 ab.out⟩
     clear hK K
     try simp only [yz,mj]
     refine zs lg ?_ _;go_wp2_with fail;go_roundw
     case rel=>exact ⟨i+1,_,by go_num,lf,HN.out w3 (aa.out.trans (ab.out.mono aa.out.size))⟩
     case measure=>simp [zw];omega
    ·go_simp
     (go_at_call 139;refine (CD.out _ (ze w2 w2).drew).mono ?_;rintro e w3 ⟨rfl,ad⟩;have ab:=yv ((ze w2 w2).drew.trans (ad.mono (ze w2 w2).drew.size));have an:=yv ad;clear ad)
     try go_wp2_with fail
     refine hK.out _ _ ?_ (fun hHeld=>?_)
     ·exact ⟨.of_below ab.out,ai.out w3 ab.out⟩
     clear hK K
     try simp only [yz,mj]
     refine ly 6 ?_;clear z1;have z1:=ah.out w3 ab.out;refine m8 0 fun K hK=>?_;go_simp
     try go_wp2_with fail
     refine hK.out _ _ ?_ (fun hHeld=>?_)
     ·exact hHeld
     clear hK K
     try simp only [yz,mj]
     refine ly 7 ?_;have z2:=ah.out w3 ab.out;have z3:=ak.out w3 ab.out;refine m8 8 fun K hK=>?_;go_simp;skip
     try go_wp2_with fail
     refine hK.out _ _ ?_ (fun hHeld=>?_)
     ·exact ⟨lu.setCell (.of_below ab.out) (.inl lh) _,al.out w3 ab.out⟩
     clear hK K
     try simp only [yz,mj]
     refine zs lg ?_ _;go_wp2_with fail;go_roundw
     case rel=>exact ⟨i+1,_,by go_num,lf,HN.out w3 (aa.out.trans (ab.out.mono aa.out.size))⟩
     case measure=>simp [zw];omega
   ·have t3:decide ((z:Int)≤q1)=false:=decide_eq_false hge;have HE:=yv (fun W (hW:yx wr wr W)=>ac.out W hW (fun _=>lf));clear af ac ag;go_wp2_with fail;refine zx (S:=(fun w':yy=>yx wr wr w'∧w' ⟨bt,0,none⟩=some (zj zf q1)∧w' ⟨g,i,none⟩=some (pv xb))) lg ⟨(ze _ _).drew,HQ.out.1 wr (ze _ _),HQ.out.2 wr (ze _ _)⟩ (fun hHeld=>?_);refine ly 0 ?_;refine ly 1 ?_;refine ly 2 ?_;refine ly 3 ?_;refine ly 4 ?_;refine ly 5 ?_;refine ly 6 ?_;refine ly 7 ?_;refine ly 8 ?_;refine ly 9 ?_;refine ly 10 ?_;refine m8 11 fun K hK=>?_;go_simp
    (go_at_call 139;refine (CC.out _ hHeld.1).mono ?_;rintro e w2 ⟨rfl,ae⟩;have aa:=yv (hHeld.1.trans (ae.mono hHeld.1.size));clear ae)
    try go_wp2_with fail
    refine hK.out _ _ ?_ (fun hHeld=>?_)
    ·exact ⟨aa.out,HQ.out.1 w2 aa.out,HQ.out.2 w2 aa.out⟩
    clear hK K
    try simp only [yz,mj]
    refine ly 12 ?_;refine ly 13 ?_;refine ly 14 ?_;refine zs lg ?_ _;go_wp2_with fail;go_ret;exact HE.out _ aa.out
  ·have t1:decide ((i:Int)<(n:Int) - 1)=false:=decide_eq_false lf;have t2:¬ (i:Int)<(n:Int) - 1:=lf;have HE:=yv (fun W (hW:yx wr wr W)=>ac.out W hW (fun h=>absurd h hlt));clear af ac ag;go_wp2_with fail;refine zx (S:=(fun w':yy=>yx wr wr w'∧w' ⟨bt,0,none⟩=some (zj zf q1)∧w' ⟨g,i,none⟩=some (pv xb))) lg ⟨(ze _ _).drew,HQ.out.1 wr (ze _ _),HQ.out.2 wr (ze _ _)⟩ (fun hHeld=>?_);refine ly 0 ?_;refine ly 1 ?_;refine ly 2 ?_;refine ly 3 ?_;refine ly 4 ?_;refine ly 5 ?_;refine zt (i:=6) (v:=zu) (by simp only [qz];rfl) lg lg lg (fun _ _ _ h=>by exact h) (zv ⟨lj,rfl⟩) lm ?_
   try simp only [yz,mj]
   refine zt (i:=7) (v:=zu) (by simp only [qz];rfl) lg lg lg (fun _ _ _ h=>by exact h) (zv ⟨lj,rfl⟩) lm ?_
   try simp only [yz,mj]
   refine zt (i:=8) (v:=zu) (by simp only [qz];rfl) lg lg lg (fun _ _ _ h=>by exact h) (zv ⟨lj,rfl⟩) lm ?_
   try simp only [yz,mj]
   refine zt (i:=9) (v:=zu) (by simp only [qz];rfl) lg lg lg (fun _ _ _ h=>by exact h) (zv ⟨lj,rfl⟩) lm ?_
   try simp only [yz,mj]
   refine zt (i:=10) (v:=zu) (by simp only [qz];rfl) lg lg lg (fun _ _ _ h=>by exact h) (zv ⟨lj,rfl⟩) lm ?_
   try simp only [yz,mj]
   refine zt (i:=11) (v:=zu) (by simp only [qz];rfl) lg lg lg (fun _ _ _ h=>by exact h) (zv ⟨lj,rfl⟩) lm ?_
   try simp only [yz,mj]
   refine zt (i:=12) (v:=zu) (by simp only [qz];rfl) lg lg lg (fun _ _ _ h=>by exact h) (zv ⟨lj,rfl⟩) lm ?_
   try simp only [yz,mj]
   refine zt (i:=13) (v:=zu) (by simp only [qz];rfl) lg lg lg (fun _ _ _ h=>by exact h) (zv ⟨lj,rfl⟩) lm ?_
   try simp only [yz,mj]
   refine ly 14 ?_;refine zs lg ?_ _;go_wp2_with fail;go_ret;exact HE.out _ (ze _ _).drew
theorem lu.below (h:lu [] w w'):yx w w w':=h.to_below lh (zo _)
theorem Tr.first (t:Tr w S p L):∀ W,yx w w W→zd prog 165 #[yw p] W fun e w'=>e=zh (zm (p9 L))∧yx W.heap.size W w':=fun W hW=>by
 rcases t with ⟨rfl,rfl⟩|⟨b,h,rfl,k⟩
 ·exact sQ W
 ·obtain ⟨kv,-,hB⟩:=(k.later hW).cells;exact sH hB
theorem Tr.last (t:Tr w S p L):∀ W,yx w w W→zd prog 164 #[yw p] W fun e w'=>e=zh (zm (pq L))∧yx W.heap.size W w':=fun W hW=>by
 rcases t with ⟨rfl,rfl⟩|⟨b,h,rfl,k⟩
 ·exact MA W
 ·obtain ⟨kv,-,hB⟩:=(k.later hW).cells;exact LQ hB
theorem Tr.bare (t:Tr w S p L):Tr w [] p L:=by
 rcases t with t|⟨b,h,e,k⟩
 ·exact .inl t
 ·exact .inr ⟨b,h,e,k.weak fun i hi=>⟨hi.1,lh⟩⟩
theorem qQ (x:ByteArray) (hz:x.size≤1000000) (w:yy):zd prog 170 #[zm x] w (rj [] w (ri x)):=by
 unfold ri;by_cases h:oe x=true
 ·rw [if_pos h];exact (xD x ln h w).mono fun e w' ⟨b,he,hb,hB,hbel⟩=>⟨_,he,.inr ⟨b,0,rfl,⟨hB.lt,lh⟩,x,rfl,(aQ x).1 h,hB⟩,hbel⟩
 ·rw [if_neg h];exact (PU x ln (Bool.eq_false_iff.2 h) w).mono fun e w' ⟨he,hb⟩=>⟨none,he,.inl ⟨rfl,rfl⟩,hb⟩
def qr (w:yy) (s:ByteArray) (e:zy) (w':yy):Prop:=∃ p L,e=zh (yw p)∧Tr w' [] p L∧ms L∧lx L=s∧yx w w w'
theorem fW (h:ms L):(p9 L).size≤16∧(pq L).size≤16:=by
 cases hL:L with
 | nil=>exact ⟨Ab _,Ab _⟩
 | cons x M =>
  subst hL;have h0:0<(x::M).length:=lh;rw [wS h0,xQ h0];exact ⟨(h _ _).1.2.1,(h _ _).1.2.1⟩
theorem mO (w:yy):qf [] w:=fun m hm=>absurd hm lh
set_option maxHeartbeats 1600000 in
theorem BF (t1:Tr w [] p L) (t2:Tr w [] q R) (hL:ms L) (hR:ms R) (hz:(lx (L++R)).size≤6000) (hn:(rg (pq L) (p9 R)).length≠1) :
 zd prog 140 #[yw p,yw q] w (qr w (lx L++lx R)):=by
 have c1:=t1.last;have c2:=t2.first;have z1:=(fW hL).2;have z2:=(fW hR).1;have cj:=uC (pq L) (p9 R) lf lf;have ct:=fun W (hW:yx w w W)=>gS (mO W) (t1.later hW) (t2.later hW) hz;have HE:=yv (fun W W' e (hb:yx w w W) (h:rj [] W (L++R) e W')=>(show qr w (lx L++lx R) e W' from by
  obtain ⟨p',h1,h2,h3⟩:=h;exact ⟨p',_,h1,h2,KV hL hR hn,aG L R,hb.trans (h3.mono hb.size)⟩))
 obtain ⟨x,hx⟩:∃ x,pq L=x:=⟨_,rfl⟩;obtain ⟨y,hy⟩:∃ y,p9 R=y:=⟨_,rfl⟩;rw [hx] at c1;rw [hy] at c2;rw [hx,hy] at cj hn;obtain ⟨n,hjn⟩:∃ n,(rg x y).length=n:=⟨_,rfl⟩;unfold sj at cj;rw [hjn] at cj hn;have b1:((n:Int) == 1)=false:=by simpa using (show ¬ (n:Int)=1 by omega)
 have b2:(n == 1)=false:=by simpa using hn
 have b3:((n:Int) != 1)=true:=by simpa using (show ¬ (n:Int)=1 by omega)
 have b4:(n != 1)=true:=by simpa using hn
 have C1:=yv c1;have C2:=yv c2;have CJ:=yv cj;have CT:=yv ct;clear c1 c2 z1 z2 cj ct hx hy hjn hn t1 t2 hL hR hz;go_enter func140,ntmps140;go_wp2_with fail;refine (C1.out _ (ze _ _)).mono ?_;rintro e w1 ⟨rfl,aa⟩;have ab:=yv aa;clear aa;go_wp2_with fail;refine (my ab.out (C2.out _ ab.out)).mono ?_;rintro e w2 ⟨rfl,ac⟩;have ad:=yv ac;clear ac;go_wp2_with fail;refine (CJ.out w2).mono ?_;rintro e w3 ⟨a,c,rfl,-,ae⟩;have af:=yv (ad.out.trans (ae.mono ad.out.size));clear ae;go_wp2_with fail;refine (CT.out w3 af.out).mono ?_;intro e w4 hr;have HR:=yv (HE.out w3 w4 e af.out hr);obtain ⟨p',rfl,-,-⟩:=hr;go_wp2;go_ret;exact HR.out
set_option maxHeartbeats 1600000 in
theorem ED (t1:Tr w [] p L) (t2:Tr w [] q R) (hL:ms L) (hR:ms R) (hz:(lx (L++R)).size≤6000) (hn:(rg (pq L) (p9 R)).length=1) :
 zd prog 140 #[yw p,yw q] w (qr w (lx L++lx R)):=by
 have c1:=t1.last;have c2:=t2.first;have z1:=(fW hL).2;have z2:=(fW hR).1;have cj:=uC (pq L) (p9 R) lf lf;have hj:=yZ hn;obtain ⟨f1,f2,f3⟩:=(gZ _ _).1 hn;rcases t1 with ⟨-,rfl⟩|⟨b1,h1,rfl,k1⟩
 ·exact absurd f1.1 (show ¬ 1≤(0:Nat) by decide)
 rcases t2 with ⟨-,rfl⟩|⟨b2,h2,rfl,k2⟩
 ·exact absurd f2.1 (show ¬ 1≤(0:Nat) by decide)
 have hz':=hz;rw [aL] at hz';have g1:=k1.high lf;have g2:=k2.high lf;have ca:=fun W (hW:yx w w W)=>jN (fun _ _=>lj) JW LD h1 lf W b1 L 0 (k1.later hW) (mO W) trivial lf;have cb:=fun W (hW:yx w w W)=>jN (fun _ _=>lj) DE GD h2 lf W b2 R 0 (k2.later hW) (mO W) trivial lf;have cl:=qQ (pq L++p9 R) (by rw [zr];omega);have hlf:ri (pq L++p9 R)=[pq L++p9 R]:=by
  unfold ri;rw [if_pos ((aQ _).2 (xM f1 f2 f3))]
 rw [hlf] at cl;have hend:∀ (A C:List ByteArray) (s1 s2:ByteArray),L=A++([s1]++[])→R=[]++([s2]++C)→ms (A++([pq L++p9 R]++C))∧lx (A++([pq L++p9 R]++C))=lx L++lx R:=fun A C s1 s2 e1 e2=>by
  rw [Ap] at e1;rw [Aq] at e2;have x1:pq L=s1:=by rw [e1];exact IB A s1
  have x2:p9 R=s2:=by rw [e2];rfl
  rw [x1,x2] at f3;rw [e1] at hL;rw [e2] at hR;have:=NV hL hR f3;rw [x1,x2,e1,e2];exact this
 have ct:∀ W p1 p2 p3 A C s1 s2,Tr W [] p1 A→Tr W [] p2 [pq L++p9 R]→Tr W [] p3 C→L=A++([s1]++[])→R=[]++([s2]++C)→yx w w W→zd prog 166 #[zi (some ⟨W.heap.size,0,none⟩) (3:Nat) (3:Nat)] (W.alloc (zg #[yw p1,yw p2,yw p3] 128)) (qr w (lx L++lx R)):=fun W p1 p2 p3 A C s1 s2 u1 u2 u3 e1 e2 hW=>by
  obtain ⟨y1,y2⟩:=hend A C s1 s2 e1 e2;refine (qL (mO W) u1 u2 u3 (by rw [y2,zr];exact hz')).mono ?_;rintro e w' ⟨p',h1,h2,h3⟩;exact ⟨p',_,h1,h2,y1,y2,hW.trans (h3.mono hW.size)⟩
 obtain ⟨x,hx⟩:∃ x,pq L=x:=⟨_,rfl⟩;obtain ⟨y,hy⟩:∃ y,p9 R=y:=⟨_,rfl⟩;rw [hx] at c1;rw [hy] at c2;rw [hx,hy] at cj hj cl ct;unfold sj at cj;rw [hj] at cj;obtain ⟨xy,hxy⟩:∃ xy,x++y=xy:=⟨_,rfl⟩;rw [hxy] at cj cl ct;have C1:=yv c1;have C2:=yv c2;have CJ:=yv cj;have CA:=yv ca;have CB:=yv cb;have CL:=yv cl;have CT:=yv ct;clear c1 c2 z1 z2 cj ca cb cl ct hx hy hxy hj hn hend hlf f1 f2 f3 k1 k2 hL hR hz hz' g1 g2;go_enter func140,ntmps140;go_wp2_with fail;refine (C1.out _ (ze _ _)).mono ?_;rintro e w1 ⟨rfl,ag⟩;have ah:=yv ag;clear ag;go_wp2_with fail;refine (my ah.out (C2.out _ ah.out)).mono ?_;rintro e w2 ⟨rfl,ai⟩;have aj:=yv ai;clear ai;go_wp2_with fail;refine (CJ.out w2).mono ?_;rintro e w3 ⟨a,c,rfl,hst,ak⟩;obtain ⟨ad,rfl,hab,q0⟩:=hst 0 lh;have ar:=yv (show w3 ad=some (zm xy) by simpa [Addr.add] using q0);have au:=yv (show ad.block<w3 from hab);have ab:=yv (aj.out.trans (ak.mono aj.out.size));clear ak hst hab q0;go_wp2_with fail;refine (CA.out w3 ab.out).mono ?_;rintro e w4 ⟨p1,A,s1,p2,C1',q',rfl,t1,-,e1,r1,-,al⟩;unfold lastR at r1;subst r1;have ac:=al.below;have ae:=yv (ab.out.trans (ac.mono ab.out.size));have am:=yv ac;have av:=yv t1;have aw:=yv e1;clear t1 e1 al ac;go_wp2_with fail;refine (CB.out w4 ae.out).mono ?_;rintro e w5 ⟨p3,A2,s2,p4,C2',q2,rfl,-,t4,e2,r2,-,an⟩;unfold yb at r2;subst r2;have aa:=an.below;have ao:=yv (ae.out.trans (aa.mono ae.out.size));have ax:=yv aa;have ay:=yv t4;have az:=yv e2;have q0:w5 ad=some (zm xy):=((am.out.trans (aa.mono am.out.size)).cell au.out).trans ar.out;clear t4 e2 an aa;go_wp2_with fail;refine (CL.out w5).mono ?_;rintro e w6 ⟨p5,rfl,t5,af⟩;have a0:=yv (ao.out.trans (af.mono ao.out.size));have aq:=yv af;have a1:=yv t5;clear t5 af;go_wp2_with fail;refine (CT.out w6 p1 p5 p4 A C2' s1 s2 ((av.out.later ax.out).later aq.out) a1.out (ay.out.later aq.out) aw.out az.out a0.out).mono ?_;rintro e w7 ⟨p',L',rfl,hr⟩;have HR:=yv (show qr w (lx L++lx R) (zh (yw p')) w7 from ⟨p',L',rfl,hr⟩);clear hr;go_wp2;go_ret;exact HR.out
theorem gA (t1:Tr w [] p L) (t2:Tr w [] q R) (hL:ms L) (hR:ms R) (hz:(lx (L++R)).size≤6000) :
 zd prog 140 #[yw p,yw q] w (qr w (lx L++lx R)):=by
 by_cases hn:(rg (pq L) (p9 R)).length=1
 ·exact ED t1 t2 hL hR hz hn
 ·exact BF t1 t2 hL hR hz hn
structure CutP2 (L:List ByteArray) (at':Int) (A:List ByteArray) (s:ByteArray) (C:List ByteArray) (q:Int):Prop where
 ta:ms A
 tc:ms C
 small:s.size≤16
 le:mi s.data.toList q≤s.size
 t1:ms (ri (s.extract 0 (mi s.data.toList q)))
 w1:lx (ri (s.extract 0 (mi s.data.toList q)))=s.extract 0 (mi s.data.toList q)
 t2:ms (ri (s.extract (mi s.data.toList q) s.size))
 w2:lx (ri (s.extract (mi s.data.toList q) s.size))=s.extract (mi s.data.toList q) s.size
 e1:(lx L).extract 0 (mi (lx L).data.toList at')=lx A++s.extract 0 (mi s.data.toList q)
 e2:(lx L).extract (mi (lx L).data.toList at') (lx L).size=s.extract (mi s.data.toList q) s.size++lx C
theorem vi.made {A C:List ByteArray} {s:ByteArray} {p q:Int} (h:vi L p A s C q) (hL:ms L):CutP2 L p A s C q:=by
 obtain ⟨h1,h2,h3,h4,h5,h6,h7,h8,h9,h10⟩:=h.parts hL;exact ⟨h1,h2,h3.2.1,h4,h5,h6,h7,h8,h9,h10⟩
theorem cO (a b:Nat):(⟨#[]⟩:ByteArray).extract a b=⟨#[]⟩:=by
 apply aU;rw [aE];simp
theorem fC:ri ⟨#[]⟩=[]:=by unfold ri;rw [if_neg (by decide +kernel)]
theorem ND (p:Int):CutP2 [] p [] ⟨#[]⟩ [] p:=by
 have h:mi (⟨#[]⟩:ByteArray).data.toList p≤0:=by have:=hO (⟨#[]⟩:ByteArray).data.toList p;simpa using this
 refine ⟨aR,aR,Ab _,h,?_,?_,?_,?_,?_,?_⟩
 ·rw [cO,fC];exact aR
 ·rw [cO,fC];rfl
 ·rw [cO,fC];exact aR
 ·rw [cO,fC];rfl
 ·show (⟨#[]⟩:ByteArray).extract _ _=⟨#[]⟩++(⟨#[]⟩:ByteArray).extract _ _;rw [cO,cO];rfl
 ·show (⟨#[]⟩:ByteArray).extract _ _=(⟨#[]⟩:ByteArray).extract _ _++⟨#[]⟩;rw [cO,cO];rfl
def vz (w:yy) (s t:ByteArray) (e:zy) (w':yy):Prop:=
 ∃ p L q R,e=zh (zp #[yw p,yw q])∧Tr w' [] p L∧Tr w' [] q R∧ms L∧ms R∧lx L=s∧lx R=t∧yx w w w'
def RetDown (bt:Nat) (w1:yy) (L:List ByteArray) (at':Int) (e:zy) (w':yy):Prop:=
 ∃ p1 A s p2 C q,e=zh (zp #[yw p1,zm s,yw p2])∧Tr w' [] p1 A∧Tr w' [] p2 C∧CutP2 L at' A s C q∧w' ⟨bt,0,none⟩=some (zj zf q)∧(lx A).size≤(lx L).size∧(lx C).size≤(lx L).size∧lu [bt] w1 w'
theorem NS {bt:Nat} {at':Int} (t:Tr w [bt] p L) (hL:ms L) (hz:(lx L).size≤6000) (hq:yd bt at' w) :
 zd prog 167 #[yw p,.func (.func 207) #[] #[yw (some ⟨bt,0,none⟩)]] w (RetDown bt w L at'):=by
 have hlt:=hq.1.lt;rcases t with ⟨rfl,rfl⟩|⟨b,h,rfl,k⟩
 ·refine (ES _ w).mono ?_;rintro e w' ⟨rfl,hb⟩;exact ⟨none,[],_,none,[],at',rfl,.inl ⟨rfl,rfl⟩,.inl ⟨rfl,rfl⟩,ND at',(hq.1.onto hb).cell 0 _ rfl,zo _,zo _,.of_below hb⟩
 ·have g:=k.high hz;refine (jN (fun _ _=>lj) (DU bt) JP h lf w b L at' k (fun m hm=>by rw [List.mem_singleton.1 hm];exact hlt) hq hz).mono ?_;rintro e w' ⟨p1,A,s,p2,C,q,rfl,t1,t2,he,hr,hq',ha⟩;refine ⟨p1,A,s,p2,C,q,rfl,t1.bare,t2.bare,vi.made hr hL,hq'.1.cell 0 _ rfl,?_,?_,ha⟩
  ·rw [he,aL];omega
  ·rw [he,aL,aL];omega
set_option maxHeartbeats 1600000 in
theorem sK {at':Int} (t:Tr w [] p L) (hL:ms L) (hz:(lx L).size≤5000) (hat:o8 at') :
 zd prog 187 #[yw p,zj zf at'] w (vz w ((lx L).extract 0 (mi (lx L).data.toList at')) ((lx L).extract (mi (lx L).data.toList at') (lx L).size)):=by
 have hmf:∀ (fn:Fn) (first cap:Array zn) (w:yy),(Instr.makeFunc fn first cap).run prog w=.ok (.func fn first cap) w:=fun _ _ _ _=>rfl;have ae:yx w w (w.alloc (zg #[zj zf at'] 3)):=(ze _ _).alloc (zo _) _;have ao:Tr (w.alloc (zg #[zj zf at'] 3)) [w.heap.size] p L:=by
  rcases t with t|⟨b,h,e,k⟩
  ·exact .inl t
  ·exact .inr ⟨b,h,e,k.beside ae (zo _)⟩
 have cd:=NS ao hL lf ⟨l6.new w _ _,hat⟩;have HZ:=yv hz;obtain ⟨s1,af⟩:∃ s1,(lx L).extract 0 (mi (lx L).data.toList at')=s1:=⟨_,rfl⟩;obtain ⟨s2,ag⟩:∃ s2,(lx L).extract (mi (lx L).data.toList at') (lx L).size=s2:=⟨_,rfl⟩;rw [af,ag];have ay:=yv af;have az:=yv ag;have CD:=yv cd;have aq:=yv ae;clear af ag cd ae ao t hL hz hat;go_enter func187,ntmps187;go_wp2_with fail;refine CD.out.mono ?_;rintro e w2 ⟨p1,A,s,p2,C,q,rfl,t1,t2,hc,hcell,z1,z2,ha⟩;have ar:yx w w w2:=aq.out.trans (ha.to_below lh aq.out.size);have cb:=jY s (by have:=hc.small;unfold maxLen;omega) q w2;have h16:=hc.small;have hle:=hc.le;obtain ⟨n,hn⟩:∃ n,mi s.data.toList q=n:=⟨_,rfl⟩;have ah:=ay.out.symm.trans hc.e1;have ai:=az.out.symm.trans hc.e2;have aj:=hc.t1;have ak:=hc.t2;have aa:=hc.w1;have ab:=hc.w2;rw [hn] at cb hle ah ai aj ak aa ab;have y1:=bF s n hle;have y2:=cL s n;have cl1:=qQ (s.extract 0 n) lf;have cl2:=qQ (s.extract n s.size) lf;have cc1:∀ W q,yx w2 w2 W→Tr W [] q (ri (s.extract 0 n))→zd prog 140 #[yw p1,yw q] W (qr W s1):=fun W q hW tq=>by
  have:=gA (t1.later hW) tq hc.ta aj (by rw [aL,aa];have:=HZ.out;omega);rwa [aa,← ah] at this
 have cc2:∀ W q,yx w2 w2 W→Tr W [] q (ri (s.extract n s.size))→zd prog 140 #[yw q,yw p2] W (qr W s2):=fun W q hW tq=>by
  have:=gA tq (t2.later hW) ak hc.tc (by rw [aL,ab];have:=HZ.out;omega);rwa [ab,← ai] at this
 have au:=yv ar;have CB:=yv cb;have L1:=yv cl1;have L2:=yv cl2;have C1:=yv cc1;have C2:=yv cc2;have b1:(n:Int)≤(s.size:Int):=lf;have b2:(0:Int)≤(n:Int):=lf;clear t1 t2 hc z1 z2 ha ar cb hn ah ai aj ak aa ab y1 y2 cl1 cl2 cc1 cc2;go_wp2_with fail;refine CB.out.mono ?_;rintro e w3 ⟨rfl,rfl⟩;go_wp2_with fail;refine zx (S:=(fun w':yy=>yx w2 w2 w')) lg (ze _ _).drew (fun hHeld=>?_);refine ly 0 ?_;refine ly 1 ?_;refine ly 2 ?_;refine ly 3 ?_;refine ly 6 ?_;refine ly 7 ?_;refine ly 8 ?_;refine ly 10 ?_;refine m8 4 fun K hK=>?_;go_simp
 (go_at_call 170;refine (L1.out _).mono ?_;rintro e w3 ⟨u1,rfl,v1,av⟩;have ac:=yv (hHeld.trans (av.mono hHeld.size));have a0:=yv v1;clear v1 av)
 try go_wp2_with fail
 refine hK.out _ _ ?_ (fun hHeld=>?_)
 ·exact ac.out
 clear hK K
 try simp only [yz,mj]
 refine m8 5 fun K hK=>?_;go_simp
 (go_at_call 140;refine (C1.out w3 u1 ac.out a0.out).mono ?_;rintro e w4 ⟨u2,M2,rfl,v2,k2,x2,aw⟩;have al:=yv (ac.out.trans (aw.mono ac.out.size));have a1:=yv v2;have a2:=yv k2;have a3:=yv x2;clear v2 k2 x2 aw)
 try go_wp2_with fail
 refine hK.out _ _ ?_ (fun hHeld=>?_)
 ·exact al.out
 clear hK K
 try simp only [yz,mj]
 refine m8 9 fun K hK=>?_;go_simp
 (go_at_call 170;refine (L2.out w4).mono ?_;rintro e w5 ⟨u3,rfl,v3,am⟩;have ad:=yv (al.out.trans (am.mono al.out.size));have a4:=yv am;have a5:=yv v3;clear v3 am)
 try go_wp2_with fail
 refine hK.out _ _ ?_ (fun hHeld=>?_)
 ·exact ad.out
 clear hK K
 try simp only [yz,mj]
 refine m8 11 fun K hK=>?_;go_simp
 (go_at_call 140;refine (C2.out w5 u3 ad.out a5.out).mono ?_;rintro e w6 ⟨u4,M4,rfl,v4,k4,x4,an⟩;have ax:=yv (ad.out.trans (an.mono ad.out.size));have a6:=yv an;have a7:=yv v4;have a8:=yv k4;have a9:=yv x4;clear v4 k4 x4 an)
 try go_wp2_with fail
 refine hK.out _ _ ?_ (fun hHeld=>?_)
 ·exact ax.out
 clear hK K
 try simp only [yz,mj]
 refine ly 12 ?_;refine ly 13 ?_;refine zs lg ?_ _;go_wp2_with fail;go_ret2;exact ⟨u2,M2,u4,M4,rfl,(a1.out.later a4.out).later a6.out,a7.out,a2.out,a8.out,a3.out,a9.out,au.out.trans (ax.out.mono au.out.size)⟩
end Go.Proofs.YtbagenpobcgjnaaGreat
