/-
  Joined: UtfRTake, LawTakes, UtfBad, ChunkMath, UtfCount, TallyOf, OpMath, EditMath, EditBack.
-/
import Derived.Test.YtbagenpobcgjnaaGreatJUtfLeaf
import Derived.Deep.RegionHeld3
import Derived.Deep.QuietTactic
import Derived.BigQuiet
import Derived.Test.YtbagenpobcgjnaaGreatJCommon
variable {n o s t:ByteArray} {p:Int} {L:List ByteArray} {k:Nat}
namespace Go.Proofs.YtbagenpobcgjnaaGreat
open Go.Proofs.Tryz
set_option maxRecDepth 100000
open Lib (hid)
open Go.RowKit
def fits (l:List UInt8) (n:Nat):Prop:=0≤numI (l.take n)∧(putS (numI (l.take n))).data.toList=l.take n
theorem BQ (c:Int):(putS c).data.toList.length=(putS c).size:=by simp
theorem BA (l:List UInt8) (n:Nat) (h1:1≤n) (hn:n≤l.length) (h:fits l n):tkl l=((numI (l.take n)).toNat,n):=by
 obtain ⟨h0,he⟩:=h
 have hlen:(l.take n).length=n:=by rw [List.length_take];omega
 have hs:sz (numI (l.take n))≠0:=by
  intro hz
  have e:putS (numI (l.take n))=⟨#[]⟩:=by unfold putS;rw [if_pos hz]
  rw [e] at he
  rw [← he] at hlen
  simp at hlen;omega
 obtain ⟨_,ht,hsz⟩:=EI _ hs
 rw [he] at ht
 have hn':sz (numI (l.take n))=n:=by rw [← hsz,← BQ,he,hlen]
 rw [hn'] at ht
 have:=xV (l.take n) (l.drop n) (by rw [ht];show n≠0;omega)
 rw [List.take_append_drop] at this
 rw [this,ht]
theorem AF (l:List UInt8) (c n:Nat) (h:tkl l=(c,n)) (hn:n≠0):fits l n:=by
 have hne:l≠[]:=fun e=>by subst e;simp [tkl] at h;exact hn h.2.symm
 have hle:=dI l
 rw [h] at hle
 simp only at hle
 have hlen:(l.take n).length=n:=by rw [List.length_take];omega
 have b:∀ i,i<n→bt (l.take n) i=bt l i:=fun i hi=>NI l n i hi
 unfold tkl at h
 rw [if_neg hne] at h
 have m0:=iG l 0;have m1:=iG l 1;have m2:=iG l 2;have m3:=iG l 3
 suffices hN:numI (l.take n)=c∧(putS (c:Int)).data.toList=l.take n by
  unfold fits;rw [hN.1];exact ⟨by omega,hN.2⟩
 rcases eE (bt l 0) (bt l 1) (bt l 2) (bt l 3) with ⟨g1,e⟩|⟨g1,g2,g3,g4,e⟩|⟨g1,g2,g3,g4,g5,g6,g7,g8,e⟩|⟨g1,g2,g3,g4,g5,g6,g7,g8,g9,g10,e⟩|⟨_,_,_,_,e⟩
 all_goals rw [e] at h;simp only [Prod.mk.injEq] at h;obtain ⟨hc,rfl⟩:=h
 ·refine ⟨by unfold numI;rw [if_pos hlen,b 0 (by omega),hc],?_⟩
  rw [tM c (by omega) (by omega)]
  refine oM _ _ (by rw [hlen];simp [strOfNums]) fun i hi=>?_
  have hi':i<1:=by simpa [strOfNums] using hi
  obtain rfl:i=0:=by omega
  rw [bA _ 0 (by simp),b 0 (by omega)]
  simp only [List.getD_cons_zero];omega
 ·refine ⟨by unfold numI;rw [hlen,if_neg (by omega),b 0 (by omega),show baseOf 2=192 from rfl,if_neg (by omega)];simp only [acc];rw [b (0+1+0) (by omega)];simp only [Nat.reduceAdd];omega,?_⟩
  rw [sQ c (by omega) (by omega)]
  refine oM _ _ (by rw [hlen];simp [strOfNums]) fun i hi=>?_
  have hi':i<2:=by simpa [strOfNums] using hi
  obtain rfl|rfl:i=0∨i=1:=by omega
  all_goals rw [bA _ _ (by simp),b _ (by omega)];simp only [List.getD_cons_zero,List.getD_cons_succ];omega
 ·refine ⟨by unfold numI;rw [hlen,if_neg (by omega),b 0 (by omega),show baseOf 3=224 from rfl,if_neg (by omega)];simp only [acc];rw [b (0+1+0) (by omega),b (0+1+1) (by omega)];simp only [Nat.reduceAdd];omega,?_⟩
  rw [tS c (by omega) (by omega) (by omega)]
  refine oM _ _ (by rw [hlen];simp [strOfNums]) fun i hi=>?_
  have hi':i<3:=by simpa [strOfNums] using hi
  obtain rfl|rfl|rfl:i=0∨i=1∨i=2:=by omega
  all_goals rw [bA _ _ (by simp),b _ (by omega)];simp only [List.getD_cons_zero,List.getD_cons_succ];omega
 ·refine ⟨by unfold numI;rw [hlen,if_neg (by omega),b 0 (by omega),show baseOf 4=240 from rfl,if_neg (by omega)];simp only [acc];rw [b (0+1+0) (by omega),b (0+1+1) (by omega),b (0+1+2) (by omega)];simp only [Nat.reduceAdd];omega,?_⟩
  rw [uP c (by omega) (by omega)]
  refine oM _ _ (by rw [hlen];simp [strOfNums]) fun i hi=>?_
  have hi':i<4:=by simpa [strOfNums] using hi
  obtain rfl|rfl|rfl|rfl:i=0∨i=1∨i=2∨i=3:=by omega
  all_goals rw [bA _ _ (by simp),b _ (by omega)];simp only [List.getD_cons_zero,List.getD_cons_succ];omega
 ·exact absurd rfl hn
theorem rR (l:List UInt8) (h:∀ n,1≤n→n≤4→n≤l.length→¬ fits l n):tkl l=(0,0):=by
 obtain ⟨c,n,e⟩:∃ c n,tkl l=(c,n):=⟨_,_,rfl⟩
 by_cases hn:n=0
 ·by_cases hl:l=[]
  ·subst hl;rfl
  have e':=e
  unfold tkl at e'
  rw [if_neg hl] at e'
  rcases eE (bt l 0) (bt l 1) (bt l 2) (bt l 3) with ⟨g1,g⟩|⟨g1,g2,g3,g4,g⟩|⟨g1,g2,g3,g4,g5,g6,g7,g8,g⟩|⟨g1,g2,g3,g4,g5,g6,g7,g8,g9,g10,g⟩|⟨_,_,_,_,g⟩
  all_goals rw [g] at e';simp only [Prod.mk.injEq] at e'
  all_goals first|omega|skip
  rw [e];simp [← e'.1,← e'.2]
 ·have h1:=dI l
  rw [e] at h1
  have h4:n≤4:=by
   have:=nX (bt l 0) (bt l 1) (bt l 2) (bt l 3)
   unfold tkl at e
   split at e
   ·simp at e;omega
   ·rw [e] at this;exact this
  exact absurd (AF l c n e hn) (h n (by omega) h4 h1)
theorem NV (l:List UInt8) (h4:l.length≤4):-1≤numI l∧numI l<2147483647:=by
 have hb:=iG l 0
 unfold numI
 split
 ·omega
 split
 ·omega
 ·have:=nP l (bt l 0 - baseOf l.length) (by omega) (l.length - 1) (by omega)
  omega
def NoFit (l:List UInt8) (j:Nat):Prop:=∀ n,1≤n→n<j→n≤l.length→¬ fits l n
theorem oC {l:List UInt8} {j:Nat} (h:NoFit l j) (g:¬ fits l j):NoFit l (j+1):=fun n h1 h2 h3=>by
 by_cases e:n=j
 ·subst e;exact g
 ·exact h n h1 (by omega) h3
set_option maxHeartbeats 1000000 in
theorem LV (s:ByteArray) (hs:s.size≤140737488355328) (k:Nat) (hk:k<s.size) (w:World) (r m:Nat) (hR0:tkl (s.data.toList.drop k)=(r,m)) :
 Calls prog 98 #[.string s,.int .i64 k] w fun e w'=>e=.returned (.tuple #[.int .i32 r,.int .i64 m])∧Below w.heap.size w w':=by
 have HR:=hid hR0;clear hR0
 have hlen:(s.data.toList.drop k).length=s.size - k:=by simp
 have HN:=hid hlen;clear hlen
 have ag:decide (s.size≤k)=false:=by simp;omega
 have ah:decide ((k:Int)<0)=false:=by simp
 go_enter func98,ntmps98
 go_wp2
 go_loopw [6] (fun i wr=>∃ j:Nat,1≤j∧j≤5∧i=.int .i64 j∧Below w.heap.size w wr∧NoFit (s.data.toList.drop k) j) (fun i _=>5 - (intOf i).toNat)
 case atStart=>exact ⟨1,by omega,by omega,rfl,Below.refl _ _,fun n h1 h2=>by omega⟩
 case round =>
  obtain ⟨j,ad,ai,rfl,hbel,hno⟩:=hrel
  have HB:=hid hbel;clear hbel
  by_cases hlt:j≤4∧k+j≤s.size
  ·obtain ⟨h4,hkj⟩:=hlt
   have hts:(s.extract k (k+j)).size=j:=by simp;omega
   have htl:(s.extract k (k+j)).data.toList=(s.data.toList.drop k).take j:=by rw [aC,Nat.add_sub_cancel_left]
   have hnum:=yJ (s.extract k (k+j)) (by omega) (by omega)
   have hle:=NV (s.extract k (k+j)).data.toList (by rw [htl,List.length_take];omega)
   obtain ⟨c,hc⟩:∃ c,numI (s.extract k (k+j)).data.toList=c:=⟨_,rfl⟩
   rw [hc] at hnum hle
   obtain ⟨aj,ak⟩:=hle
   have aa:=hid hnum;clear hnum
   have HC:=hid hc;clear hc
   have HT:=hid htl;clear htl
   have al:=hid hts;clear hts
   have ae:(k:Int)≤(k:Int)+(j:Int):=by omega
   have af:(k:Int)+(j:Int)≤(s.size:Int):=by omega
   have am:(0:Int)≤(k:Int):=by omega
   by_cases hneg:0≤c
   ·by_cases heq:putS c=s.extract k (k+j)
    ·have hput:=uC c (by omega) (by omega)
     rw [heq] at hput
     have hfit:tkl (s.data.toList.drop k)=(c.toNat,j):=by
      have hf:=BA (s.data.toList.drop k) j ad (by rw [HN.out];omega) (by
       unfold fits;rw [← HT.out,HC.out,heq];exact ⟨hneg,rfl⟩)
      rw [← HT.out,HC.out] at hf
      exact hf
     rw [HR.out] at hfit
     simp only [Prod.mk.injEq] at hfit
     clear heq
     have HF:=hid hfit;clear hfit
     have ab:=hid hput;clear hput
     go_wp2_with (go_at_call 126;refine (aa.out _).mono ?_;rintro e w' ⟨rfl,rfl⟩)
     have z1:IntKind.i64.wrap ((k:Int)+(j:Int))=(k:Int)+(j:Int):=IntWalk.i64_in _ (by omega)
     have z2:IntKind.i32.wrap c=c:=IntWalk.i32_in _ (by omega)
     have z3:((k:Int)+(j:Int)).toNat=k+j:=by omega
     have z4:(0:Int)≤(k:Int)+(j:Int):=by omega
     go_region_held3 (fun _=>True) (trivial) (first|(go_at_call 127;refine (ab.out _).mono ?_;rintro e w1 ⟨rfl,ac⟩))
     go_wp2
     go_ret2
     refine ⟨fT ?_ ?_,HB.out.trans ((Below.refl _ _).drew.trans (ac.mono ?_))⟩
     ·have:=HF.out;omega
     ·have:=HF.out;omega
     ·exact HB.out.size
    ·have hput:=uC c (by omega) (by omega)
     obtain ⟨q,hq⟩:∃ q,putS c=q:=⟨_,rfl⟩
     rw [hq] at hput heq
     have hnf:¬ fits (s.data.toList.drop k) j:=by
      rintro ⟨_,hf⟩
      rw [← HT.out,HC.out,hq] at hf
      exact heq (ByteArray.ext (Array.toList_inj.1 hf))
     have hne:=eT heq
     clear hq heq
     have HX:=hid hnf;clear hnf
     have ab:=hid hput;clear hput
     go_wp2_with (go_at_call 126;refine (aa.out _).mono ?_;rintro e w' ⟨rfl,rfl⟩)
     have z1:IntKind.i64.wrap ((k:Int)+(j:Int))=(k:Int)+(j:Int):=IntWalk.i64_in _ (by omega)
     have z2:IntKind.i32.wrap c=c:=IntWalk.i32_in _ (by omega)
     have z3:((k:Int)+(j:Int)).toNat=k+j:=by omega
     have z4:(0:Int)≤(k:Int)+(j:Int):=by omega
     go_region_held3 (fun _=>True) (trivial) (first|(go_at_call 127;refine (ab.out _).mono ?_;rintro e w1 ⟨rfl,ac⟩))
     clear z1 z2 z3 z4
     go_wp2
     go_roundw
     case rel=>exact ⟨j+1,by omega,by omega,by go_num,HB.out.trans ((Below.refl _ _).drew.trans (ac.mono HB.out.size)),oC hno HX.out⟩
     case measure=>simp [intOf];omega
   ·have hnf:¬ fits (s.data.toList.drop k) j:=by
     rintro ⟨hf,_⟩
     rw [← HT.out,HC.out] at hf
     exact hneg hf
    have HX:=hid hnf;clear hnf
    have hd:decide (0≤c)=false:=by simp;omega
    go_wp2_with (go_at_call 126;refine (aa.out _).mono ?_;rintro e w' ⟨rfl,rfl⟩)
    go_quiet (fail)
    go_wp2
    go_roundw
    case rel=>exact ⟨j+1,by omega,by omega,by go_num,aN HB.out _,oC hno HX.out⟩
    case measure=>simp [intOf];omega
  ·by_cases h4:j≤4
   ·have hkj:¬ (j:Int)≤(s.size:Int) - (k:Int):=by omega
    have h0:tkl (s.data.toList.drop k)=(0,0):=rR _ fun n h1 h2 h3=>hno n h1 (by rw [HN.out] at h3;omega) h3
    rw [HR.out] at h0
    simp only [Prod.mk.injEq] at h0
    have H0:=hid h0;clear h0 hlt
    go_wp2
    go_ret2
    exact ⟨fT (by rw [H0.out.1];rfl) (by rw [H0.out.2];rfl),HB.out⟩
   ·have hj:¬ (j:Int)≤4:=by omega
    have h0:tkl (s.data.toList.drop k)=(0,0):=rR _ fun n h1 h2 h3=>hno n h1 (by omega) h3
    rw [HR.out] at h0
    simp only [Prod.mk.injEq] at h0
    have H0:=hid h0;clear h0 hlt
    go_wp2
    go_ret2
    exact ⟨fT (by rw [H0.out.1];rfl) (by rw [H0.out.2];rfl),HB.out⟩
def badAt (l:List UInt8) (p:Nat):Int:=badF (l.length+1) (l.drop p) p
theorem qK (l:List UInt8) (p:Nat) (h:l.length≤p):badAt l p=-1:=by
 unfold badAt;rw [List.drop_eq_nil_of_le h];simp [badF]
theorem qL (l:List UInt8) (p:Nat) (h:p<l.length) (e:(tkl (l.drop p)).2=0):badAt l p=p:=by
 unfold badAt;simp only [badF];rw [if_neg (by simp;omega),if_pos e]
theorem oK (l:List UInt8) (p:Nat) (h:p<l.length) (e:(tkl (l.drop p)).2≠0):badAt l p=badAt l (p+(tkl (l.drop p)).2):=by
 unfold badAt
 conv=>lhs;rw [show badF (l.length+1) (l.drop p) p=if l.drop p=[] then (-1:Int) else if (tkl (l.drop p)).2=0 then (p:Int) else badF l.length ((l.drop p).drop (tkl (l.drop p)).2) (p+(tkl (l.drop p)).2) from rfl]
 rw [if_neg (by simp;omega),if_neg e,List.drop_drop]
 exact qC _ _ _ _ (by simp;omega) (by simp;omega)
set_option maxHeartbeats 400000 in
theorem ML (s:ByteArray) (hs:s.size≤maxLen) (w:World) :
 Calls prog 134 #[.string s] w fun e w'=>e=.returned (.int .i64 (bad s.data.toList))∧Below w.heap.size w w':=by
 have hlen:s.data.toList.length=s.size:=by simp
 have HN:=hid hlen;clear hlen
 have HM:=hid hs;clear hs
 obtain ⟨r,hr⟩:∃ r,bad s.data.toList=r:=⟨_,rfl⟩
 rw [hr]
 have HR:=hid hr;clear hr
 go_enter func134,ntmps134
 go_wp2
 go_loopw [3] (fun _ wr=>∃ pos:Nat,wr=w.iter s pos∧badAt s.data.toList pos=r) (fun _ wr=>s.size - wr.iterPos w.heap.size)
 case atStart=>exact ⟨0,rfl,HR.out⟩
 case round =>
  obtain ⟨pos,rfl,hb⟩:=hrel
  have HB:=hid hb;clear hb
  by_cases hp:pos<s.size
  ·have hd:=jQ s pos hp
   obtain ⟨c,n,hcn⟩:∃ c n,tkl (s.data.toList.drop pos)=(c,n):=⟨_,_,rfl⟩
   rw [hcn] at hd
   have aa:=fun ty=>run_next_any (P:=prog) w s pos ty hp
   have ht:=GV s HM.out pos hp
   have hpl:pos<s.data.toList.length:=by rw [HN.out];exact hp
   by_cases hn:n=0
   ·rw [if_pos hn] at hd
    rw [hd] at aa
    have hres:r=pos:=by rw [← HB.out,qL _ _ hpl (by rw [hcn];exact hn)]
    have ht':=fun w=>ht w c n hcn
    rw [hn] at ht'
    have HT:=hid ht';clear ht ht' hd hcn hn hpl
    have HRes:=hid hres;clear hres
    go_wp2_with (go_at_call 159;refine (HT.out _).mono ?_;rintro e w' ⟨rfl,rfl⟩)
    go_ret
    exact ⟨aK HRes.out.symm,(Below.refl _ _).alloc (Nat.le_refl _) _⟩
   ·rw [if_neg hn] at hd
    rw [hd] at aa
    have hstep:badAt s.data.toList (pos+n)=r:=by
     rw [← HB.out,oK _ _ hpl (by rw [hcn];exact hn),hcn]
    have HS:=hid hstep;clear hstep
    have hz:((n:Int) == 0)=false:=by simp;omega
    by_cases hc:c=65533
    ·have ht':=fun w=>ht w c n hcn
     rw [hc] at ht' aa
     have HT:=hid ht';clear ht ht' hd hcn hpl hc
     go_wp2_with (go_at_call 159;refine (HT.out _).mono ?_;rintro e w' ⟨rfl,rfl⟩)
     go_roundw
     case rel=>exact ⟨pos+n,rfl,HS.out⟩
     case measure=>simp;omega
    ·have hne:((c:Int) != 65533)=true:=by simp;omega
     clear ht hd hcn hpl hc
     go_wp2
     go_roundw
     case rel=>exact ⟨pos+n,rfl,HS.out⟩
     case measure=>simp;omega
  ·have aa:=fun ty=>run_next_end (P:=prog) w s pos ty hp
   have hres:r=-1:=by rw [← HB.out,qK _ _ (by rw [HN.out];omega)]
   have HRes:=hid hres;clear hres
   go_wp2
   go_ret
   exact ⟨aK HRes.out.symm,(Below.refl _ _).alloc (Nat.le_refl _) _⟩
set_option maxHeartbeats 400000 in
theorem MA (s:ByteArray) (hs:s.size≤140737488355328) (w:World) :
 Calls prog 65 #[.string s] w fun e w'=>e=.returned (.int .i64 (bad s.data.toList))∧Below w.heap.size w w':=by
 have hlen:s.data.toList.length=s.size:=by simp
 have HN:=hid hlen;clear hlen
 obtain ⟨r,hr⟩:∃ r,bad s.data.toList=r:=⟨_,rfl⟩
 rw [hr]
 have HR:=hid hr;clear hr
 go_enter func65,ntmps65
 go_wp2
 go_loopw [3] (fun i wr=>∃ pos:Nat,i=.int .i64 pos∧badAt s.data.toList pos=r∧pos≤s.size∧Below w.heap.size w wr) (fun i _=>s.size - (intOf i).toNat)
 case atStart=>exact ⟨0,rfl,HR.out,Nat.zero_le _,Below.refl _ _⟩
 case round =>
  obtain ⟨pos,rfl,hb,hle,hbel⟩:=hrel
  have HB:=hid hb;clear hb
  have HL:=hid hbel;clear hbel
  by_cases hp:pos<s.size
  ·obtain ⟨c,n,hcn⟩:∃ c n,tkl (s.data.toList.drop pos)=(c,n):=⟨_,_,rfl⟩
   have ht:=fun w=>LV s hs pos hp w c n hcn
   have HT:=hid ht;clear ht
   have hpl:pos<s.data.toList.length:=by rw [HN.out];exact hp
   by_cases hn:n=0
   ·have hres:r=pos:=by rw [← HB.out,qL _ _ hpl (by rw [hcn];exact hn)]
    have HRes:=hid hres;clear hres
    have hz:((n:Int) == 0)=true:=by simp;omega
    clear hcn hn hpl
    go_wp2_with (go_at_call 98;refine (HT.out _).mono ?_;rintro e w' ⟨rfl,aa⟩)
    go_ret
    exact ⟨aK HRes.out.symm,HL.out.trans (Below.mono (by assumption) HL.out.size)⟩
   ·have hstep:badAt s.data.toList (pos+n)=r:=by
     rw [← HB.out,oK _ _ hpl (by rw [hcn];exact hn),hcn]
    have hnle:n≤s.size - pos:=by
     have:=dI (s.data.toList.drop pos)
     rw [hcn,List.length_drop,HN.out] at this
     exact this
    have HS:=hid hstep;clear hstep
    have hz:((n:Int) == 0)=false:=by simp;omega
    clear hcn hpl
    go_wp2_with (go_at_call 98;refine (HT.out _).mono ?_;rintro e w' ⟨rfl,aa⟩)
    go_roundw
    case rel=>exact ⟨pos+n,by go_num,HS.out,by omega,HL.out.trans (Below.mono (by assumption) HL.out.size)⟩
    case measure=>simp [intOf];omega
  ·have hres:r=-1:=by rw [← HB.out,qK _ _ (by rw [HN.out];omega)]
   have HRes:=hid hres;clear hres
   go_wp2
   go_ret
   exact ⟨aK HRes.out.symm,HL.out⟩
theorem PW (l:List UInt8):-1≤bad l:=by
 have:=zO (l.length+1) l 0
 unfold bad;omega
def vldB (l:List UInt8):Bool:=decide (bad l<0)
theorem bC (l:List UInt8):vldB l=true↔vld l:=by
 unfold vldB vld;have:=PW l;simp;omega
theorem dB (s:ByteArray) (hs:s.size≤maxLen) (w:World) :
 Calls prog 105 #[.string s] w fun e w'=>e=.returned (.bool (vldB s.data.toList))∧Below w.heap.size w w':=by
 have hb:=ML s hs
 have e:vldB s.data.toList=decide (bad s.data.toList<0):=rfl
 rw [e];clear e
 obtain ⟨r,hr⟩:∃ r,bad s.data.toList=r:=⟨_,rfl⟩
 rw [hr] at hb ⊢
 have HB:=hid hb;clear hb hr
 go_enter func105,ntmps105
 go_wp2_with (go_at_call 134;refine (HB.out _).mono ?_;rintro e w' ⟨rfl,aa⟩)
 go_ret
 exact ⟨rfl,by assumption⟩
theorem yF (s:ByteArray) (hs:s.size≤140737488355328) (w:World) :
 Calls prog 37 #[.string s] w fun e w'=>e=.returned (.bool (vldB s.data.toList))∧Below w.heap.size w w':=by
 have hb:=MA s hs
 have e:vldB s.data.toList=decide (bad s.data.toList<0):=rfl
 rw [e];clear e
 obtain ⟨r,hr⟩:∃ r,bad s.data.toList=r:=⟨_,rfl⟩
 rw [hr] at hb ⊢
 have HB:=hid hb;clear hb hr
 go_enter func37,ntmps37
 go_wp2_with (go_at_call 65;refine (HB.out _).mono ?_;rintro e w' ⟨rfl,aa⟩)
 go_ret
 exact ⟨rfl,by assumption⟩
set_option linter.unusedVariables false
theorem gY (l:List UInt8) (k:Nat):edge l (back l k):=by
 induction k with
 | zero=>exact bN l
 | succ k ih =>
  by_cases h:edge l (k+1)
  ·rw [dE l _ h];exact h
  ·rw [gI l k h];exact ih
theorem oZ (l:List UInt8) (e k:Nat) (h:edge l e) (hk:e≤k):e≤back l k:=by
 induction k with
 | zero=>omega
 | succ k ih =>
  by_cases h2:edge l (k+1)
  ·rw [dE l _ h2];exact hk
  ·rw [gI l k h2]
   refine ih ?_
   rcases Nat.lt_or_ge k e with g|g
   ·obtain rfl:e=k+1:=by omega
    exact absurd h h2
   ·exact g
theorem GS (l:List UInt8):(tkl l).2≤4:=by
 unfold tkl
 split
 ·simp
 ·exact nX _ _ _ _
theorem DU (n:Nat):∀ (l:List UInt8) (k:Nat),l.length≤n→vld l→k≤l.length→∃ e,edge l e∧e≤k∧k≤e+3:=by
 induction n with
 | zero=>intro l k hn _ hk;exact ⟨0,bN l,Nat.zero_le _,by omega⟩
 | succ n ih =>
  intro l k hn hv hk
  by_cases hl:l=[]
  ·subst hl;exact ⟨0,bN _,Nat.zero_le _,by simp at hk;omega⟩
  obtain ⟨h1,h2⟩:=(eA l hl).1 hv
  have h3:=dI l
  have h4:=GS l
  have h0:=bX hl
  rcases Nat.lt_or_ge k (tkl l).2 with g|g
  ·exact ⟨0,bN l,Nat.zero_le _,by omega⟩
  ·obtain ⟨e,he,e1,e2⟩:=ih (l.drop (tkl l).2) (k - (tkl l).2) (by simp;omega) h2 (by simp;omega)
   refine ⟨(tkl l).2+e,?_,by omega,by omega⟩
   rcases he with rfl|he|⟨he,hb⟩
   ·rcases dQ _ h2 with hc|hc
    ·right;left
     have:=congrArg List.length hc
     simp at this;omega
    ·rw [lO] at hc
     rcases Nat.lt_or_ge (tkl l).2 l.length with q|q
     ·exact .inr (.inr ⟨by omega,hc⟩)
     ·exact .inr (.inl (by omega))
   ·simp at he
    exact .inr (.inl (by omega))
   ·simp at he
    rw [lO] at hb
    exact .inr (.inr ⟨by omega,hb⟩)
theorem ER (l:List UInt8) (k:Nat) (hv:vld l) (hk:k≤l.length):k≤back l k+3:=by
 obtain ⟨e,he,h1,h2⟩:=DU l.length l k (Nat.le_refl _) hv hk
 have:=oZ l e k he h1
 omega
theorem jO (l:List UInt8) (k:Nat) (h:k≤l.length):backI l k=back l k:=by
 unfold backI;rw [if_neg (by omega),if_neg (by omega),Int.toNat_natCast]
theorem EW (s:ByteArray) (n:Nat) (h:n≤s.size):s.extract 0 n++s.extract n s.size=s:=by
 apply aI
 rw [aB,aC,aC]
 rw [List.drop_zero,Nat.sub_zero,List.take_of_length_le (l:=s.data.toList.drop n) (by simp)]
 exact List.take_append_drop n _
theorem cH (s:ByteArray) (n:Nat) (h:n≤s.size):(s.extract 0 n).size=n:=by simp;omega
theorem dN (s:ByteArray) (n:Nat):(s.extract n s.size).size=s.size - n:=by simp
theorem jZ (s:ByteArray) (n:Nat) (hv:vld s.data.toList) (he:edge s.data.toList n):vld (s.extract 0 n).data.toList∧vld (s.extract n s.size).data.toList:=by
 rw [aC,aC,List.drop_zero,Nat.sub_zero,List.take_of_length_le (l:=s.data.toList.drop n) (by simp)]
 exact fU _ n hv he
def fitsP (s:ByteArray):Prop:=1≤s.size∧s.size≤16∧vld s.data.toList
def fitsB (s:ByteArray):Bool:=decide (1≤s.size) && (decide (s.size≤16) && vldB s.data.toList)
theorem aU (s:ByteArray):fitsB s=true↔fitsP s:=by
 unfold fitsB fitsP
 rw [Bool.and_eq_true,Bool.and_eq_true,decide_eq_true_iff,decide_eq_true_iff,bC]
def cutN (s:ByteArray):Nat:=back s.data.toList 16
theorem iE (s:ByteArray):cutN s≤16:=iA _ _
theorem lQ (s:ByteArray) (hv:vld s.data.toList) (h:16<s.size):13≤cutN s:=by
 have:=ER s.data.toList 16 hv (by simp;omega)
 unfold cutN;omega
theorem pN (s:ByteArray):edge s.data.toList (cutN s):=gY _ _
inductive Ctd:ByteArray→List ByteArray→Prop
 | none {s:ByteArray}:s.size=0→Ctd s []
 | last {s:ByteArray}:0<s.size→s.size≤16→Ctd s [s]
 | more {s:ByteArray} {L:List ByteArray}:16<s.size→Ctd (s.extract (cutN s) s.size) L→Ctd s (s.extract 0 (cutN s)::L)
def CutP (s:ByteArray) (L:List ByteArray):Prop:=(vld s.data.toList∧Ctd s L)∨(¬ vld s.data.toList∧L=[])
def wholeL (L:List ByteArray):ByteArray:=L.foldl (·++·) ⟨#[]⟩
theorem nD (p:ByteArray) (s:ByteArray) (h:s.size=0):p++s=p:=by
 apply aI
 rw [aB,List.eq_nil_of_length_eq_zero (l:=s.data.toList) (by simpa using h),List.append_nil]
theorem fC (a b c:ByteArray):a++b++c=a++(b++c):=by
 apply aI
 rw [aB,aB,aB,aB,List.append_assoc]
theorem MC (h:Ctd s L):∀ p,L.foldl (·++·) p=p++s:=by
 induction h with
 | none h=>intro p;exact (nD p _ h).symm
 | last _ _=>intro p;rfl
 | @more s L h1 _ ih =>
  intro p
  rw [List.foldl_cons,ih,fC,EW _ _ (by have:=iE s;omega)]
theorem xO (s:ByteArray):(⟨#[]⟩:ByteArray)++s=s:=by
 apply aI;rw [aB];rfl
theorem DT (h:Ctd s L):wholeL L=s:=by
 unfold wholeL;rw [MC h,xO]
def TightP (L:List ByteArray):Prop:=∀ (k:Nat) (h:k<L.length),fitsP L[k]∧∀ (h0:0<k),16<(L[k - 1]'(by omega)).size+L[k].size
theorem aQ:TightP []:=fun k h=>absurd h (by simp)
theorem iM {x:ByteArray} (hx:fitsP x) (hy:∀ h:0<L.length,16<x.size+(L[0]'h).size) (hL:TightP L):TightP (x::L):=by
 intro k h
 cases k with
 | zero=>exact ⟨hx,fun h0=>absurd h0 (Nat.lt_irrefl _)⟩
 | succ k =>
  have hk:k<L.length:=by simpa using h
  refine ⟨(hL k hk).1,fun _=>?_⟩
  cases k with
  | zero=>exact hy hk
  | succ k=>exact (hL (k+1) hk).2 (Nat.succ_pos _)
theorem FN (h:Ctd s L) (hv:vld s.data.toList):TightP L∧(∀ h0:0<L.length,(L[0]'h0).size=s.size∨13≤(L[0]'h0).size)∧L.length≤s.size:=by
 induction h with
 | none h=>exact ⟨aQ,fun h0=>absurd h0 (by simp),by simp⟩
 | last h1 h2=>exact ⟨iM ⟨h1,h2,hv⟩ (fun h=>absurd h (by simp)) aQ,fun _=>.inl rfl,by simp;omega⟩
 | @more s L h1 h2 ih =>
  have hn:=iE s
  have aa:=lQ s hv h1
  have hp:=jZ s (cutN s) hv (pN s)
  have z1:=cH s (cutN s) (by omega)
  have z2:=dN s (cutN s)
  obtain ⟨i1,i2,i3⟩:=ih hp.2
  refine ⟨iM ⟨by omega,by omega,hp.1⟩ (fun h=>?_) i1,fun _=>.inr ?_,?_⟩
  ·rcases i2 h with g|g <;> omega
  ·show 13≤(s.extract 0 (cutN s)).size;omega
  ·simp only [List.length_cons];omega
def halfN (s:ByteArray):Nat:=back s.data.toList ((s.size+1) / 2)
theorem mN (s:ByteArray):halfN s≤s.size:=by have:=iA s.data.toList ((s.size+1) / 2);unfold halfN;omega
def joinL (a b:ByteArray):List ByteArray:=
 if fitsB a=true∧fitsB b=true then
  if (a++b).size≤16 then [a++b]
  else if fitsB ((a++b).extract 0 (halfN (a++b)))=true∧fitsB ((a++b).extract (halfN (a++b)) (a++b).size)=true then [(a++b).extract 0 (halfN (a++b)),(a++b).extract (halfN (a++b)) (a++b).size]
  else [a,b]
 else []
theorem yP (l:List UInt8) (k j:Nat) (h:k+j≤l.length) (on:∀ m,m<j→128≤bt l (k+m)∧bt l (k+m)≤191):runes (l.take (k+j))=runes (l.take k)∧lines (l.take (k+j))=lines (l.take k):=by
 induction j with
 | zero=>exact ⟨rfl,rfl⟩
 | succ j ih =>
  obtain ⟨i1,i2⟩:=ih (by omega) (fun m hm=>on m (by omega))
  have g:=on j (by omega)
  rw [show k+(j+1)=(k+j)+1 by omega,iP _ _ (by omega),iY _ _ (by omega),if_pos g,if_neg (by omega),i1,i2]
  exact ⟨rfl,rfl⟩
def width (l:List UInt8) (p:Nat):Nat:=if (tkl (l.drop p)).2=0 then 1 else (tkl (l.drop p)).2
theorem kJ (s:ByteArray) (p:Nat) (h:p<s.size):(Utf8.decode s p).2=width s.data.toList p:=by
 rw [jQ s p h];unfold width;split <;> rfl
theorem yT (s:ByteArray) (p:Nat) (h:p<s.size):(Utf8.decode s p).1=10↔bt s.data.toList p=10:=by
 rw [jQ s p h]
 have hl:p<s.data.toList.length:=by simpa using h
 rw [eC _ _ hl]
 rcases eE (bt s.data.toList p) (bt s.data.toList (p+1)) (bt s.data.toList (p+1+1)) (bt s.data.toList (p+1+2)) with ⟨g1,e⟩|⟨g1,g2,g3,g4,e⟩|⟨g1,g2,g3,g4,g5,g6,g7,g8,e⟩|⟨g1,g2,g3,g4,g5,g6,g7,g8,g9,g10,e⟩|⟨g1,_,_,_,e⟩
 all_goals rw [e];simp only [if_pos]
 ·simp
 ·simp;omega
 ·simp;omega
 ·simp;omega
 ·simp;omega
theorem oQ (l:List UInt8) (p:Nat) (h:p<l.length) :
 1≤width l p∧p+width l p≤l.length∧runes (l.take (p+width l p))=runes (l.take p)+(if 128≤bt l p∧bt l p≤191 then 0 else 1)∧lines (l.take (p+width l p))=lines (l.take p)+(if bt l p=10 then 1 else 0):=by
 unfold width
 by_cases hz:(tkl (l.drop p)).2=0
 ·rw [if_pos hz]
  exact ⟨Nat.le_refl _,h,iP l p h,iY l p h⟩
 ·rw [if_neg hz]
  have hle:=dI (l.drop p)
  rw [List.length_drop] at hle
  rw [eC l p h] at hz hle ⊢
  obtain ⟨g0,g1,g2,g3⟩:=sG _ _ _ _ hz
  have h4:=nX (bt l p) (bt l (p+1)) (bt l (p+1+1)) (bt l (p+1+2))
  obtain ⟨n,hn⟩:∃ n,(tk (bt l p) (bt l (p+1)) (bt l (p+1+1)) (bt l (p+1+2))).2=n:=⟨_,rfl⟩
  rw [hn] at hz hle h4 g1 g2 g3 ⊢
  have sk:=yP l (p+1) (n - 1) (by omega) (fun m hm=>by
   obtain rfl|rfl|rfl:m=0∨m=1∨m=2:=by omega
   ·exact g1 (by omega)
   ·exact g2 (by omega)
   ·exact g3 (by omega))
  rw [show p+1+(n - 1)=p+n by omega] at sk
  refine ⟨by omega,by omega,?_,?_⟩
  ·rw [sk.1,iP l p h]
  ·rw [sk.2,iY l p h]
set_option maxHeartbeats 400000 in
theorem EL (s:ByteArray) (hs:s.size≤maxLen) (w:World) :
 Calls prog 209 #[.string s] w fun e w'=>e=.returned (.int .i64 (runes s.data.toList))∧Below w.heap.size w w':=by
 have hlen:s.data.toList.length=s.size:=by simp
 have HN:=hid hlen;clear hlen
 unfold maxLen at hs
 go_enter func209,ntmps209
 go_wp2
 go_loopw [3] (fun n wr=>∃ pos:Nat,pos≤s.size∧wr=w.iter s pos∧n=.int .i64 (runes (s.data.toList.take pos))) (fun _ wr=>s.size - wr.iterPos w.heap.size)
 case atStart=>exact ⟨0,Nat.zero_le _,rfl,rfl⟩
 case round =>
  obtain ⟨pos,hle,rfl,rfl⟩:=hrel
  have hrl:=vD (s.data.toList.take pos)
  rw [List.length_take] at hrl
  by_cases hp:pos<s.size
  ·have hb:=bH s pos hp
   obtain ⟨k1,k2,k3,_⟩:=oQ s.data.toList pos (by rw [HN.out];exact hp)
   rw [HN.out] at k2
   rw [hb] at k3
   have aa:=fun ty=>run_next_any (P:=prog) w s pos ty hp
   rw [kJ s pos hp] at aa
   obtain ⟨x,hx⟩:∃ x,runes (s.data.toList.take pos)=x:=⟨_,rfl⟩
   obtain ⟨d,hd⟩:∃ d,width s.data.toList pos=d:=⟨_,rfl⟩
   rw [hx] at k3 hrl ⊢
   rw [hd] at k1 k2 k3 aa
   have ab:x<9223372036854775807:=by omega
   clear hb hx hd hrl
   by_cases g:128≤s[pos].toNat∧s[pos].toNat≤191
   ·rw [if_pos g] at k3
    have K3:=hid k3;clear k3
    obtain ⟨g1,g2⟩:=g
    go_wp2_with (go_at_call 135;refine (jJ _ g1 g2 _).mono ?_;rintro e w' ⟨rfl,rfl⟩)
    go_roundw
    case rel=>exact ⟨pos+d,k2,rfl,by rw [K3.out];rfl⟩
    case measure=>simp;omega
   ·rw [if_neg g] at k3
    have K3:=hid k3;clear k3
    have G:=hid g;clear g
    go_wp2_with (go_at_call 135;refine (jW _ G.out _).mono ?_;rintro e w' ⟨rfl,rfl⟩)
    go_roundw
    case rel=>exact ⟨pos+d,k2,rfl,by rw [K3.out];go_num⟩
    case measure=>simp;omega
  ·have aa:=fun ty=>run_next_end (P:=prog) w s pos ty hp
   have hend:s.data.toList.take pos=s.data.toList:=List.take_of_length_le (by rw [HN.out];omega)
   rw [hend]
   clear hend hrl
   go_wp2
   go_ret
   exact ⟨rfl,(Below.refl _ _).alloc (Nat.le_refl _) _⟩
set_option maxHeartbeats 400000 in
theorem EQ (s:ByteArray) (hs:s.size≤maxLen) (w:World) :
 Calls prog 210 #[.string s] w fun e w'=>e=.returned (.int .i64 (lines s.data.toList))∧Below w.heap.size w w':=by
 have hlen:s.data.toList.length=s.size:=by simp
 have HN:=hid hlen;clear hlen
 unfold maxLen at hs
 go_enter func210,ntmps210
 go_wp2
 go_loopw [3] (fun n wr=>∃ pos:Nat,pos≤s.size∧wr=w.iter s pos∧n=.int .i64 (lines (s.data.toList.take pos))) (fun _ wr=>s.size - wr.iterPos w.heap.size)
 case atStart=>exact ⟨0,Nat.zero_le _,rfl,rfl⟩
 case round =>
  obtain ⟨pos,hle,rfl,rfl⟩:=hrel
  have hrl:=tL (s.data.toList.take pos)
  rw [List.length_take] at hrl
  by_cases hp:pos<s.size
  ·obtain ⟨k1,k2,_,k3⟩:=oQ s.data.toList pos (by rw [HN.out];exact hp)
   rw [HN.out] at k2
   have ht:=yT s pos hp
   have aa:=fun ty=>run_next_any (P:=prog) w s pos ty hp
   rw [kJ s pos hp] at aa
   obtain ⟨x,hx⟩:∃ x,lines (s.data.toList.take pos)=x:=⟨_,rfl⟩
   obtain ⟨d,hd⟩:∃ d,width s.data.toList pos=d:=⟨_,rfl⟩
   obtain ⟨c,hc⟩:∃ c,(Utf8.decode s pos).1=c:=⟨_,rfl⟩
   rw [hx] at k3 hrl ⊢
   rw [hd] at k1 k2 k3 aa
   rw [hc] at aa ht
   have ab:x<9223372036854775807:=by omega
   clear hx hd hrl hc
   by_cases g:bt s.data.toList pos=10
   ·rw [if_pos g] at k3
    have K3:=hid k3;clear k3
    have hq:((c:Int) == 10)=true:=by simp;have:=ht.2 g;omega
    clear ht g
    go_wp2
    go_roundw
    case rel=>exact ⟨pos+d,k2,rfl,by rw [K3.out];go_num⟩
    case measure=>simp;omega
   ·rw [if_neg g] at k3
    have K3:=hid k3;clear k3
    have hq:((c:Int) == 10)=false:=by
     have:c≠10:=fun e=>g (ht.1 e)
     simp;omega
    clear ht g
    go_wp2
    go_roundw
    case rel=>exact ⟨pos+d,k2,rfl,by rw [K3.out];rfl⟩
    case measure=>simp;omega
  ·have aa:=fun ty=>run_next_end (P:=prog) w s pos ty hp
   have hend:s.data.toList.take pos=s.data.toList:=List.take_of_length_le (by rw [HN.out];omega)
   rw [hend]
   clear hend hrl
   go_wp2
   go_ret
   exact ⟨rfl,(Below.refl _ _).alloc (Nat.le_refl _) _⟩
abbrev cntV (b r l:Int):Value:=.agg #[.int .i64 b,.int .i64 r,.int .i64 l]
theorem bcell {W w1:World} (hb:Below W.heap.size W w1):(∀ b o,b<W.heap.size→w1.cell? ⟨b,o,none⟩=W.cell? ⟨b,o,none⟩)∧(∀ b o,b<W.heap.size→w1.frozen? ⟨b,o,none⟩=W.frozen? ⟨b,o,none⟩):=
 ⟨fun b o h=>hb.cell (p:=⟨b,o,none⟩) h,fun b o h=>hb.frozen (p:=⟨b,o,none⟩) h⟩
theorem fP {w w2:World} {o:Obj} (hb:Below (w.alloc o).heap.size (w.alloc o) w2) (u0 u1 u2:Value) :
 Below w.heap.size w (((w2.setCell ⟨w.heap.size,0,none⟩ u0).setCell ⟨w.heap.size,1,none⟩ u1).setCell ⟨w.heap.size,2,none⟩ u2):=
 ((((((Below.refl _ _).alloc (Nat.le_refl _) _).trans (hb.mono (by simp))).setCell (p:=⟨w.heap.size,0,none⟩) (Nat.le_refl _) _).setCell (p:=⟨w.heap.size,1,none⟩) (Nat.le_refl _) _)).setCell (p:=⟨w.heap.size,2,none⟩) (Nat.le_refl _) _
set_option maxHeartbeats 400000 in
theorem MJ (s:ByteArray) (hs:s.size≤maxLen) (w:World) :
 Calls prog 194 #[.string s] w fun e w'=>e=.returned (cntV s.size (runes s.data.toList) (lines s.data.toList))∧Below w.heap.size w w':=by
 have c1:=EL s hs
 have c2:=EQ s hs
 obtain ⟨x,hx⟩:∃ x,runes s.data.toList=x:=⟨_,rfl⟩
 obtain ⟨y,hy⟩:∃ y,lines s.data.toList=y:=⟨_,rfl⟩
 rw [hx] at c1 ⊢
 rw [hy] at c2 ⊢
 have C1:=hid c1;have C2:=hid c2
 clear c1 c2 hx hy
 unfold maxLen at hs
 go_enter func194,ntmps194
 go_wp2_with fail
 refine (C1.out _).mono ?_
 rintro e w1 ⟨rfl,ab⟩
 go_wp2_with fail
 refine (onward ab (C2.out _)).mono ?_
 rintro e w2 ⟨rfl,aa⟩
 obtain ⟨hc,hf⟩:=bcell aa
 go_wp2
 refine bodyPost_ret (v:=cntV s.size x y) (by simp [results,results194,hc,go_sem]) rfl ⟨rfl,?_⟩
 exact fP aa _ _ _
def plB (n:Int):Bool:=decide (0≤n) && decide (n≤4096)
theorem xJ {n:Int} (h:0≤n) (k:n≤4096):plB n=true:=by unfold plB;simp;omega
theorem oI {n:Int} (h:n<0∨4096<n):plB n=false:=by unfold plB;simp;omega
theorem OQ {n:Int} (h:plB n=true):0≤n∧n≤4096:=by unfold plB at h;simp at h;exact h
def letB (c:UInt8):Bool:=decide (97≤c.toNat) && decide (c.toNat≤122)
def markB (l:List UInt8):Bool:=(decide (1≤l.length) && decide (l.length≤8)) && l.all letB
theorem vM {l:List UInt8} (h:l.length<1):markB l=false:=by unfold markB;rw [decide_eq_false (by omega)];rfl
theorem AX {l:List UInt8} (h:8<l.length):markB l=false:=by unfold markB;rw [decide_eq_false (by omega:¬ l.length≤8),Bool.and_false];rfl
theorem GY {l:List UInt8} (h:markB l=true):1≤l.length∧l.length≤8∧l.all letB=true:=by
 unfold markB at h
 simp only [Bool.and_eq_true,decide_eq_true_eq] at h
 exact ⟨h.1.1,h.1.2,h.2⟩
theorem rY {l:List UInt8} (h:k<l.length):(l.take (k+1)).all letB=((l.take k).all letB && letB (l[k]'h)):=by
 rw [List.take_succ_eq_append_getElem h,List.all_append];simp
theorem NA {l:List UInt8} (h:k<l.length) (g:letB (l[k]'h)=false):l.all letB=false:=by
 rw [List.all_eq_false]
 exact ⟨l[k],List.getElem_mem h,by simp [g]⟩
theorem xI (h:k<s.size):letB (s.data.toList[k]'(by simpa using h))=(decide (97≤s[k].toNat) && decide (s[k].toNat≤122)):=rfl
theorem uD (h:k<s.size) (hall:(s.data.toList.take k).all letB=true) (h1:97≤s[k].toNat) (h2:s[k].toNat≤122):(s.data.toList.take (k+1)).all letB=true:=by
 rw [rY (by simpa using h),hall,xI h,decide_eq_true h1,decide_eq_true h2];rfl
theorem lP (h:k<s.size) (g:s[k].toNat<97∨122<s[k].toNat):markB s.data.toList=false:=by
 have e:s.data.toList.all letB=false:=NA (k:=k) (by simpa using h) (by
  rw [xI h]
  rcases g with g|g
  ·rw [decide_eq_false (by omega)];rfl
  ·rw [decide_eq_false (by omega:¬ s[k].toNat≤122),Bool.and_false])
 unfold markB;rw [e,Bool.and_false]
theorem xC (h:(s.data.toList.take s.size).all letB=true):markB s.data.toList=(decide (1≤s.size) && decide (s.size≤8)):=by
 have e:s.data.toList.length=s.size:=by simp
 rw [List.take_of_length_le (by omega)] at h
 unfold markB;rw [h,Bool.and_true,e]
def rightB (k a n:Int) (l:List UInt8):Bool:=
 if k=1 then (plB a && decide (n=0)) && (decide (l.length≤512) && vldB l)
 else if k=2 then (plB a && plB n) && decide (l.length=0)
 else if k=3 then (plB a && decide (n=0)) && markB l
 else if k=4 then (decide (a=0) && decide (n=0)) && markB l
 else if 5≤k∧k≤8 then (decide (a=0) && decide (n=0)) && decide (l.length=0)
 else false
theorem right1 (a n:Int) (l:List UInt8):rightB 1 a n l=((plB a && decide (n=0)) && (decide (l.length≤512) && vldB l)):=rfl
theorem right2 (a n:Int) (l:List UInt8):rightB 2 a n l=((plB a && plB n) && decide (l.length=0)):=rfl
theorem right3 (a n:Int) (l:List UInt8):rightB 3 a n l=((plB a && decide (n=0)) && markB l):=rfl
theorem right4 (a n:Int) (l:List UInt8):rightB 4 a n l=((decide (a=0) && decide (n=0)) && markB l):=rfl
theorem right5 {k:Int} (h:5≤k) (g:k≤8) (a n:Int) (l:List UInt8):rightB k a n l=((decide (a=0) && decide (n=0)) && decide (l.length=0)):=by
 unfold rightB
 rw [if_neg (by omega),if_neg (by omega),if_neg (by omega),if_neg (by omega),if_pos ⟨h,g⟩]
theorem eS {k:Int} (h:k<1∨8<k) (a n:Int) (l:List UInt8):rightB k a n l=false:=by
 unfold rightB
 rw [if_neg (by omega),if_neg (by omega),if_neg (by omega),if_neg (by omega),if_neg (by omega)]
theorem opKinds (k:Int):k=1∨k=2∨k=3∨k=4∨(5≤k∧k≤8)∨(k<1∨8<k):=by omega
theorem AI {k a n:Int} {l:List UInt8} (h:rightB k a n l=true):1≤k∧k≤8:=by
 rcases opKinds k with g|g|g|g|g|g
 ·omega
 ·omega
 ·omega
 ·omega
 ·omega
 ·rw [eS g] at h;cases h
def bodyL (k a n:Int) (l:List UInt8):List UInt8:=
 UInt8.ofNat (k % 256).toNat::((if k≤3 then leL (u64 a) 4 else [])++((if k=2 then leL (u64 n) 4 else [])++l))
structure OpRd where
 k:Int
 a:Int
 n:Int
 s:ByteArray
 e:Int
def OpRd.none (e:Int):OpRd:=⟨0,0,0,⟨#[]⟩,e⟩
def rdEnd (k a n:Int) (s:ByteArray):OpRd:=if rightB k a n s.data.toList=true then ⟨k,a,n,s,0⟩ else OpRd.none 5
def headN (s:ByteArray):Int:=(leN s.data.toList 0 4:Nat)
def restN (s:ByteArray):ByteArray:=s.extract 4 s.size
def rdKind (k:Int) (s:ByteArray):OpRd:=
 if k<1∨8<k then OpRd.none 5
 else if k=1∨k=3 then (if s.size<4 then OpRd.none 18 else rdEnd k (headN s) 0 (restN s))
 else if k=2 then (if s.size<8 then OpRd.none 18 else rdEnd k (headN s) (headN (restN s)) (restN (restN s)))
 else rdEnd k 0 0 s
def readR (s:ByteArray):OpRd:=if h:0<s.size then rdKind ((s[0]'h).toNat:Nat) (s.extract 1 s.size) else OpRd.none 18
def appE (t:ByteArray) (p:Int) (o n:ByteArray):ByteArray×Int:=
 if p<0∨(t.size:Int)<p then (⟨#[]⟩,3)
 else if ¬ t.extract p.toNat (p.toNat+o.size)=o then (⟨#[]⟩,8)
 else if (edgeB t.data.toList p.toNat && edgeB t.data.toList (p.toNat+o.size:Nat))=false then (⟨#[]⟩,4)
 else if (vldB o.data.toList && vldB n.data.toList)=false then (⟨#[]⟩,5)
 else if 4096+o.size<t.size+n.size then (⟨#[]⟩,6)
 else (t.extract 0 p.toNat++n++t.extract (p.toNat+o.size) t.size,0)
def shiftI (p:Int) (o n:Nat) (a:Int):Int:=if a≤p then a else if p+o≤a then a - o+n else p
theorem oH (h:p<0∨(t.size:Int)<p):appE t p o n=(⟨#[]⟩,3):=by unfold appE;rw [if_pos h]
theorem qF (hk:k≤t.size) (h:¬ t.extract k (k+o.size)=o):appE t k o n=(⟨#[]⟩,8):=by
 unfold appE
 rw [if_neg (by omega),if_pos (by simpa using h)]
theorem fB (hk:k≤t.size) (h:t.extract k (k+o.size)=o) (he:edgeB t.data.toList k=false∨edgeB t.data.toList (k+o.size:Nat)=false):appE t k o n=(⟨#[]⟩,4):=by
 unfold appE
 rw [if_neg (by omega),if_neg (by simpa using h),if_pos]
 simp only [Int.toNat_natCast,Bool.and_eq_false_iff]
 exact he
theorem gN (hk:k≤t.size) (h:t.extract k (k+o.size)=o) (h1:edgeB t.data.toList k=true) (h2:edgeB t.data.toList (k+o.size:Nat)=true)
 (hv:vldB o.data.toList=false∨vldB n.data.toList=false):appE t k o n=(⟨#[]⟩,5):=by
 unfold appE
 rw [if_neg (by omega),if_neg (by simpa using h),if_neg (by simp only [Int.toNat_natCast];rw [h1,h2];decide),if_pos]
 simp only [Bool.and_eq_false_iff]
 exact hv
theorem pM (hk:k≤t.size) (h:t.extract k (k+o.size)=o) (h1:edgeB t.data.toList k=true) (h2:edgeB t.data.toList (k+o.size:Nat)=true)
 (v1:vldB o.data.toList=true) (v2:vldB n.data.toList=true) (hl:4096+o.size<t.size+n.size):appE t k o n=(⟨#[]⟩,6):=by
 unfold appE
 rw [if_neg (by omega),if_neg (by simpa using h),if_neg (by simp only [Int.toNat_natCast];rw [h1,h2];decide),if_neg (by rw [v1,v2];decide),if_pos hl]
theorem hO (hk:k≤t.size) (h:t.extract k (k+o.size)=o) (h1:edgeB t.data.toList k=true) (h2:edgeB t.data.toList (k+o.size:Nat)=true)
 (v1:vldB o.data.toList=true) (v2:vldB n.data.toList=true) (hl:¬ 4096+o.size<t.size+n.size):appE t k o n=(t.extract 0 k++n++t.extract (k+o.size) t.size,0):=by
 unfold appE
 rw [if_neg (by omega),if_neg (by simpa using h),if_neg (by simp only [Int.toNat_natCast];rw [h1,h2];decide),if_neg (by rw [v1,v2];decide),if_neg hl]
 simp
theorem gJ (hk:k≤t.size) (h:t.extract k (k+o.size)=o):k+o.size≤t.size:=by
 have:=congrArg ByteArray.size h
 rw [ByteArray.size_extract] at this
 omega
theorem bL (l:List UInt8) (k:Nat):edgeB l k=true↔edge l k:=by unfold edgeB;simp
theorem kZ (h:appE t p o n=(s,0)) :
 ∃ k:Nat,p=k∧k≤t.size∧t.extract k (k+o.size)=o∧edgeB t.data.toList k=true∧edgeB t.data.toList (k+o.size:Nat)=true∧vldB o.data.toList=true∧vldB n.data.toList=true∧¬ 4096+o.size<t.size+n.size∧s=t.extract 0 k++n++t.extract (k+o.size) t.size:=by
 by_cases hp:p<0∨(t.size:Int)<p
 ·rw [oH hp] at h;cases h
 obtain ⟨k,rfl⟩:=Int.eq_ofNat_of_zero_le (show 0≤p by omega)
 have hk:k≤t.size:=by omega
 refine ⟨k,rfl,hk,?_⟩
 by_cases ho:t.extract k (k+o.size)=o
 case neg=>rw [qF hk ho] at h;cases h
 cases h1:edgeB t.data.toList k
 ·rw [fB hk ho (.inl h1)] at h;cases h
 cases h2:edgeB t.data.toList (k+o.size:Nat)
 ·rw [fB hk ho (.inr h2)] at h;cases h
 cases v1:vldB o.data.toList
 ·rw [gN hk ho h1 h2 (.inl v1)] at h;cases h
 cases v2:vldB n.data.toList
 ·rw [gN hk ho h1 h2 (.inr v2)] at h;cases h
 by_cases hl:4096+o.size<t.size+n.size
 ·rw [pM hk ho h1 h2 v1 v2 hl] at h;cases h
 rw [hO hk ho h1 h2 v1 v2 hl] at h
 refine ⟨ho,rfl,rfl,rfl,rfl,hl,?_⟩
 have:=congrArg Prod.fst h
 exact this.symm
theorem LL (hk:k≤t.size) (h:t.extract k (k+o.size)=o):t.extract 0 k++o++t.extract (k+o.size) t.size=t:=by
 have hle:=gJ hk h
 have e:t.extract 0 k++o=t.extract 0 (k+o.size):=by
  apply aI
  have ho:=congrArg (fun x=>x.data.toList) h
  simp only [aC,Nat.sub_zero,List.drop_zero,aB] at ho ⊢
  conv=>lhs;rw [← ho]
  rw [show k+o.size - k=o.size by omega,← List.take_append_drop k (t.data.toList.take (k+o.size))]
  congr 1
  ·rw [List.take_take,Nat.min_eq_left (by omega)]
  ·rw [List.drop_take,show k+o.size - k=o.size by omega]
 rw [e]
 apply aI
 simp only [aC,Nat.sub_zero,List.drop_zero,aB]
 have hlen:t.data.toList.length=t.size:=by simp
 rw [List.take_of_length_le (l:=t.data.toList.drop _) (by rw [List.length_drop];omega),List.take_append_drop]
theorem AR {a b c:List UInt8} (hk:k≤a.length) (h:edge (a++b) k) (hc:clean c):edge (a++c) k:=by
 rcases Nat.lt_or_ge k a.length with hlt|hge
 ·unfold edge at h ⊢
  rcases h with h|h|⟨h,h1⟩
  ·exact .inl h
  ·exfalso;rw [List.length_append] at h;omega
  ·refine .inr (.inr ⟨by rw [List.length_append];omega,?_⟩)
   rw [aV _ _ _ hlt] at h1 ⊢
   exact h1
 ·obtain rfl:k=a.length:=by omega
  rcases hc with rfl|hc
  ·exact .inr (.inl (by simp))
  ·by_cases hz:c=[]
   ·subst hz;exact .inr (.inl (by simp))
   ·refine .inr (.inr ⟨by rw [List.length_append];have:=bX hz;omega,?_⟩)
    rw [bJ _ _ _ (Nat.le_refl _),Nat.sub_self]
    exact hc
theorem wJ {a b c:List UInt8} (h:edge (a++b) (a.length+k)) (hb:clean b) (hz:k≤b.length):edge (c++b) (c.length+k):=by
 rcases Nat.lt_or_ge k b.length with hlt|hge
 ·refine .inr (.inr ⟨by rw [List.length_append];omega,?_⟩)
  rw [bJ _ _ _ (by omega),show c.length+k - c.length=k by omega]
  rcases h with h|h|⟨_,h⟩
  ·obtain rfl:k=0:=by omega
   rcases hb with rfl|hb
   ·simp at hlt
   ·exact hb
  ·rw [List.length_append] at h;omega
  ·rw [bJ _ _ _ (by omega),show a.length+k - a.length=k by omega] at h
   exact h
 ·exact .inr (.inl (by rw [List.length_append];omega))
structure Cut3 (t o n s:ByteArray) (k:Nat) (A B:List UInt8):Prop where
 t:t.data.toList=A++(o.data.toList++B)
 s:s.data.toList=A++(n.data.toList++B)
 len:A.length=k
 vA:vld A
 vO:vld o.data.toList
 vN:vld n.data.toList
 vB:vld B
theorem bS (s:ByteArray):s.data.toList.length=s.size:=by simp
theorem cut3 (hv:vld t.data.toList) (h:appE t p o n=(s,0)):∃ (k:Nat) (A B:List UInt8),p=k∧Cut3 t o n s k A B:=by
 obtain ⟨k,rfl,hk,ho,e1,e2,v1,v2,hl,hs⟩:=kZ h
 have h3:=LL hk ho
 have hle:=gJ hk ho
 refine ⟨k,(t.extract 0 k).data.toList,(t.extract (k+o.size) t.size).data.toList,rfl,?_,?_,?_,?_,(bC _).1 v1,(bC _).1 v2,?_⟩
 ·have:=congrArg (fun x=>x.data.toList) h3
  simp only [aB,List.append_assoc] at this
  exact this.symm
 ·rw [hs,aB,aB,List.append_assoc]
 ·rw [bS,ByteArray.size_extract];omega
 ·rw [aC,List.drop_zero,Nat.sub_zero]
  exact (fU _ k hv ((bL _ _).1 e1)).1
 ·rw [aC,List.take_of_length_le (by rw [List.length_drop,bS];omega)]
  exact (fU _ _ hv ((bL _ _).1 e2)).2
theorem Cut3.turn {A B:List UInt8} (h:Cut3 t o n s k A B):Cut3 s n o t k A B:=⟨h.s,h.t,h.len,h.vA,h.vN,h.vO,h.vB⟩
theorem Cut3.valid {A B:List UInt8} (h:Cut3 t o n s k A B):vldB s.data.toList=true:=by
 rw [bC,h.s]
 exact dW _ _ h.vA (dW _ _ h.vN h.vB)
theorem Cut3.size {A B:List UInt8} (h:Cut3 t o n s k A B):t.size=k+o.size+B.length:=by
 have:=congrArg List.length h.t
 rw [bS,List.length_append,List.length_append,bS,h.len] at this
 omega
theorem eW {t:List UInt8} {A B:List UInt8} (h:t=A++B) (hA:A.length=k) (hc:clean B):edge t k:=by
 subst h hA
 rcases hc with rfl|hc
 ·exact .inr (.inl (by simp))
 ·by_cases hz:B=[]
  ·subst hz;exact .inr (.inl (by simp))
  ·refine .inr (.inr ⟨by rw [List.length_append];have:=bX hz;omega,?_⟩)
   rw [bJ _ _ _ (Nat.le_refl _),Nat.sub_self]
   exact hc
theorem Cut3.app {A B:List UInt8} (h:Cut3 t o n s k A B) (hl:s.size≤4096):appE t k o n=(s,0):=by
 have ht:=h.size
 have hs:=h.turn.size
 have c1:clean (o.data.toList++B):=dQ _ (dW _ _ h.vO h.vB)
 have c2:clean B:=dQ _ h.vB
 have ho:t.extract k (k+o.size)=o:=by
  apply aI
  rw [aC,h.t,List.drop_left' h.len,show k+o.size - k=o.size by omega,List.take_left' (bS o)]
 rw [hO (by omega) ho ?_ ?_ ((bC _).2 h.vO) ((bC _).2 h.vN) (by omega)]
 ·congr 1
  apply aI
  rw [aB,aB,aC,aC,h.s,List.drop_zero,Nat.sub_zero,h.t,List.take_left' h.len,List.append_assoc]
  congr 2
  rw [← List.append_assoc,List.drop_left' (by rw [List.length_append,h.len,bS]),List.take_of_length_le (by omega)]
 ·rw [bL,h.t]
  exact eW rfl h.len c1
 ·rw [bL]
  exact eW (A:=A++o.data.toList) (by rw [h.t,List.append_assoc]) (by rw [List.length_append,h.len,bS]) c2
theorem mR (hv:vldB t.data.toList=true) (ht:t.size≤4096) (h:appE t p o n=(s,0)):appE s p n o=(t,0)∧vldB s.data.toList=true:=by
 obtain ⟨k,A,B,rfl,hc⟩:=cut3 ((bC _).1 hv) h
 exact ⟨hc.turn.app ht,hc.valid⟩
theorem AM {a:Int} (hv:vldB t.data.toList=true) (h:appE t p o n=(s,0)) (ha:edgeB t.data.toList a=true):edgeB s.data.toList (shiftI p o.size n.size a)=true:=by
 obtain ⟨k,A,B,rfl,hc⟩:=cut3 ((bC _).1 hv) h
 have aa:0≤a:=by unfold edgeB at ha;simp at ha;exact ha.1
 obtain ⟨j,rfl⟩:=Int.eq_ofNat_of_zero_le aa
 rw [bL] at ha
 have cN:clean (n.data.toList++B):=dQ _ (dW _ _ hc.vN hc.vB)
 have cB:clean B:=dQ _ hc.vB
 have ht:=hc.size
 have hj:j≤t.size:=by rcases ha with h|h|h <;> rw [← bS] <;> omega
 by_cases h1:j≤k
 ·rw [show shiftI k o.size n.size j=j by unfold shiftI;rw [if_pos (by omega)],bL,hc.s]
  rw [hc.t] at ha
  exact AR (by rw [hc.len];exact h1) ha cN
 by_cases h2:k+o.size≤j
 ·rw [show shiftI k o.size n.size j=((k+n.size+(j - (k+o.size)):Nat):Int) by unfold shiftI;rw [if_neg (by omega),if_pos (by omega)];omega,bL,hc.s,← List.append_assoc]
  have e1:(A++o.data.toList).length=k+o.size:=by rw [List.length_append,hc.len,bS]
  have e2:(A++n.data.toList).length=k+n.size:=by rw [List.length_append,hc.len,bS]
  rw [← e2]
  refine wJ (a:=A++o.data.toList) ?_ cB (by omega)
  rw [e1,List.append_assoc,← hc.t,show k+o.size+(j - (k+o.size))=j by omega]
  exact ha
 ·rw [show shiftI k o.size n.size j=(k:Int) by unfold shiftI;rw [if_neg (by omega),if_neg (by omega)],bL]
  exact eW hc.s hc.len cN
end Go.Proofs.YtbagenpobcgjnaaGreat
