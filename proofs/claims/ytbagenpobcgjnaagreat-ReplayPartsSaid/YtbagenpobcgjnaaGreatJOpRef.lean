/-
  Joined: OpRef, OpRef2, OpRef3, OpBack.
-/
import Derived.Test.YtbagenpobcgjnaaGreatJUtfRTake
import Derived.Test.YtbagenpobcgjnaaGreatJUtfLeaf
import Derived.Test.YtbagenpobcgjnaaGreatJCells
import Derived.Test.YtbagenpobcgjnaaGreatJCommon
variable {s:ByteArray} {a k n:Int}
namespace Go.Proofs.YtbagenpobcgjnaaGreat
open Go.Proofs.Tryz
set_option maxRecDepth 100000
open Lib (hid)
open Go.RowKit
set_option maxHeartbeats 400000 in
theorem rI (s:ByteArray) (hs:s.size≤4294967296) (w:World) :
 Calls prog 63 #[.string s] w fun e w'=>e=.returned (.bool (markB s.data.toList))∧w=w':=by
 obtain ⟨r,hr⟩:∃ r,markB s.data.toList=r:=⟨_,rfl⟩
 rw [hr]
 have HR:=hid hr;clear hr
 go_enter func63,ntmps63
 go_wp2
 go_loop [3] (fun i=>∃ k:Nat,k≤s.size∧i=.int .i64 k∧(s.data.toList.take k).all letB=true) (fun i=>s.size - (intOf i).toNat)
 case atStart=>exact ⟨0,Nat.zero_le _,rfl,rfl⟩
 case round =>
  obtain ⟨k,hk,rfl,hall⟩:=hrel
  have HA:=hid hall;clear hall
  by_cases hlt:k<s.size
  ·have aa:=s[k].toNat_lt
   by_cases g1:97≤s[k].toNat
   ·by_cases g2:s[k].toNat≤122
    ·have h2:=hid (uD hlt HA.out g1 g2)
     go_wp2
     go_round
     case rel=>exact ⟨k+1,by omega,by go_num,h2.out⟩
     case measure=>simp [intOf];omega
    ·have h2:=hid (lP hlt (.inr (by omega)))
     have g2':122<s[k].toNat:=by omega
     go_wp2
     go_ret
     exact ⟨aA (by rw [← HR.out,h2.out]),rfl⟩
   ·have h2:=hid (lP hlt (.inl (by omega)))
    have g1':s[k].toNat<97:=by omega
    go_wp2
    go_ret
    exact ⟨aA (by rw [← HR.out,h2.out]),rfl⟩
  ·obtain rfl:k=s.size:=by omega
   have h2:=hid (xC HA.out)
   by_cases z1:1≤s.size
   ·by_cases z2:s.size≤8
    ·have z0:0<s.size:=by omega
     go_wp2
     go_ret
     exact ⟨aA (by rw [← HR.out,h2.out,decide_eq_true z1,Bool.true_and];exact decide_eq_decide.2 (by omega)),rfl⟩
    ·have z0:0<s.size:=by omega
     have z3:8<s.size:=by omega
     go_wp2
     go_ret
     exact ⟨aA (by rw [← HR.out,h2.out,decide_eq_true z1,Bool.true_and];exact decide_eq_decide.2 (by omega)),rfl⟩
   ·have z0:s.size=0:=by omega
    have z3:s.size<1:=by omega
    go_wp2
    go_ret
    exact ⟨aA (by rw [← HR.out,h2.out,decide_eq_false z1,Bool.false_and]),rfl⟩
theorem fH (n:Int) (w:World) :
 Calls prog 62 #[.int .i64 n] w fun e w'=>e=.returned (.bool (plB n))∧w=w':=by
 by_cases h0:0≤n
 ·by_cases h1:n≤4096
  ·rw [xJ h0 h1]
   go_enter func62,ntmps62
   go_wp2
   go_ret
   exact ⟨rfl,rfl⟩
  ·have h1':4096<n:=by omega
   rw [oI (.inr h1')]
   go_enter func62,ntmps62
   go_wp2
   go_ret
   exact ⟨rfl,rfl⟩
 ·have h0':n<0:=by omega
  rw [oI (.inl h0')]
  go_enter func62,ntmps62
  go_wp2
  go_ret
  exact ⟨rfl,rfl⟩
theorem cS (h:s.size=0):s=⟨#[]⟩:=ByteArray.ext (Array.eq_empty_of_size_eq_zero (by simpa using h))
theorem aX (s:ByteArray):s.data.toList.length=s.size:=by simp
set_option maxHeartbeats 1600000 in
theorem yY (a n:Int) (s:ByteArray) (hs:s.size≤4294967296) (w:World) :
 Calls prog 34 #[.agg #[.int .i64 1,.int .i64 a,.int .i64 n,.string s]] w fun e w'=>e=.returned (.bool (rightB 1 a n s.data.toList))∧Below w.heap.size w w':=by
 rw [right1,aX]
 have hp:=fH a
 have hv:=yF s (Nat.le_trans hs (by decide))
 obtain ⟨p,aa⟩:∃ p,plB a=p:=⟨_,rfl⟩
 obtain ⟨v,ab⟩:∃ v,vldB s.data.toList=v:=⟨_,rfl⟩
 rw [aa] at hp ⊢
 rw [ab] at hv ⊢
 have HP:=hid hp;have HV:=hid hv
 clear hp hv aa ab
 by_cases n0:n=0
 ·subst n0
  by_cases h5:s.size≤512
  ·cases p <;>
   ·go_enter func34,ntmps34
    go_wp2_with fail
    refine (HP.out _).mono ?_;rintro e w' ⟨rfl,rfl⟩
    go_wp2_with (go_at_call 37;refine (HV.out _).mono ?_;rintro e w' ⟨rfl,hb⟩)
    go_ret
    first|exact ⟨aA (by simp [h5]),((Below.refl _ _).alloc (Nat.le_refl _) _).trans (hb.mono (by simp))⟩|exact ⟨aA (by simp),(Below.refl _ _).alloc (Nat.le_refl _) _⟩
  ·have h5':512<s.size:=by omega
   cases p <;>
   ·go_enter func34,ntmps34
    go_wp2_with fail
    refine (HP.out _).mono ?_;rintro e w' ⟨rfl,rfl⟩
    go_wp2
    go_ret
    exact ⟨aA (by simp;try omega),(Below.refl _ _).alloc (Nat.le_refl _) _⟩
 ·cases p <;>
  ·go_enter func34,ntmps34
   go_wp2_with fail
   refine (HP.out _).mono ?_;rintro e w' ⟨rfl,rfl⟩
   go_wp2
   go_ret
   exact ⟨aA (by simp [n0]),(Below.refl _ _).alloc (Nat.le_refl _) _⟩
set_option maxHeartbeats 1600000 in
theorem BF (a n:Int) (s:ByteArray) (w:World) :
 Calls prog 34 #[.agg #[.int .i64 2,.int .i64 a,.int .i64 n,.string s]] w fun e w'=>e=.returned (.bool (rightB 2 a n s.data.toList))∧Below w.heap.size w w':=by
 rw [right2,aX]
 have hp:=fH a
 have hq:=fH n
 obtain ⟨p,aa⟩:∃ p,plB a=p:=⟨_,rfl⟩
 obtain ⟨q,ab⟩:∃ q,plB n=q:=⟨_,rfl⟩
 rw [aa] at hp ⊢
 rw [ab] at hq ⊢
 have HP:=hid hp;have HQ:=hid hq
 clear hp hq aa ab
 have he:=aD s
 by_cases hz:s.size=0
 ·rw [cS hz]
  clear hz he
  cases p <;> cases q <;>
  ·go_enter func34,ntmps34
   go_wp2_with fail
   refine (HP.out _).mono ?_;rintro e w' ⟨rfl,rfl⟩
   go_wp2_with (go_at_call 62;refine (HQ.out _).mono ?_;rintro e w' ⟨rfl,rfl⟩)
   go_ret
   exact ⟨aA (by first|(simp;done)|(simp;rfl)),(Below.refl _ _).alloc (Nat.le_refl _) _⟩
 ·rw [decide_eq_false hz] at he ⊢
  cases p <;> cases q <;>
  ·go_enter func34,ntmps34
   go_wp2_with fail
   refine (HP.out _).mono ?_;rintro e w' ⟨rfl,rfl⟩
   go_wp2_with (go_at_call 62;refine (HQ.out _).mono ?_;rintro e w' ⟨rfl,rfl⟩)
   go_ret
   exact ⟨aA (by first|(simp;done)|simp [he]),(Below.refl _ _).alloc (Nat.le_refl _) _⟩
set_option maxHeartbeats 1600000 in
theorem uR (a n:Int) (s:ByteArray) (hs:s.size≤4294967296) (w:World) :
 Calls prog 34 #[.agg #[.int .i64 3,.int .i64 a,.int .i64 n,.string s]] w fun e w'=>e=.returned (.bool (rightB 3 a n s.data.toList))∧Below w.heap.size w w':=by
 rw [right3]
 have hp:=fH a
 have hv:=rI s hs
 obtain ⟨p,aa⟩:∃ p,plB a=p:=⟨_,rfl⟩
 obtain ⟨v,ab⟩:∃ v,markB s.data.toList=v:=⟨_,rfl⟩
 rw [aa] at hp ⊢
 rw [ab] at hv ⊢
 have HP:=hid hp;have HV:=hid hv
 clear hp hv aa ab
 by_cases n0:n=0
 ·subst n0
  cases p <;>
  ·go_enter func34,ntmps34
   go_wp2_with fail
   refine (HP.out _).mono ?_;rintro e w' ⟨rfl,rfl⟩
   go_wp2_with (go_at_call 63;refine (HV.out _).mono ?_;rintro e w' ⟨rfl,rfl⟩)
   go_ret
   exact ⟨aA (by simp),(Below.refl _ _).alloc (Nat.le_refl _) _⟩
 ·cases p <;>
  ·go_enter func34,ntmps34
   go_wp2_with fail
   refine (HP.out _).mono ?_;rintro e w' ⟨rfl,rfl⟩
   go_wp2
   go_ret
   exact ⟨aA (by simp [n0]),(Below.refl _ _).alloc (Nat.le_refl _) _⟩
set_option maxHeartbeats 1600000 in
theorem wT (a n:Int) (s:ByteArray) (hs:s.size≤4294967296) (w:World) :
 Calls prog 34 #[.agg #[.int .i64 4,.int .i64 a,.int .i64 n,.string s]] w fun e w'=>e=.returned (.bool (rightB 4 a n s.data.toList))∧Below w.heap.size w w':=by
 rw [right4]
 have hv:=rI s hs
 obtain ⟨v,aa⟩:∃ v,markB s.data.toList=v:=⟨_,rfl⟩
 rw [aa] at hv ⊢
 have HV:=hid hv
 clear hv aa
 by_cases a0:a=0
 ·subst a0
  by_cases n0:n=0
  ·subst n0
   go_enter func34,ntmps34
   go_wp2_with (go_at_call 63;refine (HV.out _).mono ?_;rintro e w' ⟨rfl,rfl⟩)
   go_ret
   exact ⟨aA (by simp),(Below.refl _ _).alloc (Nat.le_refl _) _⟩
  ·go_enter func34,ntmps34
   go_wp2
   go_ret
   exact ⟨aA (by simp [n0]),(Below.refl _ _).alloc (Nat.le_refl _) _⟩
 ·go_enter func34,ntmps34
  go_wp2
  go_ret
  exact ⟨aA (by simp [a0]),(Below.refl _ _).alloc (Nat.le_refl _) _⟩
set_option maxHeartbeats 1600000 in
theorem vJ (k a n:Int) (hk:k=5∨k=6∨k=7∨k=8) (s:ByteArray) (w:World) :
 Calls prog 34 #[.agg #[.int .i64 k,.int .i64 a,.int .i64 n,.string s]] w fun e w'=>e=.returned (.bool (rightB k a n s.data.toList))∧Below w.heap.size w w':=by
 rw [right5 (by omega) (by omega),aX]
 have he:=aD s
 by_cases a0:a=0
 ·subst a0
  by_cases n0:n=0
  ·subst n0
   by_cases hz:s.size=0
   ·rw [cS hz]
    clear hz he
    rcases hk with rfl|rfl|rfl|rfl <;>
    ·go_enter func34,ntmps34
     go_wp2
     go_ret
     exact ⟨aA (by first|(simp;done)|(simp;rfl)),(Below.refl _ _).alloc (Nat.le_refl _) _⟩
   ·rw [decide_eq_false hz] at he ⊢
    rcases hk with rfl|rfl|rfl|rfl <;>
    ·go_enter func34,ntmps34
     go_wp2
     go_ret
     exact ⟨aA (by first|(simp;done)|simp [he]),(Below.refl _ _).alloc (Nat.le_refl _) _⟩
  ·clear he
   rcases hk with rfl|rfl|rfl|rfl <;>
   ·go_enter func34,ntmps34
    go_wp2
    go_ret
    exact ⟨aA (by simp [n0]),(Below.refl _ _).alloc (Nat.le_refl _) _⟩
 ·clear he
  rcases hk with rfl|rfl|rfl|rfl <;>
  ·go_enter func34,ntmps34
   go_wp2
   go_ret
   exact ⟨aA (by simp [a0]),(Below.refl _ _).alloc (Nat.le_refl _) _⟩
set_option maxHeartbeats 1600000 in
theorem zS (k a n:Int) (hk:k<1∨8<k) (s:ByteArray) (w:World) :
 Calls prog 34 #[.agg #[.int .i64 k,.int .i64 a,.int .i64 n,.string s]] w fun e w'=>e=.returned (.bool (rightB k a n s.data.toList))∧Below w.heap.size w w':=by
 rw [eS hk]
 have h1:k≠1:=by omega
 have h2:k≠2:=by omega
 have h3:k≠3:=by omega
 have h4:k≠4:=by omega
 have h5:k≠5:=by omega
 have h6:k≠6:=by omega
 have h7:k≠7:=by omega
 have h8:k≠8:=by omega
 clear hk
 go_enter func34,ntmps34
 go_wp2
 go_ret
 exact ⟨rfl,(Below.refl _ _).alloc (Nat.le_refl _) _⟩
theorem yU (k a n:Int) (s:ByteArray) (hs:s.size≤4294967296) (w:World) :
 Calls prog 34 #[.agg #[.int .i64 k,.int .i64 a,.int .i64 n,.string s]] w fun e w'=>e=.returned (.bool (rightB k a n s.data.toList))∧Below w.heap.size w w':=by
 rcases opKinds k with rfl|rfl|rfl|rfl|g|g
 ·exact yY a n s hs w
 ·exact BF a n s w
 ·exact uR a n s hs w
 ·exact wT a n s hs w
 ·exact vJ k a n (by omega) s w
 ·exact zS k a n g s w
theorem nB (s:ByteArray) (h:k≤3) (h2:k≠2):bodyL k a n s.data.toList=UInt8.ofNat (k % 256).toNat::(leL (u64 a) 4++s.data.toList):=by
 unfold bodyL;rw [if_pos h,if_neg h2];rfl
theorem uG (a n:Int) (s:ByteArray):bodyL 2 a n s.data.toList=UInt8.ofNat ((2:Int) % 256).toNat::(leL (u64 a) 4++(leL (u64 n) 4++s.data.toList)):=rfl
theorem lA (s:ByteArray) (h:3<k):bodyL k a n s.data.toList=UInt8.ofNat (k % 256).toNat::s.data.toList:=by
 unfold bodyL;rw [if_neg (by omega),if_neg (by omega)];rfl
theorem cQ (l:List UInt8):(⟨l.toArray⟩:ByteArray).data.toList=l:=by simp
theorem jX (u:Nat):(⟨(leL u 4).toArray⟩:ByteArray).size=4:=by show (leL u 4).toArray.size=4;simp [aZ]
theorem nH (x:Int) (W:World) (b:Nat) (hb:W.heap.size=b) :
 (convert 107 9 (.slice (some ⟨b,0,none⟩) 1 1)).run prog (W.alloc (.cells #[.int .u8 x] 5))=.ok (.string (strOfNums [x])) (W.alloc (.cells #[.int .u8 x] 5)):=by
 subst hb
 exact gB [x] 1 rfl W
set_option maxHeartbeats 1600000 in
theorem FM (a n:Int) (s:ByteArray) (hs:s.size≤4294967296) (w:World) :
 Calls prog 35 #[.agg #[.int .i64 2,.int .i64 a,.int .i64 n,.string s]] w fun e w'=>e=.returned (.string ⟨(bodyL 2 a n s.data.toList).toArray⟩)∧Below w.heap.size w w':=by
 have hpa:=iR a
 have hpn:=iR n
 have za:=jX (u64 a)
 have zn:=jX (u64 n)
 have la:=cQ (leL (u64 a) 4)
 have ln:=cQ (leL (u64 n) 4)
 have HB:=hid (uG a n s)
 obtain ⟨A,hA⟩:∃ A:ByteArray,⟨(leL (u64 a) 4).toArray⟩=A:=⟨_,rfl⟩
 obtain ⟨N,hN⟩:∃ N:ByteArray,⟨(leL (u64 n) 4).toArray⟩=N:=⟨_,rfl⟩
 rw [hA] at hpa za la
 rw [hN] at hpn zn ln
 have ae:=hid hpa;have af:=hid hpn;have ag:=hid la;have ah:=hid ln
 clear hpa hpn hA hN la ln
 have hcv:=nH 2 (w.alloc (.cells #[.int .i64 2,.int .i64 a,.int .i64 n,.string s] 50)) (w.heap.size+1) (by simp)
 obtain ⟨K,hK⟩:∃ K,strOfNums [2]=K:=⟨_,rfl⟩
 have ai:K.size=1:=by rw [← hK];rfl
 have hkl:K.data.toList=[UInt8.ofNat ((2:Int) % 256).toNat]:=by rw [← hK];rfl
 rw [hK] at hcv
 have aj:=hid hkl
 clear hK hkl
 go_enter func35,ntmps35
 go_wp2_with fail
 refine (ae.out _).mono ?_;rintro e w1 ⟨rfl,aa⟩
 have hB:=Blk.new w #[.int .i64 2,.int .i64 a,.int .i64 n,.string s] 50
 have ab:=(hB.alloc (.cells #[.int .u8 2] 5)).onto aa
 obtain ⟨c0,c1,c2,c3,-,-,-,-⟩:=ab.four
 have ad:=hid aa
 clear hB hcv aa
 have am:w.heap.size+2≤w1.heap.size:=by have:=ad.out.size;simp at this;omega
 go_wp2_with fail
 refine (af.out _).mono ?_;rintro e w2 ⟨rfl,ac⟩
 have ak:=ab.onto ac
 clear c0 c1 c2 c3
 obtain ⟨c0,c1,c2,c3,-,-,-,-⟩:=ak.four
 have al:=hid ac
 clear ac ab
 have y1:(K++A).size=5:=by rw [ByteArray.size_append,ai,za]
 have y2:(K++A++N).size=9:=by rw [ByteArray.size_append,y1,zn]
 go_wp2
 go_ret
 refine ⟨lW (aI ?_),?_⟩
 ·rw [cQ,HB.out,aB,aB,aB,aj.out,ag.out,ah.out];simp
 ·exact (((Below.refl _ _).alloc (Nat.le_refl _) _).alloc (by simp) _).trans ((ad.out.mono (by simp;omega)).trans (al.out.mono (by omega)))
set_option maxHeartbeats 1600000 in
theorem GF (k a n:Int) (h3:k≤3) (h2:k≠2) (s:ByteArray) (hs:s.size≤4294967296) (w:World) :
 Calls prog 35 #[.agg #[.int .i64 k,.int .i64 a,.int .i64 n,.string s]] w fun e w'=>e=.returned (.string ⟨(bodyL k a n s.data.toList).toArray⟩)∧Below w.heap.size w w':=by
 have hpa:=iR a
 have za:=jX (u64 a)
 have la:=cQ (leL (u64 a) 4)
 have HB:=hid (nB (k:=k) (a:=a) (n:=n) s h3 h2)
 obtain ⟨A,hA⟩:∃ A:ByteArray,⟨(leL (u64 a) 4).toArray⟩=A:=⟨_,rfl⟩
 rw [hA] at hpa za la
 have ab:=hid hpa;have ac:=hid la
 clear hpa hA la
 have hcv:=nH (k % 256) (w.alloc (.cells #[.int .i64 k,.int .i64 a,.int .i64 n,.string s] 50)) (w.heap.size+1) (by simp)
 obtain ⟨K,hK⟩:∃ K,strOfNums [k % 256]=K:=⟨_,rfl⟩
 have ad:K.size=1:=by rw [← hK];rfl
 have hkl:K.data.toList=[UInt8.ofNat (k % 256).toNat]:=by rw [← hK];rfl
 rw [hK] at hcv
 have ae:=hid hkl
 clear hK hkl
 go_enter func35,ntmps35
 go_wp2_with fail
 refine (ab.out _).mono ?_;rintro e w1 ⟨rfl,aa⟩
 have hB:=Blk.new w #[.int .i64 k,.int .i64 a,.int .i64 n,.string s] 50
 have af:=(hB.alloc (.cells #[.int .u8 (k % 256)] 5)).onto aa
 obtain ⟨c0,c1,c2,c3,-,-,-,-⟩:=af.four
 have ag:=hid aa
 clear hB hcv aa
 have y1:(K++A).size=5:=by rw [ByteArray.size_append,ad,za]
 go_wp2
 go_ret
 refine ⟨lW (aI ?_),?_⟩
 ·rw [cQ,HB.out,aB,aB,ae.out,ac.out];simp
 ·exact (((Below.refl _ _).alloc (Nat.le_refl _) _).alloc (by simp) _).trans (ag.out.mono (by simp;omega))
set_option maxHeartbeats 1600000 in
theorem zR (k a n:Int) (h3:3<k) (s:ByteArray) (hs:s.size≤4294967296) (w:World) :
 Calls prog 35 #[.agg #[.int .i64 k,.int .i64 a,.int .i64 n,.string s]] w fun e w'=>e=.returned (.string ⟨(bodyL k a n s.data.toList).toArray⟩)∧Below w.heap.size w w':=by
 have h2:k≠2:=by omega
 have HB:=hid (lA (k:=k) (a:=a) (n:=n) s h3)
 have hcv:=nH (k % 256) (w.alloc (.cells #[.int .i64 k,.int .i64 a,.int .i64 n,.string s] 50)) (w.heap.size+1) (by simp)
 obtain ⟨K,hK⟩:∃ K,strOfNums [k % 256]=K:=⟨_,rfl⟩
 have ab:K.size=1:=by rw [← hK];rfl
 have hkl:K.data.toList=[UInt8.ofNat (k % 256).toNat]:=by rw [← hK];rfl
 rw [hK] at hcv
 have aa:=hid hkl
 clear hK hkl
 go_enter func35,ntmps35
 go_wp2
 go_ret
 refine ⟨lW (aI ?_),?_⟩
 ·rw [cQ,HB.out,aB,aa.out];simp
 ·exact ((Below.refl _ _).alloc (Nat.le_refl _) _).alloc (by simp) _
theorem BL (k a n:Int) (s:ByteArray) (hs:s.size≤4294967296) (w:World) :
 Calls prog 35 #[.agg #[.int .i64 k,.int .i64 a,.int .i64 n,.string s]] w fun e w'=>e=.returned (.string ⟨(bodyL k a n s.data.toList).toArray⟩)∧Below w.heap.size w w':=by
 by_cases h3:k≤3
 ·by_cases h2:k=2
  ·subst h2;exact FM a n s hs w
  ·exact GF k a n h3 h2 s hs w
 ·exact zR k a n (by omega) s hs w
def bytesR (k a n:Int) (s:ByteArray):ByteArray×Int:=if rightB k a n s.data.toList=true then (⟨(bodyL k a n s.data.toList).toArray⟩,0) else (⟨#[]⟩,2)
set_option maxHeartbeats 1600000 in
theorem AL (k a n:Int) (s:ByteArray) (hs:s.size≤4294967296) (w:World) :
 Calls prog 17 #[.agg #[.int .i64 k,.int .i64 a,.int .i64 n,.string s]] w fun e w' =>
  e=.returned (.tuple #[.string (bytesR k a n s).1,.int .i64 (bytesR k a n s).2])∧Below w.heap.size w w':=by
 have hr:=yU k a n s hs
 have hb:=BL k a n s hs
 unfold bytesR
 obtain ⟨r,ab⟩:∃ r,rightB k a n s.data.toList=r:=⟨_,rfl⟩
 obtain ⟨B,hB⟩:∃ B:ByteArray,⟨(bodyL k a n s.data.toList).toArray⟩=B:=⟨_,rfl⟩
 rw [ab] at hr ⊢
 rw [hB] at hb ⊢
 have HR:=hid hr;have HB:=hid hb
 clear hr ab hb hB
 cases r
 ·go_enter func17,ntmps17
  go_wp2_with fail
  refine (HR.out _).mono ?_;rintro e w1 ⟨rfl,aa⟩
  go_wp2
  go_ret2
  exact ⟨rfl,((Below.refl _ _).alloc (Nat.le_refl _) _).trans (aa.mono (by simp))⟩
 ·go_enter func17,ntmps17
  go_wp2_with fail
  refine (HR.out _).mono ?_;rintro e w1 ⟨rfl,aa⟩
  obtain ⟨c0,c1,c2,c3,-,-,-,-⟩:=((Blk.new w #[.int .i64 k,.int .i64 a,.int .i64 n,.string s] 50).onto aa).four
  have ac:=hid aa
  clear aa
  go_wp2_with fail
  refine (HB.out _).mono ?_;rintro e w2 ⟨rfl,ad⟩
  go_wp2
  go_ret2
  exact ⟨rfl,((Below.refl _ _).alloc (Nat.le_refl _) _).trans ((ac.out.mono (by simp)).trans (ad.mono (by have:=ac.out.size;simp at this;omega)))⟩
def rdV (r:OpRd):Value:=.tuple #[.agg #[.int .i64 r.k,.int .i64 r.a,.int .i64 r.n,.string r.s],.int .i64 r.e]
theorem eY (s:ByteArray) (h:s.size<4):getI s.data.toList 0 4=(0,false):=by
 unfold getI;rw [if_pos (by rw [aX];omega)]
theorem eP (s:ByteArray) (h:4≤s.size):getI s.data.toList 0 4=(leN s.data.toList 0 4,true):=by
 unfold getI;rw [if_neg (by rw [aX];omega)];rfl
theorem bE (h:rightB k a n s.data.toList=true):rdEnd k a n s=⟨k,a,n,s,0⟩:=by unfold rdEnd;rw [if_pos h]
theorem cY (h:rightB k a n s.data.toList=false):rdEnd k a n s=OpRd.none 5:=by unfold rdEnd;rw [if_neg (by rw [h];decide)]
theorem aH {B b:Nat} {w W:World} (h:Below B w W) (hb:B≤b) (u0 u1 u2 u3:Value) :
 Below B w ((((W.setCell ⟨b,0,none⟩ u0).setCell ⟨b,1,none⟩ u1).setCell ⟨b,2,none⟩ u2).setCell ⟨b,3,none⟩ u3):=
 (((h.setCell hb _).setCell hb _).setCell hb _).setCell hb _
theorem eV (l:List UInt8):(⟨l.toArray⟩:ByteArray).size=l.length:=by show l.toArray.size=_;simp
theorem xM (l:List UInt8) (k:Nat):(⟨l.toArray⟩:ByteArray).extract k (⟨l.toArray⟩:ByteArray).size=⟨(l.drop k).toArray⟩:=by
 refine aI ?_
 rw [aC,cQ,cQ,eV,List.take_of_length_le (by simp)]
theorem gX (s:ByteArray):(⟨s.data.toList.toArray⟩:ByteArray)=s:=aI (cQ _)
theorem iB (c:UInt8) (l:List UInt8):readR ⟨(c::l).toArray⟩=rdKind (c.toNat:Nat) ⟨l.toArray⟩:=by
 unfold readR
 have h:0<(⟨(c::l).toArray⟩:ByteArray).size:=by rw [eV];simp
 rw [dif_pos h,xM]
 rfl
theorem ET (h:plB n=true):((u64 n:Nat):Int)=n∧u64 n % 4294967296=u64 n:=by
 have:=OQ h
 unfold u64;omega
theorem lH (a:Int) (h:plB a=true) (l:List UInt8):headN ⟨(leL (u64 a) 4++l).toArray⟩=a:=by
 unfold headN
 have e:=PL [] (leL (u64 a) 4) l 4 (aZ _ _)
 rw [List.nil_append] at e
 rw [cQ]
 have e2:leN (leL (u64 a) 4++l) 0 4=leN (leL (u64 a) 4) 0 4:=e
 rw [e2,IZ,(ET h).2,(ET h).1]
theorem lN (u:Nat) (l:List UInt8):restN ⟨(leL u 4++l).toArray⟩=⟨l.toArray⟩:=by
 unfold restN
 rw [xM,List.drop_left' (aZ _ _)]
theorem EO (h:0≤k) (g:k<256):((UInt8.ofNat (k % 256).toNat).toNat:Int)=k:=by
 show (((k % 256).toNat % 256:Nat):Int)=k
 omega
theorem NL (h:rightB k a n s.data.toList=true):readR ⟨(bodyL k a n s.data.toList).toArray⟩=⟨k,a,n,s,0⟩:=by
 have hk:=AI h
 have hb:=EO (k:=k) (by omega) (by omega)
 have h0:=h
 rcases opKinds k with rfl|rfl|rfl|rfl|g|g
 ·rw [right1] at h
  simp only [Bool.and_eq_true,decide_eq_true_eq] at h
  obtain ⟨⟨hp,rfl⟩,-⟩:=h
  rw [nB s (by omega) (by omega),iB,hb]
  unfold rdKind
  rw [if_neg (by omega),if_pos (by omega),if_neg (by rw [eV];simp [aZ]),lH a hp,lN,gX]
  exact bE h0
 ·rw [right2] at h
  simp only [Bool.and_eq_true,decide_eq_true_eq] at h
  obtain ⟨⟨hp,hq⟩,hs⟩:=h
  rw [uG,iB,hb]
  unfold rdKind
  rw [if_neg (by omega),if_neg (by omega),if_pos (by omega),if_neg (by rw [eV];simp [aZ];omega),lH a hp,lN,lH n hq,lN,gX]
  exact bE h0
 ·rw [right3] at h
  simp only [Bool.and_eq_true,decide_eq_true_eq] at h
  obtain ⟨⟨hp,rfl⟩,-⟩:=h
  rw [nB s (by omega) (by omega),iB,hb]
  unfold rdKind
  rw [if_neg (by omega),if_pos (by omega),if_neg (by rw [eV];simp [aZ]),lH a hp,lN,gX]
  exact bE h0
 ·rw [right4] at h
  simp only [Bool.and_eq_true,decide_eq_true_eq] at h
  obtain ⟨⟨rfl,rfl⟩,-⟩:=h
  rw [lA s (by omega),iB,hb]
  unfold rdKind
  rw [if_neg (by omega),if_neg (by omega),if_neg (by omega),gX]
  exact bE h0
 ·rw [right5 g.1 g.2] at h
  simp only [Bool.and_eq_true,decide_eq_true_eq] at h
  obtain ⟨⟨rfl,rfl⟩,-⟩:=h
  rw [lA s (by omega),iB,hb]
  unfold rdKind
  rw [if_neg (by omega),if_neg (by omega),if_neg (by omega),gX]
  exact bE h0
 ·omega
end Go.Proofs.YtbagenpobcgjnaaGreat
