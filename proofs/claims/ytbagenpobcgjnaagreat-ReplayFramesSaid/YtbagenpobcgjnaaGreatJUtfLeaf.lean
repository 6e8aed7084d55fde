/-
  Joined: UtfLeaf, UtfTake, Conv, UtfPut, UtfEdge, UtfLives, UtfBack, UtfDecode, LawPuts, UtfNumber, NumRef.
-/
import Derived.Test.YtbagenpobcgjnaaGreatRows
import Derived.Test.YtbagenpobcgjnaaGreatJUtfMath
open Go renaming Calls->zp,World->zo,maxLen->zt,strOfNums->zw
open Go.Ending renaming returned->zq
open Go.IntKind renaming i64->zn
open Go.Lib renaming hid->zm
open Go.RowKit renaming Below->Ae,intOf->zv
open Go.Utf8 renaming decode->Ap,encode->Ag,valid->zx
open Go.Value renaming bool->zu,int->zk,ownBlock->An,string->zr,tuple->zy
open Int renaming eq_ofNat_of_zero_le->Ai,not_lt->Ao,toNat_natCast->Af
open List renaming getD_cons_succ->Al,getD_cons_zero->Aj,map_cons->Aa,map_nil->Ab
open Nat renaming le_refl->Ad,lt_or_ge->Ak,not_lt->Am
open Prod.mk renaming injEq->zz
namespace Go.Proofs.YtbagenpobcgjnaaGreat
open Go.Proofs.Tryz
set_option maxRecDepth 100000
open Go.RowKit
set_option maxHeartbeats 400000 in
theorem wG (c:Int) (w:zo) :
 zp prog 186 #[zk .i32 c] w fun e w'=>e=zq (zk zn (sz c))∧w=w':=by
 by_cases h0:c<0
 ·go_enter func186,ntmps186;go_wp2;go_ret;exact ⟨aM (by unfold sz;rw [if_pos lg];rfl),rfl⟩
 by_cases h1:1114111<c
 ·go_enter func186,ntmps186;go_wp2;go_ret;exact ⟨aM (by unfold sz;rw [if_pos lg];rfl),rfl⟩
 by_cases h2:c<128
 ·go_enter func186,ntmps186;go_wp2;go_ret;exact ⟨aM (by unfold sz;rw [if_neg lg,if_pos lg];rfl),rfl⟩
 by_cases h3:c<2048
 ·go_enter func186,ntmps186;go_wp2;go_ret;exact ⟨aM (by unfold sz;rw [if_neg lg,if_neg lg,if_pos lg];rfl),rfl⟩
 by_cases h4:55296≤c
 ·by_cases h5:c≤57343
  ·go_enter func186,ntmps186;go_wp2;go_ret;exact ⟨aM (by unfold sz;rw [if_pos lg];rfl),rfl⟩
  by_cases h6:c<65536
  ·go_enter func186,ntmps186;go_wp2;go_ret;exact ⟨aM (by unfold sz;rw [if_neg lg,if_neg lg,if_neg lg,if_pos lg];rfl),rfl⟩
  ·go_enter func186,ntmps186;go_wp2;go_ret;exact ⟨aM (by unfold sz;rw [if_neg lg,if_neg lg,if_neg lg,if_neg lg];rfl),rfl⟩
 ·have h6:c<65536:=lg;go_enter func186,ntmps186;go_wp2;go_ret;exact ⟨aM (by unfold sz;rw [if_neg lg,if_neg lg,if_neg lg,if_pos lg];rfl),rfl⟩
theorem kV (b:Nat) (h1:128≤b) (h2:b≤191) (w:zo) :
 zp prog 135 #[zk .u8 b] w fun e w'=>e=zq (zu true)∧w=w':=by
 go_enter func135,ntmps135;go_wp2;go_ret;exact ⟨lr,rfl⟩
theorem lZ (b:Nat) (h:¬ (128≤b∧b≤191)) (w:zo) :
 zp prog 135 #[zk .u8 b] w fun e w'=>e=zq (zu false)∧w=w':=by
 by_cases h1:128≤b
 ·have h2:¬ b≤191:=lg;clear h;go_enter func135,ntmps135;go_wp2;go_ret;exact ⟨lr,rfl⟩
 ·clear h;go_enter func135,ntmps135;go_wp2;go_ret;exact ⟨rfl,rfl⟩
theorem TK (b:Nat) (h1:128≤b) (h2:b≤191) (w:zo) :
 zp prog 99 #[zk .u8 b] w fun e w'=>e=zq (zu true)∧w=w':=by
 go_enter func99,ntmps99;go_wp2;go_ret;exact ⟨lr,rfl⟩
theorem US (b:Nat) (h:¬ (128≤b∧b≤191)) (w:zo) :
 zp prog 99 #[zk .u8 b] w fun e w'=>e=zq (zu false)∧w=w':=by
 by_cases h1:128≤b
 ·have h2:¬ b≤191:=lg;clear h;go_enter func99,ntmps99;go_wp2;go_ret;exact ⟨lr,rfl⟩
 ·clear h;go_enter func99,ntmps99;go_wp2;go_ret;exact ⟨rfl,rfl⟩
set_option maxHeartbeats 400000 in
theorem TU (b:Nat) (h:b<128) (w:zo) :
 zp prog 185 #[zk .u8 b] w fun e w'=>e=zq (zy #[zk .i32 (ld b).1,zk zn (ld b).2])∧w=w':=by
 have e0:ld b=(b,1):=by unfold ld;rw [if_pos h]
 rw [e0];clear e0;go_enter func185,ntmps185;go_wp2;go_ret2;exact ⟨li,rfl⟩
set_option maxHeartbeats 400000 in
theorem RV (b:Nat) (h:128≤b) (h':b<192) (w:zo) :
 zp prog 185 #[zk .u8 b] w fun e w'=>e=zq (zy #[zk .i32 (ld b).1,zk zn (ld b).2])∧w=w':=by
 have e0:ld b=(0,0):=by unfold ld;rw [if_neg lg,if_pos lg]
 rw [e0];clear e0;go_enter func185,ntmps185;go_wp2;go_ret2;exact ⟨li,rfl⟩
set_option maxHeartbeats 400000 in
theorem SQ (b:Nat) (h:192≤b) (h':b<224) (w:zo) :
 zp prog 185 #[zk .u8 b] w fun e w'=>e=zq (zy #[zk .i32 (ld b).1,zk zn (ld b).2])∧w=w':=by
 have e0:ld b=(b % 32,2):=by unfold ld;rw [if_neg lg,if_neg lg,if_pos lg]
 rw [e0];clear e0;go_enter func185,ntmps185;go_wp2;go_ret2;exact ⟨li,rfl⟩
set_option maxHeartbeats 400000 in
theorem TC (b:Nat) (h:224≤b) (h':b<240) (w:zo) :
 zp prog 185 #[zk .u8 b] w fun e w'=>e=zq (zy #[zk .i32 (ld b).1,zk zn (ld b).2])∧w=w':=by
 have e0:ld b=(b % 16,3):=by unfold ld;rw [if_neg lg,if_neg lg,if_neg lg,if_pos lg]
 rw [e0];clear e0;go_enter func185,ntmps185;go_wp2;go_ret2;exact ⟨li,rfl⟩
set_option maxHeartbeats 400000 in
theorem UA (b:Nat) (h:240≤b) (h':b<248) (w:zo) :
 zp prog 185 #[zk .u8 b] w fun e w'=>e=zq (zy #[zk .i32 (ld b).1,zk zn (ld b).2])∧w=w':=by
 have e0:ld b=(b % 8,4):=by unfold ld;rw [if_neg lg,if_neg lg,if_neg lg,if_neg lg,if_pos lg]
 rw [e0];clear e0;go_enter func185,ntmps185;go_wp2;go_ret2;exact ⟨li,rfl⟩
set_option maxHeartbeats 400000 in
theorem SH (b:Nat) (h:248≤b) (h':b<256) (w:zo) :
 zp prog 185 #[zk .u8 b] w fun e w'=>e=zq (zy #[zk .i32 (ld b).1,zk zn (ld b).2])∧w=w':=by
 have e0:ld b=(0,0):=by unfold ld;rw [if_neg lg,if_neg lg,if_neg lg,if_neg lg,if_neg lg]
 rw [e0];clear e0;go_enter func185,ntmps185;go_wp2;go_ret2;exact ⟨li,rfl⟩
theorem NM (b:Nat) (hb:b<256) (w:zo) :
 zp prog 185 #[zk .u8 b] w fun e w'=>e=zq (zy #[zk .i32 (ld b).1,zk zn (ld b).2])∧w=w':=by
 by_cases h1:b<128
 ·exact TU b h1 w
 by_cases h2:b<192
 ·exact RV b lg h2 w
 by_cases h3:b<224
 ·exact SQ b lg h3 w
 by_cases h4:b<240
 ·exact TC b lg h4 w
 by_cases h5:b<248
 ·exact UA b lg h5 w
 ·exact SH b lg hb w
open Lib (hid)
def OnUp (l:List UInt8) (k j:Nat):Prop:=∀ m,m<j→128≤bt l (k+1+m)∧bt l (k+1+m)≤191
theorem IR (l:List UInt8) (k:Nat):OnUp l k 0:=fun m h=>absurd h (Nat.not_lt_zero m)
theorem IB {l:List UInt8} {k j:Nat} (h:OnUp l k j) (g:128≤bt l (k+1+j)∧bt l (k+1+j)≤191):OnUp l k (j+1):=fun m hm=>by
 by_cases e:m=j
 ·subst e;exact g
 ·exact h m lg
set_option maxHeartbeats 400000 in
theorem NA (s:ByteArray) (hs:s.size≤zt) (k:Nat) (hk:k<s.size) (w:zo) (r m:Nat) (hR0:px (s.data.toList.drop k)=(r,m)) :
 zp prog 159 #[zr s,zk zn k] w fun e w'=>e=zq (zy #[zk .i32 r,zk zn m])∧w=w':=by
 unfold zt at hs;have hlen:s.data.toList.length=s.size:=li;have L:=NM (s[k].toNat) s[k].toNat_lt;have hb:=bD s k hk;have hld:=UT (s[k].toNat);obtain ⟨v,n,hvn⟩:∃ v n,ld (s[k].toNat)=(v,n):=⟨_,_,rfl⟩;rw [hvn] at L hld;simp only at L hld;obtain ⟨ab,hv⟩:=hld;have HL:=zm L;clear L;have HR:=zm hR0;clear hR0;by_cases h0:n=0
 ·have hr:px (s.data.toList.drop k)=(0,0):=JL _ _ lg (by rw [hb,hvn];exact h0);rw [HR.out] at hr;simp only [zz] at hr;obtain ⟨rfl,rfl⟩:=hr;subst h0;clear hb hvn hlen;go_enter func159,ntmps159;go_wp2_with (go_at_call 185;refine (HL.out _).mono ?_;rintro e w' ⟨rfl,rfl⟩);go_ret2;exact ⟨rfl,rfl⟩
 ·by_cases hsh:s.size<k+n
  ·have hr:px (s.data.toList.drop k)=(0,0):=DI _ _ lg (by rw [hb,hvn,hlen];exact hsh);rw [HR.out] at hr;simp only [zz] at hr;obtain ⟨rfl,rfl⟩:=hr;clear hb hvn hlen;have hz:((n:Int) == 0)=false:=lr;go_enter func159,ntmps159;go_wp2_with (go_at_call 185;refine (HL.out _).mono ?_;rintro e w' ⟨rfl,rfl⟩);go_ret2;exact ⟨rfl,rfl⟩
  ·have hz:((n:Int) == 0)=false:=lr;have HB:=zm hb;clear hb;have HV:=zm hvn;clear hvn;have HN:=zm hlen;clear hlen;go_enter func159,ntmps159;go_wp2_with (go_at_call 185;refine (HL.out _).mono ?_;rintro e w' ⟨rfl,rfl⟩)
   go_loop [6,37] (fun c i=>∃ j:Nat,j+1≤n∧i=zk zn j∧c=zk .i32 (ti s.data.toList k v j)∧OnUp s.data.toList k j) (fun _ i=>n - (zv i).toNat)
   case atStart=>exact ⟨0,lg,rfl,rfl,IR _ _⟩
   case round =>
    obtain ⟨j,hj,rfl,rfl,hon⟩:=hrel;by_cases hlt:j+1<n
    ·have hi:k+1+j<s.size:=lg;have hbj:=bD s (k+1+j) hi;have hac:ti s.data.toList k v j<32768:=by
      have h1:=LF s.data.toList k j;rw [HB.out,HV.out] at h1;exact h1 hlt
     have aa:=s[k+1+j].toNat_lt;obtain ⟨ac,ha⟩:∃ ac,ti s.data.toList k v j=ac:=⟨_,rfl⟩;rw [ha] at hac ⊢;have HA:=zm ha;clear ha;have HJ:=zm hbj;clear hbj;by_cases h1:128≤s[k+1+j].toNat∧s[k+1+j].toNat≤191
     ·obtain ⟨h1,h2⟩:=h1;go_wp2_with (go_at_call 135;refine (kV _ h1 h2 _).mono ?_;rintro e w' ⟨rfl,rfl⟩)
      go_round
      case rel =>
       refine ⟨j+1,lg,by go_num,?_,IB hon (by rw [HJ.out];exact ⟨h1,h2⟩)⟩;rw [show ti s.data.toList k v (j+1)=ti s.data.toList k v j * 64+bt s.data.toList (k+1+j) % 64 from rfl,HA.out,HJ.out]
       go_num
      case measure=>simp [zv];omega
     ·have hr:px (s.data.toList.drop k)=(0,0):=xA _ k j (by rw [HN.out];omega) (by rw [HB.out,HV.out];exact hlt) (by rw [HJ.out];exact h1);rw [HR.out] at hr;simp only [zz] at hr;have HX:=zm hr;clear hr;have H1:=zm h1;clear h1;go_wp2_with (go_at_call 135;refine (lZ _ H1.out _).mono ?_;rintro e w' ⟨rfl,rfl⟩);go_ret2;exact ⟨gT (by rw [HX.out.1];rfl) (by rw [HX.out.2];rfl),rfl⟩
    ·obtain rfl:n=j+1:=lg;have hall:=NK s.data.toList k (by rw [HN.out];exact hk) (by rw [HB.out,HV.out];simp) (by rw [HB.out,HV.out];exact fun m hm=>hon m (by simp at hm;exact hm));rw [HB.out,HV.out] at hall;simp only [Nat.add_sub_cancel] at hall;obtain ⟨ac,ha⟩:∃ ac,ti s.data.toList k v j=ac:=⟨_,rfl⟩;rw [ha] at hall ⊢;rw [HR.out] at hall;clear hon ha;by_cases hsz:sz (ac:Int)=j+1
     ·rw [if_pos hsz] at hall;simp only [zz] at hall;have HX:=zm hall;clear hall;have HS:=zm hsz;clear hsz;have hne:((sz (ac:Int):Int) != (j:Int)+1)=false:=by rw [HS.out];simp
      go_wp2_with (go_at_call 186;refine (wG _ _).mono ?_;rintro e w' ⟨rfl,rfl⟩);go_ret2;exact ⟨gT (by rw [HX.out.1]) (by rw [HX.out.2];simp),rfl⟩
     ·rw [if_neg hsz] at hall;simp only [zz] at hall;have HX:=zm hall;clear hall;have hne:((sz (ac:Int):Int) != (j:Int)+1)=true:=lr;clear hsz;go_wp2_with (go_at_call 186;refine (wG _ _).mono ?_;rintro e w' ⟨rfl,rfl⟩);go_ret2;exact ⟨gT (by rw [HX.out.1];rfl) (by rw [HX.out.2];rfl),rfl⟩
theorem kM (xs:List Int) (n:Nat) (hn:xs.length=n) (w:zo) :
 (convert 107 9 (.slice (some ⟨w,0,none⟩) n n)).run prog (w.alloc (.cells (xs.map (zk .u8)).toArray 5))=.ok (zr (zw xs)) (w.alloc (.cells (xs.map (zk .u8)).toArray 5)):=by
 refine run_convert_bytes_arg _ 107 5 underlying107 underlying5 _ 0 n n xs hn (fun i hi=>?_) 9 underlying9;rw [Nat.zero_add,World.cell?_alloc_new];simp [List.getD_eq_getElem?_getD,List.getElem?_eq_getElem (show i<xs.length by omega)]
theorem aB {w:zo} {base e size n:Nat} {v:Value} {xs:List Value} (h:w.ownsRow base e size v n xs):∀ k,v.ownBlock=some k→base≤k:=by
 intro k hk;rcases h.2 with ⟨rfl,_⟩|⟨g,cap,cur,rfl,hb,_⟩
 ·simp [An] at hk
 ·simp [An] at hk;omega
def ry (c:Int):ByteArray:=if sz c=0 then ⟨#[]⟩ else Ag c
theorem pY (c:Int) (h0:0≤c) (h1:c≤1114111) (h2:c<55296∨57343<c) (w:zo) :
 zp prog 156 #[zk zn c] w fun e w'=>e=zq (zu true)∧w=w':=by
 by_cases h3:55296≤c
 ·have h4:¬ c≤57343:=lg;clear h2;go_enter func156,ntmps156;go_wp2;go_ret;exact ⟨li,rfl⟩
 ·clear h2;go_enter func156,ntmps156;go_wp2;go_ret;exact ⟨li,rfl⟩
theorem UQ (c:Int) (h:c<0∨1114111<c∨(55296≤c∧c≤57343)) (w:zo) :
 zp prog 156 #[zk zn c] w fun e w'=>e=zq (zu false)∧w=w':=by
 by_cases h0:c<0
 ·clear h;go_enter func156,ntmps156;go_wp2;go_ret;exact ⟨rfl,rfl⟩
 by_cases h1:1114111<c
 ·clear h;have h1':¬ c≤1114111:=lg;go_enter func156,ntmps156;go_wp2;go_ret;exact ⟨li,rfl⟩
 ·have h2:55296≤c:=lg;have h3:c≤57343:=lg;clear h;go_enter func156,ntmps156;go_wp2;go_ret;exact ⟨li,rfl⟩
theorem gN (c:Int) (h0:sz c≠0) (w:zo) :
 zp prog 157 #[zk zn c] w fun e w'=>e=zq (zk zn (sz c))∧w=w':=by
 by_cases hb:c<0∨1114111<c∨(55296≤c∧c≤57343)
 ·exact absurd (by unfold sz;rw [if_pos hb]) h0
 clear h0;by_cases h1:c<128
 ·have e:sz c=1:=by unfold sz;rw [if_neg hb,if_pos h1]
  rw [e];clear e hb;go_enter func157,ntmps157;go_wp2;go_ret;exact ⟨rfl,rfl⟩
 by_cases h2:c<2048
 ·have e:sz c=2:=by unfold sz;rw [if_neg hb,if_neg h1,if_pos h2]
  rw [e];clear e hb;go_enter func157,ntmps157;go_wp2;go_ret;exact ⟨rfl,rfl⟩
 by_cases h3:c<65536
 ·have e:sz c=3:=by unfold sz;rw [if_neg hb,if_neg h1,if_neg h2,if_pos h3]
  rw [e];clear e hb;go_enter func157,ntmps157;go_wp2;go_ret;exact ⟨rfl,rfl⟩
 ·have e:sz c=4:=by unfold sz;rw [if_neg hb,if_neg h1,if_neg h2,if_neg h3]
  rw [e];clear e hb;go_enter func157,ntmps157;go_wp2;go_ret;exact ⟨rfl,rfl⟩
theorem xH (c:Int) (h:0≤c) (h':c<128):ry c=zw [c]:=by
 have hs:sz c=1:=by unfold sz;rw [if_neg lg,if_pos lg]
 have hv:zx c=true:=by unfold zx;simp;omega
 unfold ry Ag;rw [hs,if_neg lg,if_pos hv];simp only [];rw [if_pos lg];simp only [zw,Aa,Ab]
set_option maxHeartbeats 400000 in
theorem UD (c:Int) (h:0≤c) (h':c<128) (w:zo) :
 zp prog 127 #[zk .i32 c] w fun e w'=>e=zq (zr (ry c))∧Ae w w w':=by
 have hs:sz c=1:=by unfold sz;rw [if_neg lg,if_pos lg]
 have ho:=gN c lg;rw [hs] at ho;rw [xH c h h'];have HO:=zm ho;clear ho;clear hs;have hk:=pY c lg lg lg;have HK:=zm hk;clear hk;have hcv:∀ x:Int,_:=fun x=>kM [x] 1 rfl w;simp only [Aa,Ab] at hcv;go_enter func127,ntmps127;go_wp2_with (first|(go_at_call 156;refine (HK.out _).mono ?_;rintro e w' ⟨rfl,rfl⟩)|(go_at_call 157;refine (HO.out _).mono ?_;rintro e w' ⟨rfl,rfl⟩));go_ret;exact ⟨rfl,(Below.refl _ _).alloc (Ad _) _⟩
theorem vH (c:Int) (h:128≤c) (h':c<2048):ry c=zw [192+c / 64,128+c % 64]:=by
 have hs:sz c=2:=by unfold sz;rw [if_neg lg,if_neg lg,if_pos lg]
 have hv:zx c=true:=by unfold zx;simp;omega
 unfold ry Ag;rw [hs,if_neg lg,if_pos hv];simp only [];rw [if_neg lg,if_pos lg];simp only [zw,Aa,Ab,show (192+c / 64).toNat=192+c.toNat / 64 by omega,show (128+c % 64).toNat=128+c.toNat % 64 by omega]
set_option maxHeartbeats 400000 in
theorem TE (c:Int) (h:128≤c) (h':c<2048) (w:zo) :
 zp prog 127 #[zk .i32 c] w fun e w'=>e=zq (zr (ry c))∧Ae w w w':=by
 have hs:sz c=2:=by unfold sz;rw [if_neg lg,if_neg lg,if_pos lg]
 have ho:=gN c lg;rw [hs] at ho;rw [vH c h h'];have HO:=zm ho;clear ho;clear hs;have hk:=pY c lg lg lg;have HK:=zm hk;clear hk;have hcv:∀ x y:Int,_:=fun x y=>kM [x,y] 2 rfl w;simp only [Aa,Ab] at hcv;go_enter func127,ntmps127;go_wp2_with (first|(go_at_call 156;refine (HK.out _).mono ?_;rintro e w' ⟨rfl,rfl⟩)|(go_at_call 157;refine (HO.out _).mono ?_;rintro e w' ⟨rfl,rfl⟩));go_ret;exact ⟨rfl,(Below.refl _ _).alloc (Ad _) _⟩
theorem yA (c:Int) (h:2048≤c) (h':c<65536) (hg:c<55296∨57343<c):ry c=zw [224+c / 4096,128+c / 64 % 64,128+c % 64]:=by
 have hs:sz c=3:=by unfold sz;rw [if_neg lg,if_neg lg,if_neg lg,if_pos lg]
 have hv:zx c=true:=by unfold zx;simp;omega
 unfold ry Ag;rw [hs,if_neg lg,if_pos hv];simp only [];rw [if_neg lg,if_neg lg,if_pos lg];simp only [zw,Aa,Ab,show (224+c / 4096).toNat=224+c.toNat / 4096 by omega,show (128+c / 64 % 64).toNat=128+c.toNat / 64 % 64 by omega,show (128+c % 64).toNat=128+c.toNat % 64 by omega]
set_option maxHeartbeats 400000 in
theorem TS (c:Int) (h:2048≤c) (h':c<65536) (hg:c<55296∨57343<c) (w:zo) :
 zp prog 127 #[zk .i32 c] w fun e w'=>e=zq (zr (ry c))∧Ae w w w':=by
 have hs:sz c=3:=by unfold sz;rw [if_neg lg,if_neg lg,if_neg lg,if_pos lg]
 have ho:=gN c lg;rw [hs] at ho;rw [yA c h h' hg];have HO:=zm ho;clear ho;clear hs;have hk:=pY c lg lg lg;have HK:=zm hk;clear hk;have hcv:∀ x y z:Int,_:=fun x y z=>kM [x,y,z] 3 rfl w;simp only [Aa,Ab] at hcv;go_enter func127,ntmps127;go_wp2_with (first|(go_at_call 156;refine (HK.out _).mono ?_;rintro e w' ⟨rfl,rfl⟩)|(go_at_call 157;refine (HO.out _).mono ?_;rintro e w' ⟨rfl,rfl⟩));go_ret;exact ⟨rfl,(Below.refl _ _).alloc (Ad _) _⟩
theorem xZ (c:Int) (h:65536≤c) (h':c≤1114111):ry c=zw [240+c / 262144,128+c / 4096 % 64,128+c / 64 % 64,128+c % 64]:=by
 have hs:sz c=4:=by unfold sz;rw [if_neg lg,if_neg lg,if_neg lg,if_neg lg]
 have hv:zx c=true:=by unfold zx;simp;omega
 unfold ry Ag;rw [hs,if_neg lg,if_pos hv];simp only [];rw [if_neg lg,if_neg lg,if_neg lg];simp only [zw,Aa,Ab,show (240+c / 262144).toNat=240+c.toNat / 262144 by omega,show (128+c / 4096 % 64).toNat=128+c.toNat / 4096 % 64 by omega,show (128+c / 64 % 64).toNat=128+c.toNat / 64 % 64 by omega,show (128+c % 64).toNat=128+c.toNat % 64 by omega]
set_option maxHeartbeats 400000 in
theorem UF (c:Int) (h:65536≤c) (h':c≤1114111) (w:zo) :
 zp prog 127 #[zk .i32 c] w fun e w'=>e=zq (zr (ry c))∧Ae w w w':=by
 have hs:sz c=4:=by unfold sz;rw [if_neg lg,if_neg lg,if_neg lg,if_neg lg]
 have ho:=gN c lg;rw [hs] at ho;rw [xZ c h h'];have HO:=zm ho;clear ho;clear hs;have hk:=pY c lg lg lg;have HK:=zm hk;clear hk;have hcv:∀ x y z u:Int,_:=fun x y z u=>kM [x,y,z,u] 4 rfl w;simp only [Aa,Ab] at hcv;go_enter func127,ntmps127;go_wp2_with (first|(go_at_call 156;refine (HK.out _).mono ?_;rintro e w' ⟨rfl,rfl⟩)|(go_at_call 157;refine (HO.out _).mono ?_;rintro e w' ⟨rfl,rfl⟩));go_ret;exact ⟨rfl,(Below.refl _ _).alloc (Ad _) _⟩
set_option maxHeartbeats 400000 in
theorem SV (c:Int) (b0:-2147483648≤c) (b1:c≤2147483647) (h:c<0∨1114111<c∨(55296≤c∧c≤57343)) (w:zo) :
 zp prog 127 #[zk .i32 c] w fun e w'=>e=zq (zr (ry c))∧Ae w w w':=by
 have hs:sz c=0:=by unfold sz;rw [if_pos h]
 have e:ry c=⟨#[]⟩:=by unfold ry;rw [if_pos hs]
 rw [e];clear e hs;have hk:=UQ c h;have HK:=zm hk;clear hk h;go_enter func127,ntmps127;go_wp2_with (go_at_call 156;refine (HK.out _).mono ?_;rintro e w' ⟨rfl,rfl⟩);go_ret;exact ⟨rfl,Below.refl _ _⟩
theorem yI (c:Int) (b0:-2147483648≤c) (b1:c≤2147483647) (w:zo) :
 zp prog 127 #[zk .i32 c] w fun e w'=>e=zq (zr (ry c))∧Ae w w w':=by
 by_cases h0:c<0∨1114111<c∨(55296≤c∧c≤57343)
 ·exact SV c b0 b1 h0 w
 by_cases h1:c<128
 ·exact UD c lg h1 w
 by_cases h2:c<2048
 ·exact TE c lg h2 w
 by_cases h3:c<65536
 ·exact TS c lg h3 lg w
 ·exact UF c lg lg w
def me (l:List UInt8) (p:Int):Bool:=decide (0≤p∧o6 l p.toNat)
theorem jY (s:ByteArray) (hs:s.size≤zt) (k:Nat) (h:o6 s.data.toList k) (w:zo) :
 zp prog 107 #[zr s,zk zn k] w fun e w'=>e=zq (zu true)∧w=w':=by
 unfold zt at hs;have hlen:s.data.toList.length=s.size:=li;unfold o6 at h;rw [hlen] at h;by_cases h0:k=0
 ·clear h hlen;subst h0;go_enter func107,ntmps107;go_wp2;go_ret;exact ⟨li,rfl⟩
 have hz:((k:Int) == 0)=false:=lr;by_cases h1:k=s.size
 ·have aa:((k:Int) == (s.size:Int))=true:=lr;have hle:k≤s.size:=lg;have hge:s.size≤k:=lg;clear h hlen h1;go_enter func107,ntmps107;go_wp2;go_ret;exact ⟨li,rfl⟩
 ·have aa:((k:Int) == (s.size:Int))=false:=lr;obtain ⟨hk,hb⟩:k<s.size∧¬ (128≤bt s.data.toList k∧bt s.data.toList k≤191):=by
   rcases h with h|h|h
   ·exact absurd h h0
   ·exact absurd h h1
   ·exact h
  rw [bD s k hk] at hb;have HB:=zm hb;clear h hlen h1 h0 hb;go_enter func107,ntmps107;go_wp2_with (go_at_call 135;refine (lZ _ HB.out _).mono ?_;rintro e w' ⟨rfl,rfl⟩);go_ret;exact ⟨li,rfl⟩
theorem nF (s:ByteArray) (hs:s.size≤zt) (k:Nat) (hk:k<s.size) (h:¬ o6 s.data.toList k) (w:zo) :
 zp prog 107 #[zr s,zk zn k] w fun e w'=>e=zq (zu false)∧w=w':=by
 unfold zt at hs;have hlen:s.data.toList.length=s.size:=li;unfold o6 at h;rw [hlen,bD s k hk] at h;have hz:((k:Int) == 0)=false:=lr;have aa:((k:Int) == (s.size:Int))=false:=lr;have h1:128≤s[k].toNat:=lg;have h2:s[k].toNat≤191:=lg;clear h hlen;go_enter func107,ntmps107;go_wp2_with (go_at_call 135;refine (kV _ h1 h2 _).mono ?_;rintro e w' ⟨rfl,rfl⟩);go_ret;exact ⟨li,rfl⟩
theorem OD (s:ByteArray) (p:Int) (h:p<0∨(s.size:Int)<p) (w:zo) :
 zp prog 107 #[zr s,zk zn p] w fun e w'=>e=zq (zu false)∧w=w':=by
 by_cases h0:p<0
 ·clear h;go_enter func107,ntmps107;go_wp2;go_ret;exact ⟨rfl,rfl⟩
 ·have h1:(s.size:Int)<p:=lg;clear h;go_enter func107,ntmps107;go_wp2;go_ret;exact ⟨rfl,rfl⟩
theorem oX (s:ByteArray) (hs:s.size≤zt) (p:Int) (w:zo) :
 zp prog 107 #[zr s,zk zn p] w fun e w'=>e=zq (zu (me s.data.toList p))∧w=w':=by
 have hlen:s.data.toList.length=s.size:=li;by_cases h:p<0∨(s.size:Int)<p
 ·have e:me s.data.toList p=false:=by
   unfold me;rw [decide_eq_false_iff_not];unfold o6;rw [hlen];omega
  rw [e];exact OD s p h w
 obtain ⟨k,rfl⟩:=Ai (show 0≤p by omega);by_cases hE:o6 s.data.toList k
 ·have e:me s.data.toList k=true:=by unfold me;rw [Af];simp [hE]
  rw [e];exact jY s hs k hE w
 ·have e:me s.data.toList k=false:=by unfold me;rw [Af];simp [hE]
  rw [e];exact nF s hs k (by unfold o6 at hE;rw [hlen] at hE;omega) hE w
theorem LX (s:ByteArray) (hs:s.size≤zt) (k:Nat) (h:o6 s.data.toList k) (w:zo) :
 zp prog 66 #[zr s,zk zn k] w fun e w'=>e=zq (zu true)∧w=w':=by
 unfold zt at hs;have hlen:s.data.toList.length=s.size:=li;unfold o6 at h;rw [hlen] at h;by_cases h0:k=0
 ·clear h hlen;subst h0;go_enter func66,ntmps66;go_wp2;go_ret;exact ⟨li,rfl⟩
 have hz:((k:Int) == 0)=false:=lr;by_cases h1:k=s.size
 ·have aa:((k:Int) == (s.size:Int))=true:=lr;have hle:k≤s.size:=lg;have hge:s.size≤k:=lg;clear h hlen h1;go_enter func66,ntmps66;go_wp2;go_ret;exact ⟨li,rfl⟩
 ·have aa:((k:Int) == (s.size:Int))=false:=lr;obtain ⟨hk,hb⟩:k<s.size∧¬ (128≤bt s.data.toList k∧bt s.data.toList k≤191):=by
   rcases h with h|h|h
   ·exact absurd h h0
   ·exact absurd h h1
   ·exact h
  rw [bD s k hk] at hb;have HB:=zm hb;clear h hlen h1 h0 hb;go_enter func66,ntmps66;go_wp2_with (go_at_call 99;refine (US _ HB.out _).mono ?_;rintro e w' ⟨rfl,rfl⟩);go_ret;exact ⟨li,rfl⟩
theorem NL (s:ByteArray) (hs:s.size≤zt) (k:Nat) (hk:k<s.size) (h:¬ o6 s.data.toList k) (w:zo) :
 zp prog 66 #[zr s,zk zn k] w fun e w'=>e=zq (zu false)∧w=w':=by
 unfold zt at hs;have hlen:s.data.toList.length=s.size:=li;unfold o6 at h;rw [hlen,bD s k hk] at h;have hz:((k:Int) == 0)=false:=lr;have aa:((k:Int) == (s.size:Int))=false:=lr;have h1:128≤s[k].toNat:=lg;have h2:s[k].toNat≤191:=lg;clear h hlen;go_enter func66,ntmps66;go_wp2_with (go_at_call 99;refine (TK _ h1 h2 _).mono ?_;rintro e w' ⟨rfl,rfl⟩);go_ret;exact ⟨li,rfl⟩
theorem II (s:ByteArray) (p:Int) (h:p<0∨(s.size:Int)<p) (w:zo) :
 zp prog 66 #[zr s,zk zn p] w fun e w'=>e=zq (zu false)∧w=w':=by
 by_cases h0:p<0
 ·clear h;go_enter func66,ntmps66;go_wp2;go_ret;exact ⟨rfl,rfl⟩
 ·have h1:(s.size:Int)<p:=lg;clear h;go_enter func66,ntmps66;go_wp2;go_ret;exact ⟨rfl,rfl⟩
theorem bV (s:ByteArray) (hs:s.size≤zt) (p:Int) (w:zo) :
 zp prog 66 #[zr s,zk zn p] w fun e w'=>e=zq (zu (me s.data.toList p))∧w=w':=by
 have hlen:s.data.toList.length=s.size:=li;by_cases h:p<0∨(s.size:Int)<p
 ·have e:me s.data.toList p=false:=by
   unfold me;rw [decide_eq_false_iff_not];unfold o6;rw [hlen];omega
  rw [e];exact II s p h w
 obtain ⟨k,rfl⟩:=Ai (show 0≤p by omega);by_cases hE:o6 s.data.toList k
 ·have e:me s.data.toList k=true:=by unfold me;rw [Af];simp [hE]
  rw [e];exact LX s hs k hE w
 ·have e:me s.data.toList k=false:=by unfold me;rw [Af];simp [hE]
  rw [e];exact NL s hs k (by unfold o6 at hE;rw [hlen] at hE;omega) hE w
def mi (l:List UInt8) (p:Int):Nat:=if p<0 then 0 else if (l.length:Int)<p then l.length else qv l p.toNat
theorem bZ (l:List UInt8):o6 l 0:=.inl rfl
theorem lC (l:List UInt8):o6 l l.length:=.inr (.inl rfl)
set_option maxHeartbeats 400000 in
theorem RE (s:ByteArray) (hs:s.size≤zt) (k:Nat) (hk:k≤s.size) (w:zo) :
 zp prog 195 #[zr s,zk zn k] w fun e w'=>e=zq (zk zn (qv s.data.toList k))∧w=w':=by
 have aa:=hs;unfold zt at hs;have hlen:s.data.toList.length=s.size:=li;have HN:=zm hlen;clear hlen;have HM:=zm aa;clear aa;obtain ⟨b,hb⟩:∃ b,qv s.data.toList k=b:=⟨_,rfl⟩;rw [hb];have HB:=zm hb;clear hb;go_enter func195,ntmps195;go_wp2
 all_goals
  go_loop [1] (fun i=>∃ j:Nat,j≤k∧i=zk zn j∧qv s.data.toList j=b) (fun i=>(zv i).toNat)
  case atStart=>exact ⟨k,Ad _,by first|rfl|(simp;omega),HB.out⟩
  case round =>
   obtain ⟨j,hj,rfl,hbj⟩:=hrel;have HJ:=zm hbj;clear hbj;by_cases he:o6 s.data.toList j
   ·have HE:=zm he;clear he;go_wp2_with (go_at_call 107;refine (jY s HM.out j HE.out _).mono ?_;rintro e w' ⟨rfl,rfl⟩);go_ret;exact ⟨aM (by rw [← HJ.out,dM _ _ HE.out]),rfl⟩
   ·have ab:j≠0:=fun h=>he (by rw [h];exact bZ _);have hjs:j<s.size:=by
     rcases Ak j s.size with h|h
     ·exact h
     ·exact absurd (.inr (.inl (by rw [HN.out];omega))) he
    have HE:=zm he;clear he;go_wp2_with (go_at_call 107;refine (nF s HM.out j hjs HE.out _).mono ?_;rintro e w' ⟨rfl,rfl⟩)
    go_round
    case rel =>
     obtain ⟨i,rfl⟩:∃ i,j=i+1:=⟨j - 1,lg⟩;exact ⟨i,lg,by go_num,by rw [← HJ.out,iO _ _ HE.out]⟩
    case measure=>simp [zv];omega
set_option maxHeartbeats 400000 in
theorem OT (s:ByteArray) (hs:s.size≤zt) (p:Int) (hp:p<0) (w:zo) :
 zp prog 195 #[zr s,zk zn p] w fun e w'=>e=zq (zk zn (qv s.data.toList 0))∧w=w':=by
 have aa:=hs;unfold zt at hs;have hlen:s.data.toList.length=s.size:=li;have HN:=zm hlen;clear hlen;have HM:=zm aa;clear aa;obtain ⟨b,hb⟩:∃ b,qv s.data.toList 0=b:=⟨_,rfl⟩;rw [hb];have HB:=zm hb;clear hb;go_enter func195,ntmps195;go_wp2
 all_goals
  go_loop [1] (fun i=>∃ j:Nat,j≤0∧i=zk zn j∧qv s.data.toList j=b) (fun i=>(zv i).toNat)
  case atStart=>exact ⟨0,Ad _,by first|rfl|(simp;omega),HB.out⟩
  case round =>
   obtain ⟨j,hj,rfl,hbj⟩:=hrel;have HJ:=zm hbj;clear hbj;by_cases he:o6 s.data.toList j
   ·have HE:=zm he;clear he;go_wp2_with (go_at_call 107;refine (jY s HM.out j HE.out _).mono ?_;rintro e w' ⟨rfl,rfl⟩);go_ret;exact ⟨aM (by rw [← HJ.out,dM _ _ HE.out]),rfl⟩
   ·have ab:j≠0:=fun h=>he (by rw [h];exact bZ _);have hjs:j<s.size:=by
     rcases Ak j s.size with h|h
     ·exact h
     ·exact absurd (.inr (.inl (by rw [HN.out];omega))) he
    have HE:=zm he;clear he;go_wp2_with (go_at_call 107;refine (nF s HM.out j hjs HE.out _).mono ?_;rintro e w' ⟨rfl,rfl⟩)
    go_round
    case rel =>
     obtain ⟨i,rfl⟩:∃ i,j=i+1:=⟨j - 1,lg⟩;exact ⟨i,lg,by go_num,by rw [← HJ.out,iO _ _ HE.out]⟩
    case measure=>simp [zv];omega
set_option maxHeartbeats 400000 in
theorem MI (s:ByteArray) (hs:s.size≤zt) (p:Int) (hp:(s.size:Int)<p) (w:zo) :
 zp prog 195 #[zr s,zk zn p] w fun e w'=>e=zq (zk zn (qv s.data.toList s.size))∧w=w':=by
 have aa:=hs;unfold zt at hs;have hlen:s.data.toList.length=s.size:=li;have HN:=zm hlen;clear hlen;have HM:=zm aa;clear aa;obtain ⟨b,hb⟩:∃ b,qv s.data.toList s.size=b:=⟨_,rfl⟩;rw [hb];have HB:=zm hb;clear hb;go_enter func195,ntmps195;go_wp2
 all_goals
  go_loop [1] (fun i=>∃ j:Nat,j≤s.size∧i=zk zn j∧qv s.data.toList j=b) (fun i=>(zv i).toNat)
  case atStart=>exact ⟨s.size,Ad _,by first|rfl|(simp;omega),HB.out⟩
  case round =>
   obtain ⟨j,hj,rfl,hbj⟩:=hrel;have HJ:=zm hbj;clear hbj;by_cases he:o6 s.data.toList j
   ·have HE:=zm he;clear he;go_wp2_with (go_at_call 107;refine (jY s HM.out j HE.out _).mono ?_;rintro e w' ⟨rfl,rfl⟩);go_ret;exact ⟨aM (by rw [← HJ.out,dM _ _ HE.out]),rfl⟩
   ·have ab:j≠0:=fun h=>he (by rw [h];exact bZ _);have hjs:j<s.size:=by
     rcases Ak j s.size with h|h
     ·exact h
     ·exact absurd (.inr (.inl (by rw [HN.out];omega))) he
    have HE:=zm he;clear he;go_wp2_with (go_at_call 107;refine (nF s HM.out j hjs HE.out _).mono ?_;rintro e w' ⟨rfl,rfl⟩)
    go_round
    case rel =>
     obtain ⟨i,rfl⟩:∃ i,j=i+1:=⟨j - 1,lg⟩;exact ⟨i,lg,by go_num,by rw [← HJ.out,iO _ _ HE.out]⟩
    case measure=>simp [zv];omega
theorem kJ (s:ByteArray) (hs:s.size≤zt) (p:Int) (w:zo) :
 zp prog 195 #[zr s,zk zn p] w fun e w'=>e=zq (zk zn (mi s.data.toList p))∧w=w':=by
 have hlen:s.data.toList.length=s.size:=li;by_cases h0:p<0
 ·have e:mi s.data.toList p=qv s.data.toList 0:=by unfold mi;rw [if_pos h0];rfl
  rw [e];exact OT s hs p h0 w
 ·by_cases h1:(s.size:Int)<p
  ·have e:mi s.data.toList p=qv s.data.toList s.size:=by unfold mi;rw [if_neg h0,if_pos lg,dM _ _ (by rw [← hlen];exact lC _),hlen]
   rw [e];exact MI s hs p h1 w
  ·obtain ⟨k,rfl⟩:=Ai (Ao.1 h0);have e:mi s.data.toList k=qv s.data.toList k:=by unfold mi;rw [if_neg h0,if_neg lg,Af]
   rw [e];exact RE s hs k lg w
theorem SR (s:ByteArray) (i:Nat):(s.get! i).toNat=bt s.data.toList i:=by
 by_cases h:i<s.size
 ·rw [bD s i h];simp [ByteArray.get!,getElem!_pos,h];rfl
 ·rw [fB _ _ lr];have:s.get! i=0:=by
   show s.data[i]! = 0;rw [getElem!_neg s.data i (by simpa using h)];rfl
  rw [this];rfl
theorem mM (s:ByteArray) (i:Nat) (h:i<s.size) :
 Ap s i=if (px (s.data.toList.drop i)).2=0 then (65533,1) else px (s.data.toList.drop i):=by
 rw [fA _ i (by simpa using h)];have c:∀ k,(decide (i+k<s.size) && bt s.data.toList (i+k) / 64 == 2)=decide (128≤bt s.data.toList (i+k)∧bt s.data.toList (i+k)≤191):=by
  intro k;by_cases hk:i+k<s.size
  ·rw [decide_eq_true hk,Bool.true_and,Bool.eq_iff_iff];simp;omega
  ·rw [decide_eq_false hk,Bool.false_and,fB _ _ lr];rfl
 simp only [Ap,SR,c,Nat.add_zero];generalize bt s.data.toList i=b0;rw [show i+1+1=i+2 from rfl,show i+1+2=i+3 from rfl];generalize bt s.data.toList (i+1)=b1;generalize bt s.data.toList (i+2)=b2;generalize bt s.data.toList (i+3)=b3;by_cases h1:b0<128
 ·have T:tk b0 b1 b2 b3=(b0,1):=by unfold tk;rw [if_pos h1]
  rw [if_pos h1,T];rfl
 rw [if_neg h1];by_cases h2:b0 / 32=6∧128≤b1∧b1≤191
 ·rw [if_pos lr];by_cases h3:128≤b0 % 32 * 64+b1 % 64
  ·have T:tk b0 b1 b2 b3=((b0 - 192) * 64+(b1 - 128),2):=by unfold tk;rw [if_neg h1,if_pos lg]
   rw [if_pos h3,T,if_neg li];simp only [zz,and_true];omega
  ·have T:tk b0 b1 b2 b3=(0,0):=by unfold tk;rw [if_neg h1,if_neg lg,if_neg lg,if_neg lg]
   rw [if_neg h3,T];rfl
 rw [if_neg lr];by_cases h4:b0 / 16=14∧(128≤b1∧b1≤191)∧128≤b2∧b2≤191
 ·rw [if_pos lr];have E:b0 % 16 * 4096+b1 % 64 * 64+b2 % 64=(b0 - 224) * 4096+(b1 - 128) * 64+(b2 - 128):=lg;rw [E];by_cases h5:(b0=224→160≤b1)∧(b0=237→b1<160)
  ·have T:tk b0 b1 b2 b3=((b0 - 224) * 4096+(b1 - 128) * 64+(b2 - 128),3):=by unfold tk;rw [if_neg h1,if_neg lg,if_pos lg]
   rw [if_pos (by simp [zx];omega),T,if_neg li]
  ·have T:tk b0 b1 b2 b3=(0,0):=by unfold tk;rw [if_neg h1,if_neg lg,if_neg lg,if_neg lg]
   rw [if_neg (by simp [zx];omega),T];rfl
 rw [if_neg lr];by_cases h6:b0 / 8=30∧(128≤b1∧b1≤191)∧(128≤b2∧b2≤191)∧128≤b3∧b3≤191
 ·rw [if_pos lr];have E:b0 % 8 * 262144+b1 % 64 * 4096+b2 % 64 * 64+b3 % 64=(b0 - 240) * 262144+(b1 - 128) * 4096+(b2 - 128) * 64+(b3 - 128):=lg;rw [E];by_cases h5:b0<245∧(b0=240→144≤b1)∧(b0=244→b1<144)
  ·have T:tk b0 b1 b2 b3=((b0 - 240) * 262144+(b1 - 128) * 4096+(b2 - 128) * 64+(b3 - 128),4):=by unfold tk;rw [if_neg h1,if_neg lg,if_neg lg,if_pos lg]
   rw [if_pos (by simp [zx];omega),T,if_neg li]
  ·have T:tk b0 b1 b2 b3=(0,0):=by unfold tk;rw [if_neg h1,if_neg lg,if_neg lg,if_neg lg]
   rw [if_neg (by simp [zx];omega),T];rfl
 ·have T:tk b0 b1 b2 b3=(0,0):=by unfold tk;rw [if_neg h1,if_neg lg,if_neg lg,if_neg lg]
  rw [if_neg lr,T];rfl
theorem lF (x:Int) (xs:List Int):px (zw (x::xs)).data.toList=tk (bt (zw (x::xs)).data.toList 0) (bt (zw (x::xs)).data.toList 1) (bt (zw (x::xs)).data.toList 2) (bt (zw (x::xs)).data.toList 3):=by
 unfold px;rw [if_neg (by simp [zw])]
theorem GY (c:Int) (h:sz c≠0):0≤c∧px (ry c).data.toList=(c.toNat,sz c)∧(ry c).size=sz c:=by
 by_cases hb:c<0∨1114111<c∨(55296≤c∧c≤57343)
 ·exact absurd (by unfold sz;rw [if_pos hb]) h
 refine ⟨lg,?_⟩;by_cases h1:c<128
 ·have hs:sz c=1:=by unfold sz;rw [if_neg hb,if_pos h1]
  rw [hs,xH c lg h1,lF,jA,bH _ 0 li];refine ⟨?_,rfl⟩;simp only [Aj];unfold tk;rw [if_pos lg];simp only [zz,and_true];omega
 by_cases h2:c<2048
 ·have hs:sz c=2:=by unfold sz;rw [if_neg hb,if_neg h1,if_pos h2]
  rw [hs,vH c lg h2,lF,jA,bH _ 0 li,bH _ 1 li];refine ⟨?_,rfl⟩;simp only [Aj,Al];unfold tk;rw [if_neg lg,if_pos lg];simp only [zz,and_true];omega
 by_cases h3:c<65536
 ·have hs:sz c=3:=by unfold sz;rw [if_neg hb,if_neg h1,if_neg h2,if_pos h3]
  rw [hs,yA c lg h3 lg,lF,jA,bH _ 0 li,bH _ 1 li,bH _ 2 li];refine ⟨?_,rfl⟩;simp only [Aj,Al];unfold tk;rw [if_neg lg,if_neg lg,if_pos lg];simp only [zz,and_true];omega
 ·have hs:sz c=4:=by unfold sz;rw [if_neg hb,if_neg h1,if_neg h2,if_neg h3]
  rw [hs,xZ c lg lg,lF,jA,bH _ 0 li,bH _ 1 li,bH _ 2 li,bH _ 3 li];refine ⟨?_,rfl⟩;simp only [Aj,Al];unfold tk;rw [if_neg lg,if_neg lg,if_neg lg,if_pos lg];simp only [zz,and_true];omega
def tj (n:Nat):Nat:=if n=2 then 192 else if n=3 then 224 else 240
def si (l:List UInt8):Int:=
 if l.length=1 then bt l 0 else if bt l 0<tj l.length then -1 else ti l 0 (bt l 0 - tj l.length) (l.length - 1)
theorem qP (l:List UInt8) (v:Nat) (hv:v<256) (j:Nat) (hj:j≤3):ti l 0 v j<256 * 262144+262144:=by
 match j,hj with
 | 0,_=>simp only [ti];omega
 | 1,_=>simp only [ti];omega
 | 2,_=>simp only [ti];omega
 | 3,_=>simp only [ti];omega
set_option maxHeartbeats 400000 in
theorem PR (s:ByteArray) (hs:s.size=1) (w:zo) :
 zp prog 126 #[zr s] w fun e w'=>e=zq (zk zn (si s.data.toList))∧w=w':=by
 have hlen:s.data.toList.length=s.size:=li;have h0:0<s.size:=lg;have e:si s.data.toList=(s[0].toNat:Nat):=by unfold si;rw [if_pos lg,bD s 0 h0]
 rw [e];have hz:((s.size:Int) == 1)=true:=lr;have aa:=s[0].toNat_lt;clear hs hlen e;go_enter func126,ntmps126;go_wp2;go_ret;exact ⟨rfl,rfl⟩
set_option maxHeartbeats 400000 in
theorem zK (s:ByteArray) (n:Nat) (hs:s.size=n) (h1:2≤n) (h4:n≤4) (w:zo) :
 zp prog 126 #[zr s] w fun e w'=>e=zq (zk zn (si s.data.toList))∧w=w':=by
 have hlen:s.data.toList.length=s.size:=li;have h0:0<s.size:=lg;obtain ⟨r,hr⟩:∃ r,si s.data.toList=r:=⟨_,rfl⟩;rw [hr];have hb:=bD s 0 h0;have af:=s[0].toNat_lt;obtain ⟨b0,aa⟩:∃ b,s[0].toNat=b:=⟨_,rfl⟩;unfold si at hr;rw [if_neg lg,hlen,hs,hb] at hr;have ag:((s.size:Int) == 1)=false:=lr;have hlo:2≤s.size:=lg;have hhi:s.size≤4:=lg;by_cases hlt:s[0].toNat<tj n
 ·rw [if_pos hlt] at hr;have HR:=zm hr;clear hr;by_cases e2:n=2
  ·have ad:((s.size:Int) == 2)=true:=lr;rw [e2] at hlt;have hl:s[0].toNat<192:=hlt;clear hb aa hlen hs hlt e2;go_enter func126,ntmps126;go_wp2;go_ret;exact ⟨aM HR.out,rfl⟩
  have ad:((s.size:Int) == 2)=false:=lr;by_cases e3:n=3
  ·have ae:((s.size:Int) == 3)=true:=lr;rw [e3] at hlt;have hl:s[0].toNat<224:=hlt;clear hb aa hlen hs hlt e2 e3;go_enter func126,ntmps126;go_wp2;go_ret;exact ⟨aM HR.out,rfl⟩
  have ae:((s.size:Int) == 3)=false:=lr;obtain rfl:n=4:=lg;have hl:s[0].toNat<240:=hlt;clear hb aa hlen hs hlt e2 e3;go_enter func126,ntmps126;go_wp2;go_ret;exact ⟨aM HR.out,rfl⟩
 ·rw [if_neg hlt] at hr;rw [show ti s.data.toList 0 (s[0].toNat - tj n) (n - 1)=ti s.data.toList 0 (s[0].toNat - tj n) (s.size - 1) by rw [hs]] at hr;by_cases e2:n=2
  ·have ad:((s.size:Int) == 2)=true:=lr;rw [e2] at hlt hr;have hl:192≤s[0].toNat:=Am.1 hlt;clear hlt;have HR:=zm hr;clear hr;clear hb aa hlen hs e2;have HV:Hid (ti s.data.toList 0 (s[0].toNat - 192) 0=s[0].toNat - 192):=rfl;go_enter func126,ntmps126;go_wp2
   go_loop [3,4] (fun f i=>∃ j:Nat,j+1≤s.size∧i=zk zn (j+1:Nat)∧f=zk zn (ti s.data.toList 0 (s[0].toNat - 192) j)) (fun _ i=>s.size - (zv i).toNat)
   case atStart=>exact ⟨0,lg,rfl,by rw [HV.out];go_num⟩
   case round =>
    obtain ⟨j,hj,rfl,rfl⟩:=hrel;by_cases hlt:j+1<s.size
    ·have hbj:=bD s (j+1) hlt;have hac:=qP s.data.toList (s[0].toNat - 192) lg j lg;have ab:=s[j+1].toNat_lt;obtain ⟨ac,ha⟩:∃ ac,ti s.data.toList 0 (s[0].toNat - 192) j=ac:=⟨_,rfl⟩;rw [ha] at hac ⊢;have HA:=zm ha;clear ha;have HJ:=zm hbj;clear hbj;go_wp2
     go_round
     case rel =>
      refine ⟨j+1,lg,by go_num,?_⟩;rw [show ti s.data.toList 0 (s[0].toNat - 192) (j+1)=ti s.data.toList 0 (s[0].toNat - 192) j * 64+bt s.data.toList (0+1+j) % 64 from rfl,HA.out,show 0+1+j=j+1 by omega,HJ.out]
      go_num
     case measure=>simp [zv];omega
    ·have hend:s.size≤j+1:=lg;go_wp2;go_ret;exact ⟨aM (by rw [← HR.out,show s.size - 1=j by omega];rfl),rfl⟩
  have ad:((s.size:Int) == 2)=false:=lr;by_cases e3:n=3
  ·have ae:((s.size:Int) == 3)=true:=lr;rw [e3] at hlt hr;have hl:224≤s[0].toNat:=Am.1 hlt;clear hlt e3;have HR:=zm hr;clear hr;clear hb aa hlen hs e2;have HV:Hid (ti s.data.toList 0 (s[0].toNat - 224) 0=s[0].toNat - 224):=rfl;go_enter func126,ntmps126;go_wp2
   go_loop [3,4] (fun f i=>∃ j:Nat,j+1≤s.size∧i=zk zn (j+1:Nat)∧f=zk zn (ti s.data.toList 0 (s[0].toNat - 224) j)) (fun _ i=>s.size - (zv i).toNat)
   case atStart=>exact ⟨0,lg,rfl,by rw [HV.out];go_num⟩
   case round =>
    obtain ⟨j,hj,rfl,rfl⟩:=hrel;by_cases hlt:j+1<s.size
    ·have hbj:=bD s (j+1) hlt;have hac:=qP s.data.toList (s[0].toNat - 224) lg j lg;have ab:=s[j+1].toNat_lt;obtain ⟨ac,ha⟩:∃ ac,ti s.data.toList 0 (s[0].toNat - 224) j=ac:=⟨_,rfl⟩;rw [ha] at hac ⊢;have HA:=zm ha;clear ha;have HJ:=zm hbj;clear hbj;go_wp2
     go_round
     case rel =>
      refine ⟨j+1,lg,by go_num,?_⟩;rw [show ti s.data.toList 0 (s[0].toNat - 224) (j+1)=ti s.data.toList 0 (s[0].toNat - 224) j * 64+bt s.data.toList (0+1+j) % 64 from rfl,HA.out,show 0+1+j=j+1 by omega,HJ.out]
      go_num
     case measure=>simp [zv];omega
    ·have hend:s.size≤j+1:=lg;go_wp2;go_ret;exact ⟨aM (by rw [← HR.out,show s.size - 1=j by omega];rfl),rfl⟩
  have ae:((s.size:Int) == 3)=false:=lr;obtain rfl:n=4:=lg;have hl:240≤s[0].toNat:=Am.1 hlt;clear hlt e3;have HR:=zm hr;clear hr;clear hb aa hlen hs e2;have HV:Hid (ti s.data.toList 0 (s[0].toNat - 240) 0=s[0].toNat - 240):=rfl;go_enter func126,ntmps126;go_wp2
  go_loop [3,4] (fun f i=>∃ j:Nat,j+1≤s.size∧i=zk zn (j+1:Nat)∧f=zk zn (ti s.data.toList 0 (s[0].toNat - 240) j)) (fun _ i=>s.size - (zv i).toNat)
  case atStart=>exact ⟨0,lg,rfl,by rw [HV.out];go_num⟩
  case round =>
   obtain ⟨j,hj,rfl,rfl⟩:=hrel;by_cases hlt:j+1<s.size
   ·have hbj:=bD s (j+1) hlt;have hac:=qP s.data.toList (s[0].toNat - 240) lg j lg;have ab:=s[j+1].toNat_lt;obtain ⟨ac,ha⟩:∃ ac,ti s.data.toList 0 (s[0].toNat - 240) j=ac:=⟨_,rfl⟩;rw [ha] at hac ⊢;have HA:=zm ha;clear ha;have HJ:=zm hbj;clear hbj;go_wp2
    go_round
    case rel =>
     refine ⟨j+1,lg,by go_num,?_⟩;rw [show ti s.data.toList 0 (s[0].toNat - 240) (j+1)=ti s.data.toList 0 (s[0].toNat - 240) j * 64+bt s.data.toList (0+1+j) % 64 from rfl,HA.out,show 0+1+j=j+1 by omega,HJ.out]
     go_num
    case measure=>simp [zv];omega
   ·have hend:s.size≤j+1:=lg;go_wp2;go_ret;exact ⟨aM (by rw [← HR.out,show s.size - 1=j by omega];rfl),rfl⟩
theorem EB (s:ByteArray) (h1:1≤s.size) (h4:s.size≤4) (w:zo) :
 zp prog 126 #[zr s] w fun e w'=>e=zq (zk zn (si s.data.toList))∧w=w':=by
 by_cases h:s.size=1
 ·exact PR s h w
 ·exact zK s s.size rfl lg h4 w
set_option maxHeartbeats 400000 in
theorem PV (s:ByteArray) (hs:s.size≤zt) (p:Int) (m:Nat) (hm:1≤m) (hm4:m≤4) (w:zo) :
 zp prog 80 #[zr s,zk zn p,zk zn m] w fun e w'=>e=zq (zy #[zk zn (sa s.data.toList p m).1,zu (sa s.data.toList p m).2])∧w=w':=by
 have hlen:s.data.toList.length=s.size:=li;unfold zt at hs;by_cases h0:p<0
 ·have e:sa s.data.toList p m=(0,false):=by unfold sa;rw [if_pos (.inl h0)]
  rw [e];clear e hlen;go_enter func80,ntmps80;go_wp2;go_ret2;exact ⟨rfl,rfl⟩
 by_cases h1:(s.size:Int) - m<p
 ·have e:sa s.data.toList p m=(0,false):=by unfold sa;rw [if_pos (.inr (by rw [hlen];exact h1))]
  rw [e];clear e hlen;go_enter func80,ntmps80;go_wp2;go_ret2;exact ⟨rfl,rfl⟩
 obtain ⟨k,rfl⟩:=Ai (Ao.1 h0);have hk:k+m≤s.size:=lg;have e:sa s.data.toList k m=(tp s.data.toList k m,true):=by unfold sa;rw [hlen,if_neg lg,Af]
 rw [e];clear e h0 h1;have HN:=zm hlen;clear hlen;go_enter func80,ntmps80;go_wp2
 go_loop [8,9] (fun n i=>∃ j:Nat,j≤m∧i=zk zn ((j:Int) - 1)∧n=zk zn (tp s.data.toList (k+j) (m - j))) (fun _ i=>(zv i+1).toNat)
 case atStart=>exact ⟨m,Ad _,rfl,by rw [Nat.sub_self];rfl⟩
 case round =>
  obtain ⟨j,hj,rfl,rfl⟩:=hrel;by_cases hlt:1≤j
  ·obtain ⟨i,rfl⟩:∃ i,j=i+1:=⟨j - 1,lg⟩;have hi:k+i<s.size:=lg;have hx:=hP s.data.toList (m - (i+1)) (k+(i+1));have ab:tp s.data.toList (k+(i+1)) (m - (i+1))<256 ^ 3:=Nat.lt_of_lt_of_le hx (Nat.pow_le_pow_right lg lg);have aa:tp s.data.toList (k+i) (m - i)=bt s.data.toList (k+i)+256 * tp s.data.toList (k+(i+1)) (m - (i+1)):=by
    rw [show m - i=(m - (i+1))+1 by omega];rfl
   rw [bD s (k+i) hi] at aa;obtain ⟨x,hxx⟩:∃ x,tp s.data.toList (k+(i+1)) (m - (i+1))=x:=⟨_,rfl⟩;rw [hxx] at ab aa ⊢;have ac:x<16777216:=lg;have hb:=s[k+i].toNat_lt;have HS:=zm aa;clear aa hxx hx ab;have e1:((i+1:Nat):Int) - 1=(i:Int):=lg;rw [e1];clear e1;go_wp2
   go_round
   case rel=>exact ⟨i,lg,by go_num,by rw [HS.out];go_num⟩
   case measure=>simp [zv]
  ·obtain rfl:j=0:=lg;go_wp2;go_ret2;exact ⟨rfl,rfl⟩
theorem dZ (s:ByteArray) (hs:s.size≤zt) (p:Int) (w:zo) :
 zp prog 53 #[zr s,zk zn p] w fun e w'=>e=zq (zy #[zk zn (sa s.data.toList p 4).1,zu (sa s.data.toList p 4).2])∧w=w':=by
 have hg:=PV s hs p 4 lg lg;obtain ⟨⟨x,b⟩,hx⟩:∃ x,sa s.data.toList p 4=x:=⟨_,rfl⟩;rw [hx] at hg ⊢;have HG:=zm hg;clear hg hx;go_enter func53,ntmps53;go_wp2_with fail;refine (HG.out _).mono ?_;rintro e w' ⟨rfl,rfl⟩;go_wp2;go_ret2;exact ⟨rfl,rfl⟩
end Go.Proofs.YtbagenpobcgjnaaGreat
