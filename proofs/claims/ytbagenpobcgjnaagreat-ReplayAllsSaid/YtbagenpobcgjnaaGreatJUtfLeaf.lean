/-
  Joined: UtfLeaf, UtfTake, Conv, UtfPut, UtfEdge, UtfLives, UtfBack, UtfDecode, LawPuts, UtfNumber, NumRef.
-/
import Derived.Test.YtbagenpobcgjnaaGreatRows
import Derived.Test.YtbagenpobcgjnaaGreatJUtfMath
open Go renaming Calls->yz,World->yy,maxLen->zf,strOfNums->zg
open Go.Ending renaming returned->zd
open Go.IntKind renaming i64->yx
open Go.Lib renaming hid->yw
open Go.RowKit renaming Below->zq,intOf->zi
open Go.Utf8 renaming decode->Aa,encode->zr,valid->zj
open Go.Value renaming bool->zh,int->yv,ownBlock->zz,string->ze,tuple->zm
open Int renaming eq_ofNat_of_zero_le->zv,toNat_natCast->zt
open List renaming getD_cons_succ->zx,getD_cons_zero->zu,map_cons->zn,map_nil->zo
open Nat renaming le_refl->zp,lt_or_ge->zw,not_lt->zy
open Prod.mk renaming injEq->zk
namespace Go.Proofs.YtbagenpobcgjnaaGreat
open Go.Proofs.Tryz
set_option maxRecDepth 100000
open Go.RowKit
set_option maxHeartbeats 400000 in
theorem uQ (c:Int) (w:yy) :
 yz prog 186 #[yv .i32 c] w fun e w'=>e=zd (yv yx (sz c))∧w=w':=by
 by_cases h0:c<0
 ·go_enter func186,ntmps186;go_wp2;go_ret;exact ⟨aK (by unfold sz;rw [if_pos lf];rfl),rfl⟩
 by_cases h1:1114111<c
 ·go_enter func186,ntmps186;go_wp2;go_ret;exact ⟨aK (by unfold sz;rw [if_pos lf];rfl),rfl⟩
 by_cases h2:c<128
 ·go_enter func186,ntmps186;go_wp2;go_ret;exact ⟨aK (by unfold sz;rw [if_neg lf,if_pos lf];rfl),rfl⟩
 by_cases h3:c<2048
 ·go_enter func186,ntmps186;go_wp2;go_ret;exact ⟨aK (by unfold sz;rw [if_neg lf,if_neg lf,if_pos lf];rfl),rfl⟩
 by_cases h4:55296≤c
 ·by_cases h5:c≤57343
  ·go_enter func186,ntmps186;go_wp2;go_ret;exact ⟨aK (by unfold sz;rw [if_pos lf];rfl),rfl⟩
  by_cases h6:c<65536
  ·go_enter func186,ntmps186;go_wp2;go_ret;exact ⟨aK (by unfold sz;rw [if_neg lf,if_neg lf,if_neg lf,if_pos lf];rfl),rfl⟩
  ·go_enter func186,ntmps186;go_wp2;go_ret;exact ⟨aK (by unfold sz;rw [if_neg lf,if_neg lf,if_neg lf,if_neg lf];rfl),rfl⟩
 ·have h6:c<65536:=lf;go_enter func186,ntmps186;go_wp2;go_ret;exact ⟨aK (by unfold sz;rw [if_neg lf,if_neg lf,if_neg lf,if_pos lf];rfl),rfl⟩
theorem kV (b:Nat) (h1:128≤b) (h2:b≤191) (w:yy) :
 yz prog 135 #[yv .u8 b] w fun e w'=>e=zd (zh true)∧w=w':=by
 go_enter func135,ntmps135;go_wp2;go_ret;exact ⟨lq,rfl⟩
theorem lF (b:Nat) (h:¬ (128≤b∧b≤191)) (w:yy) :
 yz prog 135 #[yv .u8 b] w fun e w'=>e=zd (zh false)∧w=w':=by
 by_cases h1:128≤b
 ·have h2:¬ b≤191:=lf;clear h;go_enter func135,ntmps135;go_wp2;go_ret;exact ⟨lq,rfl⟩
 ·clear h;go_enter func135,ntmps135;go_wp2;go_ret;exact ⟨rfl,rfl⟩
theorem RO (b:Nat) (h1:128≤b) (h2:b≤191) (w:yy) :
 yz prog 99 #[yv .u8 b] w fun e w'=>e=zd (zh true)∧w=w':=by
 go_enter func99,ntmps99;go_wp2;go_ret;exact ⟨lq,rfl⟩
theorem SQ (b:Nat) (h:¬ (128≤b∧b≤191)) (w:yy) :
 yz prog 99 #[yv .u8 b] w fun e w'=>e=zd (zh false)∧w=w':=by
 by_cases h1:128≤b
 ·have h2:¬ b≤191:=lf;clear h;go_enter func99,ntmps99;go_wp2;go_ret;exact ⟨lq,rfl⟩
 ·clear h;go_enter func99,ntmps99;go_wp2;go_ret;exact ⟨rfl,rfl⟩
set_option maxHeartbeats 400000 in
theorem RL (b:Nat) (h:b<128) (w:yy) :
 yz prog 185 #[yv .u8 b] w fun e w'=>e=zd (zm #[yv .i32 (ld b).1,yv yx (ld b).2])∧w=w':=by
 have e0:ld b=(b,1):=by unfold ld;rw [if_pos h]
 rw [e0];clear e0;go_enter func185,ntmps185;go_wp2;go_ret2;exact ⟨lh,rfl⟩
set_option maxHeartbeats 400000 in
theorem PY (b:Nat) (h:128≤b) (h':b<192) (w:yy) :
 yz prog 185 #[yv .u8 b] w fun e w'=>e=zd (zm #[yv .i32 (ld b).1,yv yx (ld b).2])∧w=w':=by
 have e0:ld b=(0,0):=by unfold ld;rw [if_neg lf,if_pos lf]
 rw [e0];clear e0;go_enter func185,ntmps185;go_wp2;go_ret2;exact ⟨lh,rfl⟩
set_option maxHeartbeats 400000 in
theorem QU (b:Nat) (h:192≤b) (h':b<224) (w:yy) :
 yz prog 185 #[yv .u8 b] w fun e w'=>e=zd (zm #[yv .i32 (ld b).1,yv yx (ld b).2])∧w=w':=by
 have e0:ld b=(b % 32,2):=by unfold ld;rw [if_neg lf,if_neg lf,if_pos lf]
 rw [e0];clear e0;go_enter func185,ntmps185;go_wp2;go_ret2;exact ⟨lh,rfl⟩
set_option maxHeartbeats 400000 in
theorem RF (b:Nat) (h:224≤b) (h':b<240) (w:yy) :
 yz prog 185 #[yv .u8 b] w fun e w'=>e=zd (zm #[yv .i32 (ld b).1,yv yx (ld b).2])∧w=w':=by
 have e0:ld b=(b % 16,3):=by unfold ld;rw [if_neg lf,if_neg lf,if_neg lf,if_pos lf]
 rw [e0];clear e0;go_enter func185,ntmps185;go_wp2;go_ret2;exact ⟨lh,rfl⟩
set_option maxHeartbeats 400000 in
theorem RZ (b:Nat) (h:240≤b) (h':b<248) (w:yy) :
 yz prog 185 #[yv .u8 b] w fun e w'=>e=zd (zm #[yv .i32 (ld b).1,yv yx (ld b).2])∧w=w':=by
 have e0:ld b=(b % 8,4):=by unfold ld;rw [if_neg lf,if_neg lf,if_neg lf,if_neg lf,if_pos lf]
 rw [e0];clear e0;go_enter func185,ntmps185;go_wp2;go_ret2;exact ⟨lh,rfl⟩
set_option maxHeartbeats 400000 in
theorem QE (b:Nat) (h:248≤b) (h':b<256) (w:yy) :
 yz prog 185 #[yv .u8 b] w fun e w'=>e=zd (zm #[yv .i32 (ld b).1,yv yx (ld b).2])∧w=w':=by
 have e0:ld b=(0,0):=by unfold ld;rw [if_neg lf,if_neg lf,if_neg lf,if_neg lf,if_neg lf]
 rw [e0];clear e0;go_enter func185,ntmps185;go_wp2;go_ret2;exact ⟨lh,rfl⟩
theorem OC (b:Nat) (hb:b<256) (w:yy) :
 yz prog 185 #[yv .u8 b] w fun e w'=>e=zd (zm #[yv .i32 (ld b).1,yv yx (ld b).2])∧w=w':=by
 by_cases h1:b<128
 ·exact RL b h1 w
 by_cases h2:b<192
 ·exact PY b lf h2 w
 by_cases h3:b<224
 ·exact QU b lf h3 w
 by_cases h4:b<240
 ·exact RF b lf h4 w
 by_cases h5:b<248
 ·exact RZ b lf h5 w
 ·exact QE b lf hb w
open Lib (hid)
def OnUp (l:List UInt8) (k j:Nat):Prop:=∀ m,m<j→128≤bt l (k+1+m)∧bt l (k+1+m)≤191
theorem FQ (l:List UInt8) (k:Nat):OnUp l k 0:=fun m h=>absurd h (Nat.not_lt_zero m)
theorem FH {l:List UInt8} {k j:Nat} (h:OnUp l k j) (g:128≤bt l (k+1+j)∧bt l (k+1+j)≤191):OnUp l k (j+1):=fun m hm=>by
 by_cases e:m=j
 ·subst e;exact g
 ·exact h m lf
set_option maxHeartbeats 400000 in
theorem MC (s:ByteArray) (hs:s.size≤zf) (k:Nat) (hk:k<s.size) (w:yy) (r m:Nat) (hR0:pz (s.data.toList.drop k)=(r,m)) :
 yz prog 159 #[ze s,yv yx k] w fun e w'=>e=zd (zm #[yv .i32 r,yv yx m])∧w=w':=by
 unfold zf at hs;have hlen:s.data.toList.length=s.size:=lh;have L:=OC (s[k].toNat) s[k].toNat_lt;have hb:=cF s k hk;have hld:=SM (s[k].toNat);obtain ⟨v,n,hvn⟩:∃ v n,ld (s[k].toNat)=(v,n):=⟨_,_,rfl⟩;rw [hvn] at L hld;simp only at L hld;obtain ⟨ab,hv⟩:=hld;have HL:=yw L;clear L;have HR:=yw hR0;clear hR0;by_cases h0:n=0
 ·have hr:pz (s.data.toList.drop k)=(0,0):=JB _ _ lf (by rw [hb,hvn];exact h0);rw [HR.out] at hr;simp only [zk] at hr;obtain ⟨rfl,rfl⟩:=hr;subst h0;clear hb hvn hlen;go_enter func159,ntmps159;go_wp2_with (go_at_call 185;refine (HL.out _).mono ?_;rintro e w' ⟨rfl,rfl⟩);go_ret2;exact ⟨rfl,rfl⟩
 ·by_cases hsh:s.size<k+n
  ·have hr:pz (s.data.toList.drop k)=(0,0):=DG _ _ lf (by rw [hb,hvn,hlen];exact hsh);rw [HR.out] at hr;simp only [zk] at hr;obtain ⟨rfl,rfl⟩:=hr;clear hb hvn hlen;have hz:((n:Int) == 0)=false:=lq;go_enter func159,ntmps159;go_wp2_with (go_at_call 185;refine (HL.out _).mono ?_;rintro e w' ⟨rfl,rfl⟩);go_ret2;exact ⟨rfl,rfl⟩
  ·have hz:((n:Int) == 0)=false:=lq;have HB:=yw hb;clear hb;have HV:=yw hvn;clear hvn;have HN:=yw hlen;clear hlen;go_enter func159,ntmps159;go_wp2_with (go_at_call 185;refine (HL.out _).mono ?_;rintro e w' ⟨rfl,rfl⟩)
   go_loop [6,37] (fun c i=>∃ j:Nat,j+1≤n∧i=yv yx j∧c=yv .i32 (s9 s.data.toList k v j)∧OnUp s.data.toList k j) (fun _ i=>n - (zi i).toNat)
   case atStart=>exact ⟨0,lf,rfl,rfl,FQ _ _⟩
   case round =>
    obtain ⟨j,hj,rfl,rfl,hon⟩:=hrel;by_cases hlt:j+1<n
    ·have hi:k+1+j<s.size:=lf;have hbj:=cF s (k+1+j) hi;have hac:s9 s.data.toList k v j<32768:=by
      have h1:=FG s.data.toList k j;rw [HB.out,HV.out] at h1;exact h1 hlt
     have aa:=s[k+1+j].toNat_lt;obtain ⟨ac,ha⟩:∃ ac,s9 s.data.toList k v j=ac:=⟨_,rfl⟩;rw [ha] at hac ⊢;have HA:=yw ha;clear ha;have HJ:=yw hbj;clear hbj;by_cases h1:128≤s[k+1+j].toNat∧s[k+1+j].toNat≤191
     ·obtain ⟨h1,h2⟩:=h1;go_wp2_with (go_at_call 135;refine (kV _ h1 h2 _).mono ?_;rintro e w' ⟨rfl,rfl⟩)
      go_round
      case rel =>
       refine ⟨j+1,lf,by go_num,?_,FH hon (by rw [HJ.out];exact ⟨h1,h2⟩)⟩;rw [show s9 s.data.toList k v (j+1)=s9 s.data.toList k v j * 64+bt s.data.toList (k+1+j) % 64 from rfl,HA.out,HJ.out]
       go_num
      case measure=>simp [zi];omega
     ·have hr:pz (s.data.toList.drop k)=(0,0):=tZ _ k j (by rw [HN.out];omega) (by rw [HB.out,HV.out];exact hlt) (by rw [HJ.out];exact h1);rw [HR.out] at hr;simp only [zk] at hr;have HX:=yw hr;clear hr;have H1:=yw h1;clear h1;go_wp2_with (go_at_call 135;refine (lF _ H1.out _).mono ?_;rintro e w' ⟨rfl,rfl⟩);go_ret2;exact ⟨gG (by rw [HX.out.1];rfl) (by rw [HX.out.2];rfl),rfl⟩
    ·obtain rfl:n=j+1:=lf;have hall:=NG s.data.toList k (by rw [HN.out];exact hk) (by rw [HB.out,HV.out];simp) (by rw [HB.out,HV.out];exact fun m hm=>hon m (by simp at hm;exact hm));rw [HB.out,HV.out] at hall;simp only [Nat.add_sub_cancel] at hall;obtain ⟨ac,ha⟩:∃ ac,s9 s.data.toList k v j=ac:=⟨_,rfl⟩;rw [ha] at hall ⊢;rw [HR.out] at hall;clear hon ha;by_cases hsz:sz (ac:Int)=j+1
     ·rw [if_pos hsz] at hall;simp only [zk] at hall;have HX:=yw hall;clear hall;have HS:=yw hsz;clear hsz;have hne:((sz (ac:Int):Int) != (j:Int)+1)=false:=by rw [HS.out];simp
      go_wp2_with (go_at_call 186;refine (uQ _ _).mono ?_;rintro e w' ⟨rfl,rfl⟩);go_ret2;exact ⟨gG (by rw [HX.out.1]) (by rw [HX.out.2];simp),rfl⟩
     ·rw [if_neg hsz] at hall;simp only [zk] at hall;have HX:=yw hall;clear hall;have hne:((sz (ac:Int):Int) != (j:Int)+1)=true:=lq;clear hsz;go_wp2_with (go_at_call 186;refine (uQ _ _).mono ?_;rintro e w' ⟨rfl,rfl⟩);go_ret2;exact ⟨gG (by rw [HX.out.1];rfl) (by rw [HX.out.2];rfl),rfl⟩
theorem jV (xs:List Int) (n:Nat) (hn:xs.length=n) (w:yy) :
 (convert 107 9 (.slice (some ⟨w,0,none⟩) n n)).run prog (w.alloc (.cells (xs.map (yv .u8)).toArray 5))=.ok (ze (zg xs)) (w.alloc (.cells (xs.map (yv .u8)).toArray 5)):=by
 refine run_convert_bytes_arg _ 107 5 underlying107 underlying5 _ 0 n n xs hn (fun i hi=>?_) 9 underlying9;rw [Nat.zero_add,World.cell?_alloc_new];simp [List.getD_eq_getElem?_getD,List.getElem?_eq_getElem (show i<xs.length by omega)]
theorem aA {w:yy} {base e size n:Nat} {v:Value} {xs:List Value} (h:w.ownsRow base e size v n xs):∀ k,v.ownBlock=some k→base≤k:=by
 intro k hk;rcases h.2 with ⟨rfl,_⟩|⟨g,cap,cur,rfl,hb,_⟩
 ·simp [zz] at hk
 ·simp [zz] at hk;omega
def rx (c:Int):ByteArray:=if sz c=0 then ⟨#[]⟩ else zr c
theorem qB (c:Int) (h0:0≤c) (h1:c≤1114111) (h2:c<55296∨57343<c) (w:yy) :
 yz prog 156 #[yv yx c] w fun e w'=>e=zd (zh true)∧w=w':=by
 by_cases h3:55296≤c
 ·have h4:¬ c≤57343:=lf;clear h2;go_enter func156,ntmps156;go_wp2;go_ret;exact ⟨lh,rfl⟩
 ·clear h2;go_enter func156,ntmps156;go_wp2;go_ret;exact ⟨lh,rfl⟩
theorem SK (c:Int) (h:c<0∨1114111<c∨(55296≤c∧c≤57343)) (w:yy) :
 yz prog 156 #[yv yx c] w fun e w'=>e=zd (zh false)∧w=w':=by
 by_cases h0:c<0
 ·clear h;go_enter func156,ntmps156;go_wp2;go_ret;exact ⟨rfl,rfl⟩
 by_cases h1:1114111<c
 ·clear h;have h1':¬ c≤1114111:=lf;go_enter func156,ntmps156;go_wp2;go_ret;exact ⟨lh,rfl⟩
 ·have h2:55296≤c:=lf;have h3:c≤57343:=lf;clear h;go_enter func156,ntmps156;go_wp2;go_ret;exact ⟨lh,rfl⟩
theorem gC (c:Int) (h0:sz c≠0) (w:yy) :
 yz prog 157 #[yv yx c] w fun e w'=>e=zd (yv yx (sz c))∧w=w':=by
 by_cases hb:c<0∨1114111<c∨(55296≤c∧c≤57343)
 ·exact absurd (by unfold sz;rw [if_pos hb]) h0
 clear h0;by_cases h1:c<128
 ·have e:sz c=1:=by unfold sz;rw [if_neg hb,if_pos h1]
  rw [e];clear e hb;go_enter func157,ntmps157;go_wp2;go_ret;exact ⟨rfl,rfl⟩
 by_cases h2:c<2048
 ·have e:sz c=2:=by unfold sz;rw [if_neg hb,if_neg h1,if_pos h2]
  rw [e];clear e hb;go_enter func157,ntmps157;go_wp2;go_ret;exact ⟨rfl,rfl⟩
 by_cases h3:c<65536
 ·have e:sz c=3:=by unfold sz;rw [if_neg hb,if_neg h1,if_neg h2,if_pos h3]
  rw [e];clear e hb;go_enter func157,ntmps157;go_wp2;go_ret;exact ⟨rfl,rfl⟩
 ·have e:sz c=4:=by unfold sz;rw [if_neg hb,if_neg h1,if_neg h2,if_neg h3]
  rw [e];clear e hb;go_enter func157,ntmps157;go_wp2;go_ret;exact ⟨rfl,rfl⟩
theorem wN (c:Int) (h:0≤c) (h':c<128):rx c=zg [c]:=by
 have hs:sz c=1:=by unfold sz;rw [if_neg lf,if_pos lf]
 have hv:zj c=true:=by unfold zj;simp;omega
 unfold rx zr;rw [hs,if_neg lf,if_pos hv];simp only [];rw [if_pos lf];simp only [zg,zn,zo]
set_option maxHeartbeats 400000 in
theorem SJ (c:Int) (h:0≤c) (h':c<128) (w:yy) :
 yz prog 127 #[yv .i32 c] w fun e w'=>e=zd (ze (rx c))∧zq w w w':=by
 have hs:sz c=1:=by unfold sz;rw [if_neg lf,if_pos lf]
 have ho:=gC c lf;rw [hs] at ho;rw [wN c h h'];have HO:=yw ho;clear ho;clear hs;have hk:=qB c lf lf lf;have HK:=yw hk;clear hk;have hcv:∀ x:Int,_:=fun x=>jV [x] 1 rfl w;simp only [zn,zo] at hcv;go_enter func127,ntmps127;go_wp2_with (first|(go_at_call 156;refine (HK.out _).mono ?_;rintro e w' ⟨rfl,rfl⟩)|(go_at_call 157;refine (HO.out _).mono ?_;rintro e w' ⟨rfl,rfl⟩));go_ret;exact ⟨rfl,(Below.refl _ _).alloc (zp _) _⟩
theorem vK (c:Int) (h:128≤c) (h':c<2048):rx c=zg [192+c / 64,128+c % 64]:=by
 have hs:sz c=2:=by unfold sz;rw [if_neg lf,if_neg lf,if_pos lf]
 have hv:zj c=true:=by unfold zj;simp;omega
 unfold rx zr;rw [hs,if_neg lf,if_pos hv];simp only [];rw [if_neg lf,if_pos lf];simp only [zg,zn,zo,show (192+c / 64).toNat=192+c.toNat / 64 by omega,show (128+c % 64).toNat=128+c.toNat % 64 by omega]
set_option maxHeartbeats 400000 in
theorem QW (c:Int) (h:128≤c) (h':c<2048) (w:yy) :
 yz prog 127 #[yv .i32 c] w fun e w'=>e=zd (ze (rx c))∧zq w w w':=by
 have hs:sz c=2:=by unfold sz;rw [if_neg lf,if_neg lf,if_pos lf]
 have ho:=gC c lf;rw [hs] at ho;rw [vK c h h'];have HO:=yw ho;clear ho;clear hs;have hk:=qB c lf lf lf;have HK:=yw hk;clear hk;have hcv:∀ x y:Int,_:=fun x y=>jV [x,y] 2 rfl w;simp only [zn,zo] at hcv;go_enter func127,ntmps127;go_wp2_with (first|(go_at_call 156;refine (HK.out _).mono ?_;rintro e w' ⟨rfl,rfl⟩)|(go_at_call 157;refine (HO.out _).mono ?_;rintro e w' ⟨rfl,rfl⟩));go_ret;exact ⟨rfl,(Below.refl _ _).alloc (zp _) _⟩
theorem uN (c:Int) (h:2048≤c) (h':c<65536) (hg:c<55296∨57343<c):rx c=zg [224+c / 4096,128+c / 64 % 64,128+c % 64]:=by
 have hs:sz c=3:=by unfold sz;rw [if_neg lf,if_neg lf,if_neg lf,if_pos lf]
 have hv:zj c=true:=by unfold zj;simp;omega
 unfold rx zr;rw [hs,if_neg lf,if_pos hv];simp only [];rw [if_neg lf,if_neg lf,if_pos lf];simp only [zg,zn,zo,show (224+c / 4096).toNat=224+c.toNat / 4096 by omega,show (128+c / 64 % 64).toNat=128+c.toNat / 64 % 64 by omega,show (128+c % 64).toNat=128+c.toNat % 64 by omega]
set_option maxHeartbeats 400000 in
theorem RJ (c:Int) (h:2048≤c) (h':c<65536) (hg:c<55296∨57343<c) (w:yy) :
 yz prog 127 #[yv .i32 c] w fun e w'=>e=zd (ze (rx c))∧zq w w w':=by
 have hs:sz c=3:=by unfold sz;rw [if_neg lf,if_neg lf,if_neg lf,if_pos lf]
 have ho:=gC c lf;rw [hs] at ho;rw [uN c h h' hg];have HO:=yw ho;clear ho;clear hs;have hk:=qB c lf lf lf;have HK:=yw hk;clear hk;have hcv:∀ x y z:Int,_:=fun x y z=>jV [x,y,z] 3 rfl w;simp only [zn,zo] at hcv;go_enter func127,ntmps127;go_wp2_with (first|(go_at_call 156;refine (HK.out _).mono ?_;rintro e w' ⟨rfl,rfl⟩)|(go_at_call 157;refine (HO.out _).mono ?_;rintro e w' ⟨rfl,rfl⟩));go_ret;exact ⟨rfl,(Below.refl _ _).alloc (zp _) _⟩
theorem uZ (c:Int) (h:65536≤c) (h':c≤1114111):rx c=zg [240+c / 262144,128+c / 4096 % 64,128+c / 64 % 64,128+c % 64]:=by
 have hs:sz c=4:=by unfold sz;rw [if_neg lf,if_neg lf,if_neg lf,if_neg lf]
 have hv:zj c=true:=by unfold zj;simp;omega
 unfold rx zr;rw [hs,if_neg lf,if_pos hv];simp only [];rw [if_neg lf,if_neg lf,if_neg lf];simp only [zg,zn,zo,show (240+c / 262144).toNat=240+c.toNat / 262144 by omega,show (128+c / 4096 % 64).toNat=128+c.toNat / 4096 % 64 by omega,show (128+c / 64 % 64).toNat=128+c.toNat / 64 % 64 by omega,show (128+c % 64).toNat=128+c.toNat % 64 by omega]
set_option maxHeartbeats 400000 in
theorem QO (c:Int) (h:65536≤c) (h':c≤1114111) (w:yy) :
 yz prog 127 #[yv .i32 c] w fun e w'=>e=zd (ze (rx c))∧zq w w w':=by
 have hs:sz c=4:=by unfold sz;rw [if_neg lf,if_neg lf,if_neg lf,if_neg lf]
 have ho:=gC c lf;rw [hs] at ho;rw [uZ c h h'];have HO:=yw ho;clear ho;clear hs;have hk:=qB c lf lf lf;have HK:=yw hk;clear hk;have hcv:∀ x y z u:Int,_:=fun x y z u=>jV [x,y,z,u] 4 rfl w;simp only [zn,zo] at hcv;go_enter func127,ntmps127;go_wp2_with (first|(go_at_call 156;refine (HK.out _).mono ?_;rintro e w' ⟨rfl,rfl⟩)|(go_at_call 157;refine (HO.out _).mono ?_;rintro e w' ⟨rfl,rfl⟩));go_ret;exact ⟨rfl,(Below.refl _ _).alloc (zp _) _⟩
set_option maxHeartbeats 400000 in
theorem RA (c:Int) (b0:-2147483648≤c) (b1:c≤2147483647) (h:c<0∨1114111<c∨(55296≤c∧c≤57343)) (w:yy) :
 yz prog 127 #[yv .i32 c] w fun e w'=>e=zd (ze (rx c))∧zq w w w':=by
 have hs:sz c=0:=by unfold sz;rw [if_pos h]
 have e:rx c=⟨#[]⟩:=by unfold rx;rw [if_pos hs]
 rw [e];clear e hs;have hk:=SK c h;have HK:=yw hk;clear hk h;go_enter func127,ntmps127;go_wp2_with (go_at_call 156;refine (HK.out _).mono ?_;rintro e w' ⟨rfl,rfl⟩);go_ret;exact ⟨rfl,Below.refl _ _⟩
theorem uJ (c:Int) (b0:-2147483648≤c) (b1:c≤2147483647) (w:yy) :
 yz prog 127 #[yv .i32 c] w fun e w'=>e=zd (ze (rx c))∧zq w w w':=by
 by_cases h0:c<0∨1114111<c∨(55296≤c∧c≤57343)
 ·exact RA c b0 b1 h0 w
 by_cases h1:c<128
 ·exact SJ c lf h1 w
 by_cases h2:c<2048
 ·exact QW c lf h2 w
 by_cases h3:c<65536
 ·exact RJ c lf h3 lf w
 ·exact QO c lf lf w
def mg (l:List UInt8) (p:Int):Bool:=decide (0≤p∧o9 l p.toNat)
theorem jM (s:ByteArray) (hs:s.size≤zf) (k:Nat) (h:o9 s.data.toList k) (w:yy) :
 yz prog 107 #[ze s,yv yx k] w fun e w'=>e=zd (zh true)∧w=w':=by
 unfold zf at hs;have hlen:s.data.toList.length=s.size:=lh;unfold o9 at h;rw [hlen] at h;by_cases h0:k=0
 ·clear h hlen;subst h0;go_enter func107,ntmps107;go_wp2;go_ret;exact ⟨lh,rfl⟩
 have hz:((k:Int) == 0)=false:=lq;by_cases h1:k=s.size
 ·have aa:((k:Int) == (s.size:Int))=true:=lq;have hle:k≤s.size:=lf;have hge:s.size≤k:=lf;clear h hlen h1;go_enter func107,ntmps107;go_wp2;go_ret;exact ⟨lh,rfl⟩
 ·have aa:((k:Int) == (s.size:Int))=false:=lq;obtain ⟨hk,hb⟩:k<s.size∧¬ (128≤bt s.data.toList k∧bt s.data.toList k≤191):=by
   rcases h with h|h|h
   ·exact absurd h h0
   ·exact absurd h h1
   ·exact h
  rw [cF s k hk] at hb;have HB:=yw hb;clear h hlen h1 h0 hb;go_enter func107,ntmps107;go_wp2_with (go_at_call 135;refine (lF _ HB.out _).mono ?_;rintro e w' ⟨rfl,rfl⟩);go_ret;exact ⟨lh,rfl⟩
theorem mY (s:ByteArray) (hs:s.size≤zf) (k:Nat) (hk:k<s.size) (h:¬ o9 s.data.toList k) (w:yy) :
 yz prog 107 #[ze s,yv yx k] w fun e w'=>e=zd (zh false)∧w=w':=by
 unfold zf at hs;have hlen:s.data.toList.length=s.size:=lh;unfold o9 at h;rw [hlen,cF s k hk] at h;have hz:((k:Int) == 0)=false:=lq;have aa:((k:Int) == (s.size:Int))=false:=lq;have h1:128≤s[k].toNat:=lf;have h2:s[k].toNat≤191:=lf;clear h hlen;go_enter func107,ntmps107;go_wp2_with (go_at_call 135;refine (kV _ h1 h2 _).mono ?_;rintro e w' ⟨rfl,rfl⟩);go_ret;exact ⟨lh,rfl⟩
theorem KU (s:ByteArray) (p:Int) (h:p<0∨(s.size:Int)<p) (w:yy) :
 yz prog 107 #[ze s,yv yx p] w fun e w'=>e=zd (zh false)∧w=w':=by
 by_cases h0:p<0
 ·clear h;go_enter func107,ntmps107;go_wp2;go_ret;exact ⟨rfl,rfl⟩
 ·have h1:(s.size:Int)<p:=lf;clear h;go_enter func107,ntmps107;go_wp2;go_ret;exact ⟨rfl,rfl⟩
theorem oM (s:ByteArray) (hs:s.size≤zf) (p:Int) (w:yy) :
 yz prog 107 #[ze s,yv yx p] w fun e w'=>e=zd (zh (mg s.data.toList p))∧w=w':=by
 have hlen:s.data.toList.length=s.size:=lh;by_cases h:p<0∨(s.size:Int)<p
 ·have e:mg s.data.toList p=false:=by
   unfold mg;rw [decide_eq_false_iff_not];unfold o9;rw [hlen];omega
  rw [e];exact KU s p h w
 obtain ⟨k,rfl⟩:=zv (show 0≤p by omega);by_cases hE:o9 s.data.toList k
 ·have e:mg s.data.toList k=true:=by unfold mg;rw [zt];simp [hE]
  rw [e];exact jM s hs k hE w
 ·have e:mg s.data.toList k=false:=by unfold mg;rw [zt];simp [hE]
  rw [e];exact mY s hs k (by unfold o9 at hE;rw [hlen] at hE;omega) hE w
theorem JD (s:ByteArray) (hs:s.size≤zf) (k:Nat) (h:o9 s.data.toList k) (w:yy) :
 yz prog 66 #[ze s,yv yx k] w fun e w'=>e=zd (zh true)∧w=w':=by
 unfold zf at hs;have hlen:s.data.toList.length=s.size:=lh;unfold o9 at h;rw [hlen] at h;by_cases h0:k=0
 ·clear h hlen;subst h0;go_enter func66,ntmps66;go_wp2;go_ret;exact ⟨lh,rfl⟩
 have hz:((k:Int) == 0)=false:=lq;by_cases h1:k=s.size
 ·have aa:((k:Int) == (s.size:Int))=true:=lq;have hle:k≤s.size:=lf;have hge:s.size≤k:=lf;clear h hlen h1;go_enter func66,ntmps66;go_wp2;go_ret;exact ⟨lh,rfl⟩
 ·have aa:((k:Int) == (s.size:Int))=false:=lq;obtain ⟨hk,hb⟩:k<s.size∧¬ (128≤bt s.data.toList k∧bt s.data.toList k≤191):=by
   rcases h with h|h|h
   ·exact absurd h h0
   ·exact absurd h h1
   ·exact h
  rw [cF s k hk] at hb;have HB:=yw hb;clear h hlen h1 h0 hb;go_enter func66,ntmps66;go_wp2_with (go_at_call 99;refine (SQ _ HB.out _).mono ?_;rintro e w' ⟨rfl,rfl⟩);go_ret;exact ⟨lh,rfl⟩
theorem LW (s:ByteArray) (hs:s.size≤zf) (k:Nat) (hk:k<s.size) (h:¬ o9 s.data.toList k) (w:yy) :
 yz prog 66 #[ze s,yv yx k] w fun e w'=>e=zd (zh false)∧w=w':=by
 unfold zf at hs;have hlen:s.data.toList.length=s.size:=lh;unfold o9 at h;rw [hlen,cF s k hk] at h;have hz:((k:Int) == 0)=false:=lq;have aa:((k:Int) == (s.size:Int))=false:=lq;have h1:128≤s[k].toNat:=lf;have h2:s[k].toNat≤191:=lf;clear h hlen;go_enter func66,ntmps66;go_wp2_with (go_at_call 99;refine (RO _ h1 h2 _).mono ?_;rintro e w' ⟨rfl,rfl⟩);go_ret;exact ⟨lh,rfl⟩
theorem IG (s:ByteArray) (p:Int) (h:p<0∨(s.size:Int)<p) (w:yy) :
 yz prog 66 #[ze s,yv yx p] w fun e w'=>e=zd (zh false)∧w=w':=by
 by_cases h0:p<0
 ·clear h;go_enter func66,ntmps66;go_wp2;go_ret;exact ⟨rfl,rfl⟩
 ·have h1:(s.size:Int)<p:=lf;clear h;go_enter func66,ntmps66;go_wp2;go_ret;exact ⟨rfl,rfl⟩
theorem bO (s:ByteArray) (hs:s.size≤zf) (p:Int) (w:yy) :
 yz prog 66 #[ze s,yv yx p] w fun e w'=>e=zd (zh (mg s.data.toList p))∧w=w':=by
 have hlen:s.data.toList.length=s.size:=lh;by_cases h:p<0∨(s.size:Int)<p
 ·have e:mg s.data.toList p=false:=by
   unfold mg;rw [decide_eq_false_iff_not];unfold o9;rw [hlen];omega
  rw [e];exact IG s p h w
 obtain ⟨k,rfl⟩:=zv (show 0≤p by omega);by_cases hE:o9 s.data.toList k
 ·have e:mg s.data.toList k=true:=by unfold mg;rw [zt];simp [hE]
  rw [e];exact JD s hs k hE w
 ·have e:mg s.data.toList k=false:=by unfold mg;rw [zt];simp [hE]
  rw [e];exact LW s hs k (by unfold o9 at hE;rw [hlen] at hE;omega) hE w
def mi (l:List UInt8) (p:Int):Nat:=if p<0 then 0 else if (l.length:Int)<p then l.length else qt l p.toNat
theorem bN (l:List UInt8):o9 l 0:=.inl rfl
theorem jP (l:List UInt8):o9 l l.length:=.inr (.inl rfl)
set_option maxHeartbeats 400000 in
theorem PX (s:ByteArray) (hs:s.size≤zf) (k:Nat) (hk:k≤s.size) (w:yy) :
 yz prog 195 #[ze s,yv yx k] w fun e w'=>e=zd (yv yx (qt s.data.toList k))∧w=w':=by
 have aa:=hs;unfold zf at hs;have hlen:s.data.toList.length=s.size:=lh;have HN:=yw hlen;clear hlen;have HM:=yw aa;clear aa;obtain ⟨b,hb⟩:∃ b,qt s.data.toList k=b:=⟨_,rfl⟩;rw [hb];have HB:=yw hb;clear hb;go_enter func195,ntmps195;go_wp2
 all_goals
  go_loop [1] (fun i=>∃ j:Nat,j≤k∧i=yv yx j∧qt s.data.toList j=b) (fun i=>(zi i).toNat)
  case atStart=>exact ⟨k,zp _,by first|rfl|(simp;omega),HB.out⟩
  case round =>
   obtain ⟨j,hj,rfl,hbj⟩:=hrel;have HJ:=yw hbj;clear hbj;by_cases he:o9 s.data.toList j
   ·have HE:=yw he;clear he;go_wp2_with (go_at_call 107;refine (jM s HM.out j HE.out _).mono ?_;rintro e w' ⟨rfl,rfl⟩);go_ret;exact ⟨aK (by rw [← HJ.out,dE _ _ HE.out]),rfl⟩
   ·have ab:j≠0:=fun h=>he (by rw [h];exact bN _);have hjs:j<s.size:=by
     rcases zw j s.size with h|h
     ·exact h
     ·exact absurd (.inr (.inl (by rw [HN.out];omega))) he
    have HE:=yw he;clear he;go_wp2_with (go_at_call 107;refine (mY s HM.out j hjs HE.out _).mono ?_;rintro e w' ⟨rfl,rfl⟩)
    go_round
    case rel =>
     obtain ⟨i,rfl⟩:∃ i,j=i+1:=⟨j - 1,lf⟩;exact ⟨i,lf,by go_num,by rw [← HJ.out,gY _ _ HE.out]⟩
    case measure=>simp [zi];omega
set_option maxHeartbeats 400000 in
theorem NR (s:ByteArray) (hs:s.size≤zf) (p:Int) (hp:p<0) (w:yy) :
 yz prog 195 #[ze s,yv yx p] w fun e w'=>e=zd (yv yx (qt s.data.toList 0))∧w=w':=by
 have aa:=hs;unfold zf at hs;have hlen:s.data.toList.length=s.size:=lh;have HN:=yw hlen;clear hlen;have HM:=yw aa;clear aa;obtain ⟨b,hb⟩:∃ b,qt s.data.toList 0=b:=⟨_,rfl⟩;rw [hb];have HB:=yw hb;clear hb;go_enter func195,ntmps195;go_wp2
 all_goals
  go_loop [1] (fun i=>∃ j:Nat,j≤0∧i=yv yx j∧qt s.data.toList j=b) (fun i=>(zi i).toNat)
  case atStart=>exact ⟨0,zp _,by first|rfl|(simp;omega),HB.out⟩
  case round =>
   obtain ⟨j,hj,rfl,hbj⟩:=hrel;have HJ:=yw hbj;clear hbj;by_cases he:o9 s.data.toList j
   ·have HE:=yw he;clear he;go_wp2_with (go_at_call 107;refine (jM s HM.out j HE.out _).mono ?_;rintro e w' ⟨rfl,rfl⟩);go_ret;exact ⟨aK (by rw [← HJ.out,dE _ _ HE.out]),rfl⟩
   ·have ab:j≠0:=fun h=>he (by rw [h];exact bN _);have hjs:j<s.size:=by
     rcases zw j s.size with h|h
     ·exact h
     ·exact absurd (.inr (.inl (by rw [HN.out];omega))) he
    have HE:=yw he;clear he;go_wp2_with (go_at_call 107;refine (mY s HM.out j hjs HE.out _).mono ?_;rintro e w' ⟨rfl,rfl⟩)
    go_round
    case rel =>
     obtain ⟨i,rfl⟩:∃ i,j=i+1:=⟨j - 1,lf⟩;exact ⟨i,lf,by go_num,by rw [← HJ.out,gY _ _ HE.out]⟩
    case measure=>simp [zi];omega
set_option maxHeartbeats 400000 in
theorem IU (s:ByteArray) (hs:s.size≤zf) (p:Int) (hp:(s.size:Int)<p) (w:yy) :
 yz prog 195 #[ze s,yv yx p] w fun e w'=>e=zd (yv yx (qt s.data.toList s.size))∧w=w':=by
 have aa:=hs;unfold zf at hs;have hlen:s.data.toList.length=s.size:=lh;have HN:=yw hlen;clear hlen;have HM:=yw aa;clear aa;obtain ⟨b,hb⟩:∃ b,qt s.data.toList s.size=b:=⟨_,rfl⟩;rw [hb];have HB:=yw hb;clear hb;go_enter func195,ntmps195;go_wp2
 all_goals
  go_loop [1] (fun i=>∃ j:Nat,j≤s.size∧i=yv yx j∧qt s.data.toList j=b) (fun i=>(zi i).toNat)
  case atStart=>exact ⟨s.size,zp _,by first|rfl|(simp;omega),HB.out⟩
  case round =>
   obtain ⟨j,hj,rfl,hbj⟩:=hrel;have HJ:=yw hbj;clear hbj;by_cases he:o9 s.data.toList j
   ·have HE:=yw he;clear he;go_wp2_with (go_at_call 107;refine (jM s HM.out j HE.out _).mono ?_;rintro e w' ⟨rfl,rfl⟩);go_ret;exact ⟨aK (by rw [← HJ.out,dE _ _ HE.out]),rfl⟩
   ·have ab:j≠0:=fun h=>he (by rw [h];exact bN _);have hjs:j<s.size:=by
     rcases zw j s.size with h|h
     ·exact h
     ·exact absurd (.inr (.inl (by rw [HN.out];omega))) he
    have HE:=yw he;clear he;go_wp2_with (go_at_call 107;refine (mY s HM.out j hjs HE.out _).mono ?_;rintro e w' ⟨rfl,rfl⟩)
    go_round
    case rel =>
     obtain ⟨i,rfl⟩:∃ i,j=i+1:=⟨j - 1,lf⟩;exact ⟨i,lf,by go_num,by rw [← HJ.out,gY _ _ HE.out]⟩
    case measure=>simp [zi];omega
theorem jY (s:ByteArray) (hs:s.size≤zf) (p:Int) (w:yy) :
 yz prog 195 #[ze s,yv yx p] w fun e w'=>e=zd (yv yx (mi s.data.toList p))∧w=w':=by
 have hlen:s.data.toList.length=s.size:=lh;by_cases h0:p<0
 ·have e:mi s.data.toList p=qt s.data.toList 0:=by unfold mi;rw [if_pos h0];rfl
  rw [e];exact NR s hs p h0 w
 ·by_cases h1:(s.size:Int)<p
  ·have e:mi s.data.toList p=qt s.data.toList s.size:=by unfold mi;rw [if_neg h0,if_pos lf,dE _ _ (by rw [← hlen];exact jP _),hlen]
   rw [e];exact IU s hs p h1 w
  ·obtain ⟨k,rfl⟩:=zv (Int.not_lt.1 h0);have e:mi s.data.toList k=qt s.data.toList k:=by unfold mi;rw [if_neg h0,if_neg lf,zt]
   rw [e];exact PX s hs k lf w
theorem RC (s:ByteArray) (i:Nat):(s.get! i).toNat=bt s.data.toList i:=by
 by_cases h:i<s.size
 ·rw [cF s i h];simp [ByteArray.get!,getElem!_pos,h];rfl
 ·rw [eP _ _ lq];have:s.get! i=0:=by
   show s.data[i]! = 0;rw [getElem!_neg s.data i (by simpa using h)];rfl
  rw [this];rfl
theorem lW (s:ByteArray) (i:Nat) (h:i<s.size) :
 Aa s i=if (pz (s.data.toList.drop i)).2=0 then (65533,1) else pz (s.data.toList.drop i):=by
 rw [eQ _ i (by simpa using h)];have c:∀ k,(decide (i+k<s.size) && bt s.data.toList (i+k) / 64 == 2)=decide (128≤bt s.data.toList (i+k)∧bt s.data.toList (i+k)≤191):=by
  intro k;by_cases hk:i+k<s.size
  ·rw [decide_eq_true hk,Bool.true_and,Bool.eq_iff_iff];simp;omega
  ·rw [decide_eq_false hk,Bool.false_and,eP _ _ lq];rfl
 simp only [Aa,RC,c,Nat.add_zero];generalize bt s.data.toList i=b0;rw [show i+1+1=i+2 from rfl,show i+1+2=i+3 from rfl];generalize bt s.data.toList (i+1)=b1;generalize bt s.data.toList (i+2)=b2;generalize bt s.data.toList (i+3)=b3;by_cases h1:b0<128
 ·have T:tk b0 b1 b2 b3=(b0,1):=by unfold tk;rw [if_pos h1]
  rw [if_pos h1,T];rfl
 rw [if_neg h1];by_cases h2:b0 / 32=6∧128≤b1∧b1≤191
 ·rw [if_pos lq];by_cases h3:128≤b0 % 32 * 64+b1 % 64
  ·have T:tk b0 b1 b2 b3=((b0 - 192) * 64+(b1 - 128),2):=by unfold tk;rw [if_neg h1,if_pos lf]
   rw [if_pos h3,T,if_neg lh];simp only [zk,and_true];omega
  ·have T:tk b0 b1 b2 b3=(0,0):=by unfold tk;rw [if_neg h1,if_neg lf,if_neg lf,if_neg lf]
   rw [if_neg h3,T];rfl
 rw [if_neg lq];by_cases h4:b0 / 16=14∧(128≤b1∧b1≤191)∧128≤b2∧b2≤191
 ·rw [if_pos lq];have E:b0 % 16 * 4096+b1 % 64 * 64+b2 % 64=(b0 - 224) * 4096+(b1 - 128) * 64+(b2 - 128):=lf;rw [E];by_cases h5:(b0=224→160≤b1)∧(b0=237→b1<160)
  ·have T:tk b0 b1 b2 b3=((b0 - 224) * 4096+(b1 - 128) * 64+(b2 - 128),3):=by unfold tk;rw [if_neg h1,if_neg lf,if_pos lf]
   rw [if_pos (by simp [zj];omega),T,if_neg lh]
  ·have T:tk b0 b1 b2 b3=(0,0):=by unfold tk;rw [if_neg h1,if_neg lf,if_neg lf,if_neg lf]
   rw [if_neg (by simp [zj];omega),T];rfl
 rw [if_neg lq];by_cases h6:b0 / 8=30∧(128≤b1∧b1≤191)∧(128≤b2∧b2≤191)∧128≤b3∧b3≤191
 ·rw [if_pos lq];have E:b0 % 8 * 262144+b1 % 64 * 4096+b2 % 64 * 64+b3 % 64=(b0 - 240) * 262144+(b1 - 128) * 4096+(b2 - 128) * 64+(b3 - 128):=lf;rw [E];by_cases h5:b0<245∧(b0=240→144≤b1)∧(b0=244→b1<144)
  ·have T:tk b0 b1 b2 b3=((b0 - 240) * 262144+(b1 - 128) * 4096+(b2 - 128) * 64+(b3 - 128),4):=by unfold tk;rw [if_neg h1,if_neg lf,if_neg lf,if_pos lf]
   rw [if_pos (by simp [zj];omega),T,if_neg lh]
  ·have T:tk b0 b1 b2 b3=(0,0):=by unfold tk;rw [if_neg h1,if_neg lf,if_neg lf,if_neg lf]
   rw [if_neg (by simp [zj];omega),T];rfl
 ·have T:tk b0 b1 b2 b3=(0,0):=by unfold tk;rw [if_neg h1,if_neg lf,if_neg lf,if_neg lf]
  rw [if_neg lq,T];rfl
theorem kI (x:Int) (xs:List Int):pz (zg (x::xs)).data.toList=tk (bt (zg (x::xs)).data.toList 0) (bt (zg (x::xs)).data.toList 1) (bt (zg (x::xs)).data.toList 2) (bt (zg (x::xs)).data.toList 3):=by
 unfold pz;rw [if_neg (by simp [zg])]
theorem EX (c:Int) (h:sz c≠0):0≤c∧pz (rx c).data.toList=(c.toNat,sz c)∧(rx c).size=sz c:=by
 by_cases hb:c<0∨1114111<c∨(55296≤c∧c≤57343)
 ·exact absurd (by unfold sz;rw [if_pos hb]) h
 refine ⟨lf,?_⟩;by_cases h1:c<128
 ·have hs:sz c=1:=by unfold sz;rw [if_neg hb,if_pos h1]
  rw [hs,wN c lf h1,kI,iI,bD _ 0 lh];refine ⟨?_,rfl⟩;simp only [zu];unfold tk;rw [if_pos lf];simp only [zk,and_true];omega
 by_cases h2:c<2048
 ·have hs:sz c=2:=by unfold sz;rw [if_neg hb,if_neg h1,if_pos h2]
  rw [hs,vK c lf h2,kI,iI,bD _ 0 lh,bD _ 1 lh];refine ⟨?_,rfl⟩;simp only [zu,zx];unfold tk;rw [if_neg lf,if_pos lf];simp only [zk,and_true];omega
 by_cases h3:c<65536
 ·have hs:sz c=3:=by unfold sz;rw [if_neg hb,if_neg h1,if_neg h2,if_pos h3]
  rw [hs,uN c lf h3 lf,kI,iI,bD _ 0 lh,bD _ 1 lh,bD _ 2 lh];refine ⟨?_,rfl⟩;simp only [zu,zx];unfold tk;rw [if_neg lf,if_neg lf,if_pos lf];simp only [zk,and_true];omega
 ·have hs:sz c=4:=by unfold sz;rw [if_neg hb,if_neg h1,if_neg h2,if_neg h3]
  rw [hs,uZ c lf lf,kI,iI,bD _ 0 lh,bD _ 1 lh,bD _ 2 lh,bD _ 3 lh];refine ⟨?_,rfl⟩;simp only [zu,zx];unfold tk;rw [if_neg lf,if_neg lf,if_neg lf,if_pos lf];simp only [zk,and_true];omega
def td (n:Nat):Nat:=if n=2 then 192 else if n=3 then 224 else 240
def sg (l:List UInt8):Int:=
 if l.length=1 then bt l 0 else if bt l 0<td l.length then -1 else s9 l 0 (bt l 0 - td l.length) (l.length - 1)
theorem pH (l:List UInt8) (v:Nat) (hv:v<256) (j:Nat) (hj:j≤3):s9 l 0 v j<256 * 262144+262144:=by
 match j,hj with
 | 0,_=>simp only [s9];omega
 | 1,_=>simp only [s9];omega
 | 2,_=>simp only [s9];omega
 | 3,_=>simp only [s9];omega
set_option maxHeartbeats 400000 in
theorem MT (s:ByteArray) (hs:s.size=1) (w:yy) :
 yz prog 126 #[ze s] w fun e w'=>e=zd (yv yx (sg s.data.toList))∧w=w':=by
 have hlen:s.data.toList.length=s.size:=lh;have h0:0<s.size:=lf;have e:sg s.data.toList=(s[0].toNat:Nat):=by unfold sg;rw [if_pos lf,cF s 0 h0]
 rw [e];have hz:((s.size:Int) == 1)=true:=lq;have aa:=s[0].toNat_lt;clear hs hlen e;go_enter func126,ntmps126;go_wp2;go_ret;exact ⟨rfl,rfl⟩
set_option maxHeartbeats 400000 in
theorem yI (s:ByteArray) (n:Nat) (hs:s.size=n) (h1:2≤n) (h4:n≤4) (w:yy) :
 yz prog 126 #[ze s] w fun e w'=>e=zd (yv yx (sg s.data.toList))∧w=w':=by
 have hlen:s.data.toList.length=s.size:=lh;have h0:0<s.size:=lf;obtain ⟨r,hr⟩:∃ r,sg s.data.toList=r:=⟨_,rfl⟩;rw [hr];have hb:=cF s 0 h0;have af:=s[0].toNat_lt;obtain ⟨b0,aa⟩:∃ b,s[0].toNat=b:=⟨_,rfl⟩;unfold sg at hr;rw [if_neg lf,hlen,hs,hb] at hr;have ag:((s.size:Int) == 1)=false:=lq;have hlo:2≤s.size:=lf;have hhi:s.size≤4:=lf;by_cases hlt:s[0].toNat<td n
 ·rw [if_pos hlt] at hr;have HR:=yw hr;clear hr;by_cases e2:n=2
  ·have ad:((s.size:Int) == 2)=true:=lq;rw [e2] at hlt;have hl:s[0].toNat<192:=hlt;clear hb aa hlen hs hlt e2;go_enter func126,ntmps126;go_wp2;go_ret;exact ⟨aK HR.out,rfl⟩
  have ad:((s.size:Int) == 2)=false:=lq;by_cases e3:n=3
  ·have ae:((s.size:Int) == 3)=true:=lq;rw [e3] at hlt;have hl:s[0].toNat<224:=hlt;clear hb aa hlen hs hlt e2 e3;go_enter func126,ntmps126;go_wp2;go_ret;exact ⟨aK HR.out,rfl⟩
  have ae:((s.size:Int) == 3)=false:=lq;obtain rfl:n=4:=lf;have hl:s[0].toNat<240:=hlt;clear hb aa hlen hs hlt e2 e3;go_enter func126,ntmps126;go_wp2;go_ret;exact ⟨aK HR.out,rfl⟩
 ·rw [if_neg hlt] at hr;rw [show s9 s.data.toList 0 (s[0].toNat - td n) (n - 1)=s9 s.data.toList 0 (s[0].toNat - td n) (s.size - 1) by rw [hs]] at hr;by_cases e2:n=2
  ·have ad:((s.size:Int) == 2)=true:=lq;rw [e2] at hlt hr;have hl:192≤s[0].toNat:=zy.1 hlt;clear hlt;have HR:=yw hr;clear hr;clear hb aa hlen hs e2;have HV:Hid (s9 s.data.toList 0 (s[0].toNat - 192) 0=s[0].toNat - 192):=rfl;go_enter func126,ntmps126;go_wp2
   go_loop [3,4] (fun f i=>∃ j:Nat,j+1≤s.size∧i=yv yx (j+1:Nat)∧f=yv yx (s9 s.data.toList 0 (s[0].toNat - 192) j)) (fun _ i=>s.size - (zi i).toNat)
   case atStart=>exact ⟨0,lf,rfl,by rw [HV.out];go_num⟩
   case round =>
    obtain ⟨j,hj,rfl,rfl⟩:=hrel;by_cases hlt:j+1<s.size
    ·have hbj:=cF s (j+1) hlt;have hac:=pH s.data.toList (s[0].toNat - 192) lf j lf;have ab:=s[j+1].toNat_lt;obtain ⟨ac,ha⟩:∃ ac,s9 s.data.toList 0 (s[0].toNat - 192) j=ac:=⟨_,rfl⟩;rw [ha] at hac ⊢;have HA:=yw ha;clear ha;have HJ:=yw hbj;clear hbj;go_wp2
     go_round
     case rel =>
      refine ⟨j+1,lf,by go_num,?_⟩;rw [show s9 s.data.toList 0 (s[0].toNat - 192) (j+1)=s9 s.data.toList 0 (s[0].toNat - 192) j * 64+bt s.data.toList (0+1+j) % 64 from rfl,HA.out,show 0+1+j=j+1 by omega,HJ.out]
      go_num
     case measure=>simp [zi];omega
    ·have hend:s.size≤j+1:=lf;go_wp2;go_ret;exact ⟨aK (by rw [← HR.out,show s.size - 1=j by omega];rfl),rfl⟩
  have ad:((s.size:Int) == 2)=false:=lq;by_cases e3:n=3
  ·have ae:((s.size:Int) == 3)=true:=lq;rw [e3] at hlt hr;have hl:224≤s[0].toNat:=zy.1 hlt;clear hlt e3;have HR:=yw hr;clear hr;clear hb aa hlen hs e2;have HV:Hid (s9 s.data.toList 0 (s[0].toNat - 224) 0=s[0].toNat - 224):=rfl;go_enter func126,ntmps126;go_wp2
   go_loop [3,4] (fun f i=>∃ j:Nat,j+1≤s.size∧i=yv yx (j+1:Nat)∧f=yv yx (s9 s.data.toList 0 (s[0].toNat - 224) j)) (fun _ i=>s.size - (zi i).toNat)
   case atStart=>exact ⟨0,lf,rfl,by rw [HV.out];go_num⟩
   case round =>
    obtain ⟨j,hj,rfl,rfl⟩:=hrel;by_cases hlt:j+1<s.size
    ·have hbj:=cF s (j+1) hlt;have hac:=pH s.data.toList (s[0].toNat - 224) lf j lf;have ab:=s[j+1].toNat_lt;obtain ⟨ac,ha⟩:∃ ac,s9 s.data.toList 0 (s[0].toNat - 224) j=ac:=⟨_,rfl⟩;rw [ha] at hac ⊢;have HA:=yw ha;clear ha;have HJ:=yw hbj;clear hbj;go_wp2
     go_round
     case rel =>
      refine ⟨j+1,lf,by go_num,?_⟩;rw [show s9 s.data.toList 0 (s[0].toNat - 224) (j+1)=s9 s.data.toList 0 (s[0].toNat - 224) j * 64+bt s.data.toList (0+1+j) % 64 from rfl,HA.out,show 0+1+j=j+1 by omega,HJ.out]
      go_num
     case measure=>simp [zi];omega
    ·have hend:s.size≤j+1:=lf;go_wp2;go_ret;exact ⟨aK (by rw [← HR.out,show s.size - 1=j by omega];rfl),rfl⟩
  have ae:((s.size:Int) == 3)=false:=lq;obtain rfl:n=4:=lf;have hl:240≤s[0].toNat:=zy.1 hlt;clear hlt e3;have HR:=yw hr;clear hr;clear hb aa hlen hs e2;have HV:Hid (s9 s.data.toList 0 (s[0].toNat - 240) 0=s[0].toNat - 240):=rfl;go_enter func126,ntmps126;go_wp2
  go_loop [3,4] (fun f i=>∃ j:Nat,j+1≤s.size∧i=yv yx (j+1:Nat)∧f=yv yx (s9 s.data.toList 0 (s[0].toNat - 240) j)) (fun _ i=>s.size - (zi i).toNat)
  case atStart=>exact ⟨0,lf,rfl,by rw [HV.out];go_num⟩
  case round =>
   obtain ⟨j,hj,rfl,rfl⟩:=hrel;by_cases hlt:j+1<s.size
   ·have hbj:=cF s (j+1) hlt;have hac:=pH s.data.toList (s[0].toNat - 240) lf j lf;have ab:=s[j+1].toNat_lt;obtain ⟨ac,ha⟩:∃ ac,s9 s.data.toList 0 (s[0].toNat - 240) j=ac:=⟨_,rfl⟩;rw [ha] at hac ⊢;have HA:=yw ha;clear ha;have HJ:=yw hbj;clear hbj;go_wp2
    go_round
    case rel =>
     refine ⟨j+1,lf,by go_num,?_⟩;rw [show s9 s.data.toList 0 (s[0].toNat - 240) (j+1)=s9 s.data.toList 0 (s[0].toNat - 240) j * 64+bt s.data.toList (0+1+j) % 64 from rfl,HA.out,show 0+1+j=j+1 by omega,HJ.out]
     go_num
    case measure=>simp [zi];omega
   ·have hend:s.size≤j+1:=lf;go_wp2;go_ret;exact ⟨aK (by rw [← HR.out,show s.size - 1=j by omega];rfl),rfl⟩
theorem AN (s:ByteArray) (h1:1≤s.size) (h4:s.size≤4) (w:yy) :
 yz prog 126 #[ze s] w fun e w'=>e=zd (yv yx (sg s.data.toList))∧w=w':=by
 by_cases h:s.size=1
 ·exact MT s h w
 ·exact yI s s.size rfl lf h4 w
end Go.Proofs.YtbagenpobcgjnaaGreat
