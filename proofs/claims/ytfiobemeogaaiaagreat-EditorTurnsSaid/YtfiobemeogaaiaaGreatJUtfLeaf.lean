/-
  Joined: UtfLeaf, UtfTake, Conv, UtfPut, UtfEdge, UtfLives, UtfBack, UtfDecode, LawPuts, UtfNumber, NumRef.
-/
import Derived.Test.YtfiobemeogaaiaaGreatRows
import Derived.Test.YtfiobemeogaaiaaGreatJCommon
namespace Go.Proofs.YtfiobemeogaaiaaGreat
open Go.RowKit
set_option maxHeartbeats 400000 in
theorem qJ (c:Int) (w:World) :
 Calls Tryz.prog 186 #[.int .i32 c] w fun e w'=>e=.returned (.int .i64 (sz c))∧w=w':=by
 by_cases h0:c<0
 ·go_enter Tryz.func186,Tryz.ntmps186
  go_wp2
  go_ret
  exact ⟨aY (by unfold sz;rw [if_pos (by omega)];rfl),rfl⟩
 by_cases h1:1114111<c
 ·go_enter Tryz.func186,Tryz.ntmps186
  go_wp2
  go_ret
  exact ⟨aY (by unfold sz;rw [if_pos (by omega)];rfl),rfl⟩
 by_cases h2:c<128
 ·go_enter Tryz.func186,Tryz.ntmps186
  go_wp2
  go_ret
  exact ⟨aY (by unfold sz;rw [if_neg (by omega),if_pos (by omega)];rfl),rfl⟩
 by_cases h3:c<2048
 ·go_enter Tryz.func186,Tryz.ntmps186
  go_wp2
  go_ret
  exact ⟨aY (by unfold sz;rw [if_neg (by omega),if_neg (by omega),if_pos (by omega)];rfl),rfl⟩
 by_cases h4:55296≤c
 ·by_cases h5:c≤57343
  ·go_enter Tryz.func186,Tryz.ntmps186
   go_wp2
   go_ret
   exact ⟨aY (by unfold sz;rw [if_pos (by omega)];rfl),rfl⟩
  by_cases h6:c<65536
  ·go_enter Tryz.func186,Tryz.ntmps186
   go_wp2
   go_ret
   exact ⟨aY (by unfold sz;rw [if_neg (by omega),if_neg (by omega),if_neg (by omega),if_pos (by omega)];rfl),rfl⟩
  ·go_enter Tryz.func186,Tryz.ntmps186
   go_wp2
   go_ret
   exact ⟨aY (by unfold sz;rw [if_neg (by omega),if_neg (by omega),if_neg (by omega),if_neg (by omega)];rfl),rfl⟩
 ·have h6:c<65536:=by omega
  go_enter Tryz.func186,Tryz.ntmps186
  go_wp2
  go_ret
  exact ⟨aY (by unfold sz;rw [if_neg (by omega),if_neg (by omega),if_neg (by omega),if_pos (by omega)];rfl),rfl⟩
theorem gA (b:Nat) (h1:128≤b) (h2:b≤191) (w:World) :
 Calls Tryz.prog 149 #[.int .u8 b] w fun e w'=>e=.returned (.bool true)∧w=w':=by
 go_enter Tryz.func149,Tryz.ntmps149
 go_wp2
 go_ret
 exact ⟨by simp;omega,rfl⟩
theorem gY (b:Nat) (h:¬ (128≤b∧b≤191)) (w:World) :
 Calls Tryz.prog 149 #[.int .u8 b] w fun e w'=>e=.returned (.bool false)∧w=w':=by
 by_cases h1:128≤b
 ·have h2:¬ b≤191:=by omega
  clear h
  go_enter Tryz.func149,Tryz.ntmps149
  go_wp2
  go_ret
  exact ⟨by simp;omega,rfl⟩
 ·clear h
  go_enter Tryz.func149,Tryz.ntmps149
  go_wp2
  go_ret
  exact ⟨rfl,rfl⟩
set_option maxRecDepth 100000 in
set_option maxHeartbeats 400000 in
theorem IP (b:Nat) (h:b<128) (w:World) :
 Calls Tryz.prog 185 #[.int .u8 b] w fun e w'=>e=.returned (.tuple #[.int .i32 (ld b).1,.int .i64 (ld b).2])∧w=w':=by
 have e0:ld b=(b,1):=by unfold ld;rw [if_pos h]
 rw [e0]
 clear e0
 go_enter Tryz.func185,Tryz.ntmps185
 go_wp2
 go_ret2
 exact ⟨by simp,rfl⟩
set_option maxRecDepth 100000 in
set_option maxHeartbeats 400000 in
theorem FI (b:Nat) (h:128≤b) (h':b<192) (w:World) :
 Calls Tryz.prog 185 #[.int .u8 b] w fun e w'=>e=.returned (.tuple #[.int .i32 (ld b).1,.int .i64 (ld b).2])∧w=w':=by
 have e0:ld b=(0,0):=by unfold ld;rw [if_neg (by omega),if_pos (by omega)]
 rw [e0]
 clear e0
 go_enter Tryz.func185,Tryz.ntmps185
 go_wp2
 go_ret2
 exact ⟨by simp,rfl⟩
set_option maxRecDepth 100000 in
set_option maxHeartbeats 400000 in
theorem IU (b:Nat) (h:192≤b) (h':b<224) (w:World) :
 Calls Tryz.prog 185 #[.int .u8 b] w fun e w'=>e=.returned (.tuple #[.int .i32 (ld b).1,.int .i64 (ld b).2])∧w=w':=by
 have e0:ld b=(b % 32,2):=by unfold ld;rw [if_neg (by omega),if_neg (by omega),if_pos (by omega)]
 rw [e0]
 clear e0
 go_enter Tryz.func185,Tryz.ntmps185
 go_wp2
 go_ret2
 exact ⟨by simp,rfl⟩
set_option maxRecDepth 100000 in
set_option maxHeartbeats 400000 in
theorem GZ (b:Nat) (h:224≤b) (h':b<240) (w:World) :
 Calls Tryz.prog 185 #[.int .u8 b] w fun e w'=>e=.returned (.tuple #[.int .i32 (ld b).1,.int .i64 (ld b).2])∧w=w':=by
 have e0:ld b=(b % 16,3):=by unfold ld;rw [if_neg (by omega),if_neg (by omega),if_neg (by omega),if_pos (by omega)]
 rw [e0]
 clear e0
 go_enter Tryz.func185,Tryz.ntmps185
 go_wp2
 go_ret2
 exact ⟨by simp,rfl⟩
set_option maxRecDepth 100000 in
set_option maxHeartbeats 400000 in
theorem GX (b:Nat) (h:240≤b) (h':b<248) (w:World) :
 Calls Tryz.prog 185 #[.int .u8 b] w fun e w'=>e=.returned (.tuple #[.int .i32 (ld b).1,.int .i64 (ld b).2])∧w=w':=by
 have e0:ld b=(b % 8,4):=by unfold ld;rw [if_neg (by omega),if_neg (by omega),if_neg (by omega),if_neg (by omega),if_pos (by omega)]
 rw [e0]
 clear e0
 go_enter Tryz.func185,Tryz.ntmps185
 go_wp2
 go_ret2
 exact ⟨by simp,rfl⟩
set_option maxRecDepth 100000 in
set_option maxHeartbeats 400000 in
theorem FZ (b:Nat) (h:248≤b) (h':b<256) (w:World) :
 Calls Tryz.prog 185 #[.int .u8 b] w fun e w'=>e=.returned (.tuple #[.int .i32 (ld b).1,.int .i64 (ld b).2])∧w=w':=by
 have e0:ld b=(0,0):=by unfold ld;rw [if_neg (by omega),if_neg (by omega),if_neg (by omega),if_neg (by omega),if_neg (by omega)]
 rw [e0]
 clear e0
 go_enter Tryz.func185,Tryz.ntmps185
 go_wp2
 go_ret2
 exact ⟨by simp,rfl⟩
theorem DE (b:Nat) (hb:b<256) (w:World) :
 Calls Tryz.prog 185 #[.int .u8 b] w fun e w'=>e=.returned (.tuple #[.int .i32 (ld b).1,.int .i64 (ld b).2])∧w=w':=by
 by_cases h1:b<128
 ·exact IP b h1 w
 by_cases h2:b<192
 ·exact FI b (by omega) h2 w
 by_cases h3:b<224
 ·exact IU b (by omega) h3 w
 by_cases h4:b<240
 ·exact GZ b (by omega) h4 w
 by_cases h5:b<248
 ·exact GX b (by omega) h5 w
 ·exact FZ b (by omega) hb w
open Lib (hid)
def OnUp (l:List UInt8) (k j:Nat):Prop:=∀ m,m<j→128≤bt l (k+1+m)∧bt l (k+1+m)≤191
theorem zT (l:List UInt8) (k:Nat):OnUp l k 0:=fun m h=>absurd h (Nat.not_lt_zero m)
theorem xW {l:List UInt8} {k j:Nat} (h:OnUp l k j) (g:128≤bt l (k+1+j)∧bt l (k+1+j)≤191):OnUp l k (j+1):=fun m hm=>by
 by_cases e:m=j
 ·subst e;exact g
 ·exact h m (by omega)
set_option maxRecDepth 100000 in
set_option maxHeartbeats 400000 in
theorem BW (s:ByteArray) (hs:s.size≤maxLen) (k:Nat) (hk:k<s.size) (w:World) (r m:Nat) (hR0:tkl (s.data.toList.drop k)=(r,m)) :
 Calls Tryz.prog 169 #[.string s,.int .i64 k] w fun e w'=>e=.returned (.tuple #[.int .i32 r,.int .i64 m])∧w=w':=by
 unfold maxLen at hs
 have hlen:s.data.toList.length=s.size:=by simp
 have L:=DE (s[k].toNat) s[k].toNat_lt
 have hb:=fW s k hk
 have hld:=JF (s[k].toNat)
 obtain ⟨v,n,hvn⟩:∃ v n,ld (s[k].toNat)=(v,n):=⟨_,_,rfl⟩
 rw [hvn] at L hld
 simp only at L hld
 obtain ⟨ab,hv⟩:=hld
 have HL:=hid L;clear L
 have HR:=hid hR0;clear hR0
 by_cases h0:n=0
 ·have hr:tkl (s.data.toList.drop k)=(0,0):=xJ _ _ (by omega) (by rw [hb,hvn];exact h0)
  rw [HR.out] at hr
  simp only [Prod.mk.injEq] at hr
  obtain ⟨rfl,rfl⟩:=hr
  subst h0
  clear hb hvn hlen
  go_enter Tryz.func169,Tryz.ntmps169
  go_wp2_with (go_at_call 185;refine (HL.out _).mono ?_;rintro e w' ⟨rfl,rfl⟩)
  go_ret2
  exact ⟨rfl,rfl⟩
 ·by_cases hsh:s.size<k+n
  ·have hr:tkl (s.data.toList.drop k)=(0,0):=wN _ _ (by omega) (by rw [hb,hvn,hlen];exact hsh)
   rw [HR.out] at hr
   simp only [Prod.mk.injEq] at hr
   obtain ⟨rfl,rfl⟩:=hr
   clear hb hvn hlen
   have hz:((n:Int) == 0)=false:=by simp;omega
   go_enter Tryz.func169,Tryz.ntmps169
   go_wp2_with (go_at_call 185;refine (HL.out _).mono ?_;rintro e w' ⟨rfl,rfl⟩)
   go_ret2
   exact ⟨rfl,rfl⟩
  ·have hz:((n:Int) == 0)=false:=by simp;omega
   have HB:=hid hb;clear hb
   have HV:=hid hvn;clear hvn
   have HN:=hid hlen;clear hlen
   go_enter Tryz.func169,Tryz.ntmps169
   go_wp2_with (go_at_call 185;refine (HL.out _).mono ?_;rintro e w' ⟨rfl,rfl⟩)
   go_loop [6,37] (fun c i=>∃ j:Nat,j+1≤n∧i=.int .i64 j∧c=.int .i32 (acc s.data.toList k v j)∧OnUp s.data.toList k j) (fun _ i=>n - (intOf i).toNat)
   case atStart=>exact ⟨0,by omega,rfl,rfl,zT _ _⟩
   case round =>
    obtain ⟨j,hj,rfl,rfl,hon⟩:=hrel
    by_cases hlt:j+1<n
    ·have hi:k+1+j<s.size:=by omega
     have hbj:=fW s (k+1+j) hi
     have hac:acc s.data.toList k v j<32768:=by
      have h1:=yU s.data.toList k j
      rw [HB.out,HV.out] at h1
      exact h1 hlt
     have aa:=s[k+1+j].toNat_lt
     obtain ⟨ac,ha⟩:∃ ac,acc s.data.toList k v j=ac:=⟨_,rfl⟩
     rw [ha] at hac ⊢
     have HA:=hid ha;clear ha
     have HJ:=hid hbj;clear hbj
     by_cases h1:128≤s[k+1+j].toNat∧s[k+1+j].toNat≤191
     ·obtain ⟨h1,h2⟩:=h1
      go_wp2_with (go_at_call 149;refine (gA _ h1 h2 _).mono ?_;rintro e w' ⟨rfl,rfl⟩)
      go_round
      case rel =>
       refine ⟨j+1,by omega,by go_num,?_,xW hon (by rw [HJ.out];exact ⟨h1,h2⟩)⟩
       rw [show acc s.data.toList k v (j+1)=acc s.data.toList k v j * 64+bt s.data.toList (k+1+j) % 64 from rfl,HA.out,HJ.out]
       go_num
      case measure=>simp [intOf];omega
     ·have hr:tkl (s.data.toList.drop k)=(0,0):=qY _ k j (by rw [HN.out];omega) (by rw [HB.out,HV.out];exact hlt) (by rw [HJ.out];exact h1)
      rw [HR.out] at hr
      simp only [Prod.mk.injEq] at hr
      have HX:=hid hr;clear hr
      have H1:=hid h1;clear h1
      go_wp2_with (go_at_call 149;refine (gY _ H1.out _).mono ?_;rintro e w' ⟨rfl,rfl⟩)
      go_ret2
      exact ⟨mK (by rw [HX.out.1];rfl) (by rw [HX.out.2];rfl),rfl⟩
    ·obtain rfl:n=j+1:=by omega
     have hall:=DS s.data.toList k (by rw [HN.out];exact hk) (by rw [HB.out,HV.out];simp) (by rw [HB.out,HV.out];exact fun m hm=>hon m (by simp at hm;exact hm))
     rw [HB.out,HV.out] at hall
     simp only [Nat.add_sub_cancel] at hall
     obtain ⟨ac,ha⟩:∃ ac,acc s.data.toList k v j=ac:=⟨_,rfl⟩
     rw [ha] at hall ⊢
     rw [HR.out] at hall
     clear hon ha
     by_cases hsz:sz (ac:Int)=j+1
     ·rw [if_pos hsz] at hall
      simp only [Prod.mk.injEq] at hall
      have HX:=hid hall;clear hall
      have HS:=hid hsz;clear hsz
      have hne:((sz (ac:Int):Int) != (j:Int)+1)=false:=by rw [HS.out];simp
      go_wp2_with (go_at_call 186;refine (qJ _ _).mono ?_;rintro e w' ⟨rfl,rfl⟩)
      go_ret2
      exact ⟨mK (by rw [HX.out.1]) (by rw [HX.out.2];simp),rfl⟩
     ·rw [if_neg hsz] at hall
      simp only [Prod.mk.injEq] at hall
      have HX:=hid hall;clear hall
      have hne:((sz (ac:Int):Int) != (j:Int)+1)=true:=by simp;omega
      clear hsz
      go_wp2_with (go_at_call 186;refine (qJ _ _).mono ?_;rintro e w' ⟨rfl,rfl⟩)
      go_ret2
      exact ⟨mK (by rw [HX.out.1];rfl) (by rw [HX.out.2];rfl),rfl⟩
theorem aI {w:World} {base e size n:Nat} {v:Value} {xs:List Value} (h:w.ownsRow base e size v n xs):∀ k,v.ownBlock=some k→base≤k:=by
 intro k hk
 rcases h.2 with ⟨rfl,_⟩|⟨g,cap,cur,rfl,hb,_⟩
 ·simp [Value.ownBlock] at hk
 ·simp [Value.ownBlock] at hk;omega
def edgeB (l:List UInt8) (p:Int):Bool:=decide (0≤p∧edge l p.toNat)
set_option maxRecDepth 100000 in
theorem gL (s:ByteArray) (hs:s.size≤maxLen) (k:Nat) (h:edge s.data.toList k) (w:World) :
 Calls Tryz.prog 124 #[.string s,.int .i64 k] w fun e w'=>e=.returned (.bool true)∧w=w':=by
 unfold maxLen at hs
 have hlen:s.data.toList.length=s.size:=by simp
 unfold edge at h
 rw [hlen] at h
 by_cases h0:k=0
 ·clear h hlen
  subst h0
  go_enter Tryz.func124,Tryz.ntmps124
  go_wp2
  go_ret
  exact ⟨by simp,rfl⟩
 have hz:((k:Int) == 0)=false:=by simp;omega
 by_cases h1:k=s.size
 ·have aa:((k:Int) == (s.size:Int))=true:=by simp;omega
  have hle:k≤s.size:=by omega
  have hge:s.size≤k:=by omega
  clear h hlen h1
  go_enter Tryz.func124,Tryz.ntmps124
  go_wp2
  go_ret
  exact ⟨by simp,rfl⟩
 ·have aa:((k:Int) == (s.size:Int))=false:=by simp;omega
  obtain ⟨hk,hb⟩:k<s.size∧¬ (128≤bt s.data.toList k∧bt s.data.toList k≤191):=by
   rcases h with h|h|h
   ·exact absurd h h0
   ·exact absurd h h1
   ·exact h
  rw [fW s k hk] at hb
  have HB:=hid hb
  clear h hlen h1 h0 hb
  go_enter Tryz.func124,Tryz.ntmps124
  go_wp2_with (go_at_call 149;refine (gY _ HB.out _).mono ?_;rintro e w' ⟨rfl,rfl⟩)
  go_ret
  exact ⟨by simp,rfl⟩
set_option maxRecDepth 100000 in
theorem iR (s:ByteArray) (hs:s.size≤maxLen) (k:Nat) (hk:k<s.size) (h:¬ edge s.data.toList k) (w:World) :
 Calls Tryz.prog 124 #[.string s,.int .i64 k] w fun e w'=>e=.returned (.bool false)∧w=w':=by
 unfold maxLen at hs
 have hlen:s.data.toList.length=s.size:=by simp
 unfold edge at h
 rw [hlen,fW s k hk] at h
 have hz:((k:Int) == 0)=false:=by simp;omega
 have aa:((k:Int) == (s.size:Int))=false:=by simp;omega
 have h1:128≤s[k].toNat:=by omega
 have h2:s[k].toNat≤191:=by omega
 clear h hlen
 go_enter Tryz.func124,Tryz.ntmps124
 go_wp2_with (go_at_call 149;refine (gA _ h1 h2 _).mono ?_;rintro e w' ⟨rfl,rfl⟩)
 go_ret
 exact ⟨by simp,rfl⟩
set_option maxRecDepth 100000 in
theorem EI (s:ByteArray) (p:Int) (h:p<0∨(s.size:Int)<p) (w:World) :
 Calls Tryz.prog 124 #[.string s,.int .i64 p] w fun e w'=>e=.returned (.bool false)∧w=w':=by
 by_cases h0:p<0
 ·clear h
  go_enter Tryz.func124,Tryz.ntmps124
  go_wp2
  go_ret
  exact ⟨rfl,rfl⟩
 ·have h1:(s.size:Int)<p:=by omega
  clear h
  go_enter Tryz.func124,Tryz.ntmps124
  go_wp2
  go_ret
  exact ⟨rfl,rfl⟩
theorem kM (s:ByteArray) (hs:s.size≤maxLen) (p:Int) (w:World) :
 Calls Tryz.prog 124 #[.string s,.int .i64 p] w fun e w'=>e=.returned (.bool (edgeB s.data.toList p))∧w=w':=by
 have hlen:s.data.toList.length=s.size:=by simp
 by_cases h:p<0∨(s.size:Int)<p
 ·have e:edgeB s.data.toList p=false:=by
   unfold edgeB;rw [decide_eq_false_iff_not];unfold edge;rw [hlen];omega
  rw [e];exact EI s p h w
 obtain ⟨k,rfl⟩:=Int.eq_ofNat_of_zero_le (show 0≤p by omega)
 by_cases hE:edge s.data.toList k
 ·have e:edgeB s.data.toList k=true:=by unfold edgeB;rw [Int.toNat_natCast];simp [hE]
  rw [e];exact gL s hs k hE w
 ·have e:edgeB s.data.toList k=false:=by unfold edgeB;rw [Int.toNat_natCast];simp [hE]
  rw [e];exact iR s hs k (by unfold edge at hE;rw [hlen] at hE;omega) hE w
def backI (l:List UInt8) (p:Int):Nat:=if p<0 then 0 else if (l.length:Int)<p then l.length else back l p.toNat
theorem bC (l:List UInt8):edge l 0:=.inl rfl
theorem gH (l:List UInt8):edge l l.length:=.inr (.inl rfl)
set_option maxRecDepth 100000 in
set_option maxHeartbeats 400000 in
theorem FP (s:ByteArray) (hs:s.size≤maxLen) (k:Nat) (hk:k≤s.size) (w:World) :
 Calls Tryz.prog 191 #[.string s,.int .i64 k] w fun e w'=>e=.returned (.int .i64 (back s.data.toList k))∧w=w':=by
 have aa:=hs
 unfold maxLen at hs
 have hlen:s.data.toList.length=s.size:=by simp
 have HN:=hid hlen;clear hlen
 have HM:=hid aa;clear aa
 obtain ⟨b,hb⟩:∃ b,back s.data.toList k=b:=⟨_,rfl⟩
 rw [hb]
 have HB:=hid hb;clear hb
 go_enter Tryz.func191,Tryz.ntmps191
 go_wp2
 all_goals
  go_loop [1] (fun i=>∃ j:Nat,j≤k∧i=.int .i64 j∧back s.data.toList j=b) (fun i=>(intOf i).toNat)
  case atStart=>exact ⟨k,Nat.le_refl _,by first|rfl|(simp;omega),HB.out⟩
  case round =>
   obtain ⟨j,hj,rfl,hbj⟩:=hrel
   have HJ:=hid hbj;clear hbj
   by_cases he:edge s.data.toList j
   ·have HE:=hid he;clear he
    go_wp2_with (go_at_call 124;refine (gL s HM.out j HE.out _).mono ?_;rintro e w' ⟨rfl,rfl⟩)
    go_ret
    exact ⟨aY (by rw [← HJ.out,cC _ _ HE.out]),rfl⟩
   ·have ab:j≠0:=fun h=>he (by rw [h];exact bC _)
    have hjs:j<s.size:=by
     rcases Nat.lt_or_ge j s.size with h|h
     ·exact h
     ·exact absurd (.inr (.inl (by rw [HN.out];omega))) he
    have HE:=hid he;clear he
    go_wp2_with (go_at_call 124;refine (iR s HM.out j hjs HE.out _).mono ?_;rintro e w' ⟨rfl,rfl⟩)
    go_round
    case rel =>
     obtain ⟨i,rfl⟩:∃ i,j=i+1:=⟨j - 1,by omega⟩
     exact ⟨i,by omega,by go_num,by rw [← HJ.out,fA _ _ HE.out]⟩
    case measure=>simp [intOf];omega
set_option maxRecDepth 100000 in
set_option maxHeartbeats 400000 in
theorem EM (s:ByteArray) (hs:s.size≤maxLen) (p:Int) (hp:p<0) (w:World) :
 Calls Tryz.prog 191 #[.string s,.int .i64 p] w fun e w'=>e=.returned (.int .i64 (back s.data.toList 0))∧w=w':=by
 have aa:=hs
 unfold maxLen at hs
 have hlen:s.data.toList.length=s.size:=by simp
 have HN:=hid hlen;clear hlen
 have HM:=hid aa;clear aa
 obtain ⟨b,hb⟩:∃ b,back s.data.toList 0=b:=⟨_,rfl⟩
 rw [hb]
 have HB:=hid hb;clear hb
 go_enter Tryz.func191,Tryz.ntmps191
 go_wp2
 all_goals
  go_loop [1] (fun i=>∃ j:Nat,j≤0∧i=.int .i64 j∧back s.data.toList j=b) (fun i=>(intOf i).toNat)
  case atStart=>exact ⟨0,Nat.le_refl _,by first|rfl|(simp;omega),HB.out⟩
  case round =>
   obtain ⟨j,hj,rfl,hbj⟩:=hrel
   have HJ:=hid hbj;clear hbj
   by_cases he:edge s.data.toList j
   ·have HE:=hid he;clear he
    go_wp2_with (go_at_call 124;refine (gL s HM.out j HE.out _).mono ?_;rintro e w' ⟨rfl,rfl⟩)
    go_ret
    exact ⟨aY (by rw [← HJ.out,cC _ _ HE.out]),rfl⟩
   ·have ab:j≠0:=fun h=>he (by rw [h];exact bC _)
    have hjs:j<s.size:=by
     rcases Nat.lt_or_ge j s.size with h|h
     ·exact h
     ·exact absurd (.inr (.inl (by rw [HN.out];omega))) he
    have HE:=hid he;clear he
    go_wp2_with (go_at_call 124;refine (iR s HM.out j hjs HE.out _).mono ?_;rintro e w' ⟨rfl,rfl⟩)
    go_round
    case rel =>
     obtain ⟨i,rfl⟩:∃ i,j=i+1:=⟨j - 1,by omega⟩
     exact ⟨i,by omega,by go_num,by rw [← HJ.out,fA _ _ HE.out]⟩
    case measure=>simp [intOf];omega
set_option maxRecDepth 100000 in
set_option maxHeartbeats 400000 in
theorem xF (s:ByteArray) (hs:s.size≤maxLen) (p:Int) (hp:(s.size:Int)<p) (w:World) :
 Calls Tryz.prog 191 #[.string s,.int .i64 p] w fun e w'=>e=.returned (.int .i64 (back s.data.toList s.size))∧w=w':=by
 have aa:=hs
 unfold maxLen at hs
 have hlen:s.data.toList.length=s.size:=by simp
 have HN:=hid hlen;clear hlen
 have HM:=hid aa;clear aa
 obtain ⟨b,hb⟩:∃ b,back s.data.toList s.size=b:=⟨_,rfl⟩
 rw [hb]
 have HB:=hid hb;clear hb
 go_enter Tryz.func191,Tryz.ntmps191
 go_wp2
 all_goals
  go_loop [1] (fun i=>∃ j:Nat,j≤s.size∧i=.int .i64 j∧back s.data.toList j=b) (fun i=>(intOf i).toNat)
  case atStart=>exact ⟨s.size,Nat.le_refl _,by first|rfl|(simp;omega),HB.out⟩
  case round =>
   obtain ⟨j,hj,rfl,hbj⟩:=hrel
   have HJ:=hid hbj;clear hbj
   by_cases he:edge s.data.toList j
   ·have HE:=hid he;clear he
    go_wp2_with (go_at_call 124;refine (gL s HM.out j HE.out _).mono ?_;rintro e w' ⟨rfl,rfl⟩)
    go_ret
    exact ⟨aY (by rw [← HJ.out,cC _ _ HE.out]),rfl⟩
   ·have ab:j≠0:=fun h=>he (by rw [h];exact bC _)
    have hjs:j<s.size:=by
     rcases Nat.lt_or_ge j s.size with h|h
     ·exact h
     ·exact absurd (.inr (.inl (by rw [HN.out];omega))) he
    have HE:=hid he;clear he
    go_wp2_with (go_at_call 124;refine (iR s HM.out j hjs HE.out _).mono ?_;rintro e w' ⟨rfl,rfl⟩)
    go_round
    case rel =>
     obtain ⟨i,rfl⟩:∃ i,j=i+1:=⟨j - 1,by omega⟩
     exact ⟨i,by omega,by go_num,by rw [← HJ.out,fA _ _ HE.out]⟩
    case measure=>simp [intOf];omega
theorem gQ (s:ByteArray) (hs:s.size≤maxLen) (p:Int) (w:World) :
 Calls Tryz.prog 191 #[.string s,.int .i64 p] w fun e w'=>e=.returned (.int .i64 (backI s.data.toList p))∧w=w':=by
 have hlen:s.data.toList.length=s.size:=by simp
 by_cases h0:p<0
 ·have e:backI s.data.toList p=back s.data.toList 0:=by unfold backI;rw [if_pos h0];rfl
  rw [e]
  exact EM s hs p h0 w
 ·by_cases h1:(s.size:Int)<p
  ·have e:backI s.data.toList p=back s.data.toList s.size:=by unfold backI;rw [if_neg h0,if_pos (by omega),cC _ _ (by rw [← hlen];exact gH _),hlen]
   rw [e]
   exact xF s hs p h1 w
  ·obtain ⟨k,rfl⟩:=Int.eq_ofNat_of_zero_le (Int.not_lt.1 h0)
   have e:backI s.data.toList k=back s.data.toList k:=by unfold backI;rw [if_neg h0,if_neg (by omega),Int.toNat_natCast]
   rw [e]
   exact FP s hs k (by omega) w
theorem GU (s:ByteArray) (i:Nat):(s.get! i).toNat=bt s.data.toList i:=by
 by_cases h:i<s.size
 ·rw [fW s i h];simp [ByteArray.get!,getElem!_pos,h];rfl
 ·rw [dR _ _ (by simp;omega)]
  have:s.get! i=0:=by
   show s.data[i]! = 0
   rw [getElem!_neg s.data i (by simpa using h)];rfl
  rw [this];rfl
theorem hG (s:ByteArray) (i:Nat) (h:i<s.size) :
 Utf8.decode s i=if (tkl (s.data.toList.drop i)).2=0 then (65533,1) else tkl (s.data.toList.drop i):=by
 rw [dT _ i (by simpa using h)]
 have c:∀ k,(decide (i+k<s.size) && bt s.data.toList (i+k) / 64 == 2)=decide (128≤bt s.data.toList (i+k)∧bt s.data.toList (i+k)≤191):=by
  intro k
  by_cases hk:i+k<s.size
  ·rw [decide_eq_true hk,Bool.true_and,Bool.eq_iff_iff];simp;omega
  ·rw [decide_eq_false hk,Bool.false_and,dR _ _ (by simp;omega)];rfl
 simp only [Utf8.decode,GU,c,Nat.add_zero]
 generalize bt s.data.toList i=b0
 rw [show i+1+1=i+2 from rfl,show i+1+2=i+3 from rfl]
 generalize bt s.data.toList (i+1)=b1
 generalize bt s.data.toList (i+2)=b2
 generalize bt s.data.toList (i+3)=b3
 by_cases h1:b0<128
 ·have T:tk b0 b1 b2 b3=(b0,1):=by unfold tk;rw [if_pos h1]
  rw [if_pos h1,T];rfl
 rw [if_neg h1]
 by_cases h2:b0 / 32=6∧128≤b1∧b1≤191
 ·rw [if_pos (by simp;omega)]
  by_cases h3:128≤b0 % 32 * 64+b1 % 64
  ·have T:tk b0 b1 b2 b3=((b0 - 192) * 64+(b1 - 128),2):=by unfold tk;rw [if_neg h1,if_pos (by omega)]
   rw [if_pos h3,T,if_neg (by simp)]
   simp only [Prod.mk.injEq,and_true];omega
  ·have T:tk b0 b1 b2 b3=(0,0):=by unfold tk;rw [if_neg h1,if_neg (by omega),if_neg (by omega),if_neg (by omega)]
   rw [if_neg h3,T];rfl
 rw [if_neg (by simp;omega)]
 by_cases h4:b0 / 16=14∧(128≤b1∧b1≤191)∧128≤b2∧b2≤191
 ·rw [if_pos (by simp;omega)]
  have E:b0 % 16 * 4096+b1 % 64 * 64+b2 % 64=(b0 - 224) * 4096+(b1 - 128) * 64+(b2 - 128):=by omega
  rw [E]
  by_cases h5:(b0=224→160≤b1)∧(b0=237→b1<160)
  ·have T:tk b0 b1 b2 b3=((b0 - 224) * 4096+(b1 - 128) * 64+(b2 - 128),3):=by unfold tk;rw [if_neg h1,if_neg (by omega),if_pos (by omega)]
   rw [if_pos (by simp [Utf8.valid];omega),T,if_neg (by simp)]
  ·have T:tk b0 b1 b2 b3=(0,0):=by unfold tk;rw [if_neg h1,if_neg (by omega),if_neg (by omega),if_neg (by omega)]
   rw [if_neg (by simp [Utf8.valid];omega),T];rfl
 rw [if_neg (by simp;omega)]
 by_cases h6:b0 / 8=30∧(128≤b1∧b1≤191)∧(128≤b2∧b2≤191)∧128≤b3∧b3≤191
 ·rw [if_pos (by simp;omega)]
  have E:b0 % 8 * 262144+b1 % 64 * 4096+b2 % 64 * 64+b3 % 64=(b0 - 240) * 262144+(b1 - 128) * 4096+(b2 - 128) * 64+(b3 - 128):=by omega
  rw [E]
  by_cases h5:b0<245∧(b0=240→144≤b1)∧(b0=244→b1<144)
  ·have T:tk b0 b1 b2 b3=((b0 - 240) * 262144+(b1 - 128) * 4096+(b2 - 128) * 64+(b3 - 128),4):=by unfold tk;rw [if_neg h1,if_neg (by omega),if_neg (by omega),if_pos (by omega)]
   rw [if_pos (by simp [Utf8.valid];omega),T,if_neg (by simp)]
  ·have T:tk b0 b1 b2 b3=(0,0):=by unfold tk;rw [if_neg h1,if_neg (by omega),if_neg (by omega),if_neg (by omega)]
   rw [if_neg (by simp [Utf8.valid];omega),T];rfl
 ·have T:tk b0 b1 b2 b3=(0,0):=by unfold tk;rw [if_neg h1,if_neg (by omega),if_neg (by omega),if_neg (by omega)]
  rw [if_neg (by simp;omega),T];rfl
end Go.Proofs.YtfiobemeogaaiaaGreat
