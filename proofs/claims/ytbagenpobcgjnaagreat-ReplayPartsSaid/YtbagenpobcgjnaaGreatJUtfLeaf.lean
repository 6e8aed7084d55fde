/-
  Joined: UtfLeaf, UtfTake, Conv, UtfPut, UtfEdge, UtfLives, UtfBack, UtfDecode, LawPuts, UtfNumber, NumRef.
-/
import Derived.Test.YtbagenpobcgjnaaGreatRows
import Derived.Test.YtbagenpobcgjnaaGreatJCommon
namespace Go.Proofs.YtbagenpobcgjnaaGreat
open Go.Proofs.Tryz
set_option maxRecDepth 100000
open Go.RowKit
set_option maxHeartbeats 400000 in
theorem uY (c:Int) (w:World) :
 Calls prog 186 #[.int .i32 c] w fun e w'=>e=.returned (.int .i64 (sz c))∧w=w':=by
 by_cases h0:c<0
 ·go_enter func186,ntmps186
  go_wp2
  go_ret
  exact ⟨aK (by unfold sz;rw [if_pos (by omega)];rfl),rfl⟩
 by_cases h1:1114111<c
 ·go_enter func186,ntmps186
  go_wp2
  go_ret
  exact ⟨aK (by unfold sz;rw [if_pos (by omega)];rfl),rfl⟩
 by_cases h2:c<128
 ·go_enter func186,ntmps186
  go_wp2
  go_ret
  exact ⟨aK (by unfold sz;rw [if_neg (by omega),if_pos (by omega)];rfl),rfl⟩
 by_cases h3:c<2048
 ·go_enter func186,ntmps186
  go_wp2
  go_ret
  exact ⟨aK (by unfold sz;rw [if_neg (by omega),if_neg (by omega),if_pos (by omega)];rfl),rfl⟩
 by_cases h4:55296≤c
 ·by_cases h5:c≤57343
  ·go_enter func186,ntmps186
   go_wp2
   go_ret
   exact ⟨aK (by unfold sz;rw [if_pos (by omega)];rfl),rfl⟩
  by_cases h6:c<65536
  ·go_enter func186,ntmps186
   go_wp2
   go_ret
   exact ⟨aK (by unfold sz;rw [if_neg (by omega),if_neg (by omega),if_neg (by omega),if_pos (by omega)];rfl),rfl⟩
  ·go_enter func186,ntmps186
   go_wp2
   go_ret
   exact ⟨aK (by unfold sz;rw [if_neg (by omega),if_neg (by omega),if_neg (by omega),if_neg (by omega)];rfl),rfl⟩
 ·have h6:c<65536:=by omega
  go_enter func186,ntmps186
  go_wp2
  go_ret
  exact ⟨aK (by unfold sz;rw [if_neg (by omega),if_neg (by omega),if_neg (by omega),if_pos (by omega)];rfl),rfl⟩
theorem jJ (b:Nat) (h1:128≤b) (h2:b≤191) (w:World) :
 Calls prog 135 #[.int .u8 b] w fun e w'=>e=.returned (.bool true)∧w=w':=by
 go_enter func135,ntmps135
 go_wp2
 go_ret
 exact ⟨by simp;omega,rfl⟩
theorem jW (b:Nat) (h:¬ (128≤b∧b≤191)) (w:World) :
 Calls prog 135 #[.int .u8 b] w fun e w'=>e=.returned (.bool false)∧w=w':=by
 by_cases h1:128≤b
 ·have h2:¬ b≤191:=by omega
  clear h
  go_enter func135,ntmps135
  go_wp2
  go_ret
  exact ⟨by simp;omega,rfl⟩
 ·clear h
  go_enter func135,ntmps135
  go_wp2
  go_ret
  exact ⟨rfl,rfl⟩
set_option maxHeartbeats 400000 in
theorem PG (b:Nat) (h:b<128) (w:World) :
 Calls prog 185 #[.int .u8 b] w fun e w'=>e=.returned (.tuple #[.int .i32 (ld b).1,.int .i64 (ld b).2])∧w=w':=by
 have e0:ld b=(b,1):=by unfold ld;rw [if_pos h]
 rw [e0]
 clear e0
 go_enter func185,ntmps185
 go_wp2
 go_ret2
 exact ⟨by simp,rfl⟩
set_option maxHeartbeats 400000 in
theorem MY (b:Nat) (h:128≤b) (h':b<192) (w:World) :
 Calls prog 185 #[.int .u8 b] w fun e w'=>e=.returned (.tuple #[.int .i32 (ld b).1,.int .i64 (ld b).2])∧w=w':=by
 have e0:ld b=(0,0):=by unfold ld;rw [if_neg (by omega),if_pos (by omega)]
 rw [e0]
 clear e0
 go_enter func185,ntmps185
 go_wp2
 go_ret2
 exact ⟨by simp,rfl⟩
set_option maxHeartbeats 400000 in
theorem PM (b:Nat) (h:192≤b) (h':b<224) (w:World) :
 Calls prog 185 #[.int .u8 b] w fun e w'=>e=.returned (.tuple #[.int .i32 (ld b).1,.int .i64 (ld b).2])∧w=w':=by
 have e0:ld b=(b % 32,2):=by unfold ld;rw [if_neg (by omega),if_neg (by omega),if_pos (by omega)]
 rw [e0]
 clear e0
 go_enter func185,ntmps185
 go_wp2
 go_ret2
 exact ⟨by simp,rfl⟩
set_option maxHeartbeats 400000 in
theorem PZ (b:Nat) (h:224≤b) (h':b<240) (w:World) :
 Calls prog 185 #[.int .u8 b] w fun e w'=>e=.returned (.tuple #[.int .i32 (ld b).1,.int .i64 (ld b).2])∧w=w':=by
 have e0:ld b=(b % 16,3):=by unfold ld;rw [if_neg (by omega),if_neg (by omega),if_neg (by omega),if_pos (by omega)]
 rw [e0]
 clear e0
 go_enter func185,ntmps185
 go_wp2
 go_ret2
 exact ⟨by simp,rfl⟩
set_option maxHeartbeats 400000 in
theorem OZ (b:Nat) (h:240≤b) (h':b<248) (w:World) :
 Calls prog 185 #[.int .u8 b] w fun e w'=>e=.returned (.tuple #[.int .i32 (ld b).1,.int .i64 (ld b).2])∧w=w':=by
 have e0:ld b=(b % 8,4):=by unfold ld;rw [if_neg (by omega),if_neg (by omega),if_neg (by omega),if_neg (by omega),if_pos (by omega)]
 rw [e0]
 clear e0
 go_enter func185,ntmps185
 go_wp2
 go_ret2
 exact ⟨by simp,rfl⟩
set_option maxHeartbeats 400000 in
theorem NY (b:Nat) (h:248≤b) (h':b<256) (w:World) :
 Calls prog 185 #[.int .u8 b] w fun e w'=>e=.returned (.tuple #[.int .i32 (ld b).1,.int .i64 (ld b).2])∧w=w':=by
 have e0:ld b=(0,0):=by unfold ld;rw [if_neg (by omega),if_neg (by omega),if_neg (by omega),if_neg (by omega),if_neg (by omega)]
 rw [e0]
 clear e0
 go_enter func185,ntmps185
 go_wp2
 go_ret2
 exact ⟨by simp,rfl⟩
theorem JI (b:Nat) (hb:b<256) (w:World) :
 Calls prog 185 #[.int .u8 b] w fun e w'=>e=.returned (.tuple #[.int .i32 (ld b).1,.int .i64 (ld b).2])∧w=w':=by
 by_cases h1:b<128
 ·exact PG b h1 w
 by_cases h2:b<192
 ·exact MY b (by omega) h2 w
 by_cases h3:b<224
 ·exact PM b (by omega) h3 w
 by_cases h4:b<240
 ·exact PZ b (by omega) h4 w
 by_cases h5:b<248
 ·exact OZ b (by omega) h5 w
 ·exact NY b (by omega) hb w
open Lib (hid)
def OnUp (l:List UInt8) (k j:Nat):Prop:=∀ m,m<j→128≤bt l (k+1+m)∧bt l (k+1+m)≤191
theorem EH (l:List UInt8) (k:Nat):OnUp l k 0:=fun m h=>absurd h (Nat.not_lt_zero m)
theorem BU {l:List UInt8} {k j:Nat} (h:OnUp l k j) (g:128≤bt l (k+1+j)∧bt l (k+1+j)≤191):OnUp l k (j+1):=fun m hm=>by
 by_cases e:m=j
 ·subst e;exact g
 ·exact h m (by omega)
set_option maxHeartbeats 400000 in
theorem GV (s:ByteArray) (hs:s.size≤maxLen) (k:Nat) (hk:k<s.size) (w:World) (r m:Nat) (hR0:tkl (s.data.toList.drop k)=(r,m)) :
 Calls prog 159 #[.string s,.int .i64 k] w fun e w'=>e=.returned (.tuple #[.int .i32 r,.int .i64 m])∧w=w':=by
 unfold maxLen at hs
 have hlen:s.data.toList.length=s.size:=by simp
 have L:=JI (s[k].toNat) s[k].toNat_lt
 have hb:=bH s k hk
 have hld:=QD (s[k].toNat)
 obtain ⟨v,n,hvn⟩:∃ v n,ld (s[k].toNat)=(v,n):=⟨_,_,rfl⟩
 rw [hvn] at L hld
 simp only at L hld
 obtain ⟨ab,hv⟩:=hld
 have HL:=hid L;clear L
 have HR:=hid hR0;clear hR0
 by_cases h0:n=0
 ·have hr:tkl (s.data.toList.drop k)=(0,0):=EP _ _ (by omega) (by rw [hb,hvn];exact h0)
  rw [HR.out] at hr
  simp only [Prod.mk.injEq] at hr
  obtain ⟨rfl,rfl⟩:=hr
  subst h0
  clear hb hvn hlen
  go_enter func159,ntmps159
  go_wp2_with (go_at_call 185;refine (HL.out _).mono ?_;rintro e w' ⟨rfl,rfl⟩)
  go_ret2
  exact ⟨rfl,rfl⟩
 ·by_cases hsh:s.size<k+n
  ·have hr:tkl (s.data.toList.drop k)=(0,0):=zQ _ _ (by omega) (by rw [hb,hvn,hlen];exact hsh)
   rw [HR.out] at hr
   simp only [Prod.mk.injEq] at hr
   obtain ⟨rfl,rfl⟩:=hr
   clear hb hvn hlen
   have hz:((n:Int) == 0)=false:=by simp;omega
   go_enter func159,ntmps159
   go_wp2_with (go_at_call 185;refine (HL.out _).mono ?_;rintro e w' ⟨rfl,rfl⟩)
   go_ret2
   exact ⟨rfl,rfl⟩
  ·have hz:((n:Int) == 0)=false:=by simp;omega
   have HB:=hid hb;clear hb
   have HV:=hid hvn;clear hvn
   have HN:=hid hlen;clear hlen
   go_enter func159,ntmps159
   go_wp2_with (go_at_call 185;refine (HL.out _).mono ?_;rintro e w' ⟨rfl,rfl⟩)
   go_loop [6,37] (fun c i=>∃ j:Nat,j+1≤n∧i=.int .i64 j∧c=.int .i32 (acc s.data.toList k v j)∧OnUp s.data.toList k j) (fun _ i=>n - (intOf i).toNat)
   case atStart=>exact ⟨0,by omega,rfl,rfl,EH _ _⟩
   case round =>
    obtain ⟨j,hj,rfl,rfl,hon⟩:=hrel
    by_cases hlt:j+1<n
    ·have hi:k+1+j<s.size:=by omega
     have hbj:=bH s (k+1+j) hi
     have hac:acc s.data.toList k v j<32768:=by
      have h1:=BO s.data.toList k j
      rw [HB.out,HV.out] at h1
      exact h1 hlt
     have aa:=s[k+1+j].toNat_lt
     obtain ⟨ac,ha⟩:∃ ac,acc s.data.toList k v j=ac:=⟨_,rfl⟩
     rw [ha] at hac ⊢
     have HA:=hid ha;clear ha
     have HJ:=hid hbj;clear hbj
     by_cases h1:128≤s[k+1+j].toNat∧s[k+1+j].toNat≤191
     ·obtain ⟨h1,h2⟩:=h1
      go_wp2_with (go_at_call 135;refine (jJ _ h1 h2 _).mono ?_;rintro e w' ⟨rfl,rfl⟩)
      go_round
      case rel =>
       refine ⟨j+1,by omega,by go_num,?_,BU hon (by rw [HJ.out];exact ⟨h1,h2⟩)⟩
       rw [show acc s.data.toList k v (j+1)=acc s.data.toList k v j * 64+bt s.data.toList (k+1+j) % 64 from rfl,HA.out,HJ.out]
       go_num
      case measure=>simp [intOf];omega
     ·have hr:tkl (s.data.toList.drop k)=(0,0):=uB _ k j (by rw [HN.out];omega) (by rw [HB.out,HV.out];exact hlt) (by rw [HJ.out];exact h1)
      rw [HR.out] at hr
      simp only [Prod.mk.injEq] at hr
      have HX:=hid hr;clear hr
      have H1:=hid h1;clear h1
      go_wp2_with (go_at_call 135;refine (jW _ H1.out _).mono ?_;rintro e w' ⟨rfl,rfl⟩)
      go_ret2
      exact ⟨fT (by rw [HX.out.1];rfl) (by rw [HX.out.2];rfl),rfl⟩
    ·obtain rfl:n=j+1:=by omega
     have hall:=II s.data.toList k (by rw [HN.out];exact hk) (by rw [HB.out,HV.out];simp) (by rw [HB.out,HV.out];exact fun m hm=>hon m (by simp at hm;exact hm))
     rw [HB.out,HV.out] at hall
     simp only [Nat.add_sub_cancel] at hall
     obtain ⟨ac,ha⟩:∃ ac,acc s.data.toList k v j=ac:=⟨_,rfl⟩
     rw [ha] at hall ⊢
     rw [HR.out] at hall
     clear hon ha
     by_cases hsz:sz (ac:Int)=j+1
     ·rw [if_pos hsz] at hall
      simp only [Prod.mk.injEq] at hall
      have HX:=hid hall;clear hall
      have HS:=hid hsz;clear hsz
      have hne:((sz (ac:Int):Int) != (j:Int)+1)=false:=by rw [HS.out];simp
      go_wp2_with (go_at_call 186;refine (uY _ _).mono ?_;rintro e w' ⟨rfl,rfl⟩)
      go_ret2
      exact ⟨fT (by rw [HX.out.1]) (by rw [HX.out.2];simp),rfl⟩
     ·rw [if_neg hsz] at hall
      simp only [Prod.mk.injEq] at hall
      have HX:=hid hall;clear hall
      have hne:((sz (ac:Int):Int) != (j:Int)+1)=true:=by simp;omega
      clear hsz
      go_wp2_with (go_at_call 186;refine (uY _ _).mono ?_;rintro e w' ⟨rfl,rfl⟩)
      go_ret2
      exact ⟨fT (by rw [HX.out.1];rfl) (by rw [HX.out.2];rfl),rfl⟩
theorem gB (xs:List Int) (n:Nat) (hn:xs.length=n) (w:World) :
 (convert 107 9 (.slice (some ⟨w.heap.size,0,none⟩) n n)).run prog (w.alloc (.cells (xs.map (Value.int .u8)).toArray 5))=.ok (.string (strOfNums xs)) (w.alloc (.cells (xs.map (Value.int .u8)).toArray 5)):=by
 refine run_convert_bytes_arg _ 107 5 underlying107 underlying5 _ 0 n n xs hn (fun i hi=>?_) 9 underlying9
 rw [Nat.zero_add,World.cell?_alloc_new]
 simp [List.getD_eq_getElem?_getD,List.getElem?_eq_getElem (show i<xs.length by omega)]
theorem yN {w:World} {base n:Nat} {v:Value} {l:List UInt8} (h:w.ownsRow base 5 1 v n (l.map fun b=>Value.int .u8 (b.toNat:Nat))) :
 (convert 107 9 v).run prog w=.ok (.string ⟨l.toArray⟩) w:=by
 obtain ⟨hlen,h⟩:=h
 rw [List.length_map,Nat.mul_one] at hlen
 rcases h with ⟨rfl,rfl⟩|⟨g,cap,cur,rfl,_,hg,_,_,_,htake⟩
 ·obtain rfl:l=[]:=List.eq_nil_of_length_eq_zero hlen
  exact run_convert_bytes_nil w 107 5 underlying107 underlying5 0 0 9 underlying9
 ·subst hlen
  refine run_convert_bytes_back w 107 9 5 ⟨g,0,none⟩ cap l underlying107 underlying5 underlying9 fun j hj=>?_
  have hplain:(⟨g,0,none⟩:Addr).add j=⟨g,0+j,none⟩:=by unfold Addr.add;split <;> simp_all
  rw [hplain,Nat.zero_add]
  have h2:cur[j]? = some (.int .u8 ((l[j].toNat:Nat):Int)):=by
   have h3:=congrArg (fun x=>x[j]?) htake
   simp only [Nat.mul_one] at h3
   rw [List.getElem?_take_of_lt hj,List.getElem?_map,List.getElem?_eq_getElem hj] at h3
   simpa using h3
  show w.cell? ⟨g,j,none⟩=_
  simp [World.cell?,hg,h2]
theorem aM {w:World} {base e size n:Nat} {v:Value} {xs:List Value} (h:w.ownsRow base e size v n xs):∀ k,v.ownBlock=some k→base≤k:=by
 intro k hk
 rcases h.2 with ⟨rfl,_⟩|⟨g,cap,cur,rfl,hb,_⟩
 ·simp [Value.ownBlock] at hk
 ·simp [Value.ownBlock] at hk;omega
def putS (c:Int):ByteArray:=if sz c=0 then ⟨#[]⟩ else Utf8.encode c
theorem nM (c:Int) (h0:0≤c) (h1:c≤1114111) (h2:c<55296∨57343<c) (w:World) :
 Calls prog 156 #[.int .i64 c] w fun e w'=>e=.returned (.bool true)∧w=w':=by
 by_cases h3:55296≤c
 ·have h4:¬ c≤57343:=by omega
  clear h2
  go_enter func156,ntmps156
  go_wp2
  go_ret
  exact ⟨by simp,rfl⟩
 ·clear h2
  go_enter func156,ntmps156
  go_wp2
  go_ret
  exact ⟨by simp,rfl⟩
theorem QG (c:Int) (h:c<0∨1114111<c∨(55296≤c∧c≤57343)) (w:World) :
 Calls prog 156 #[.int .i64 c] w fun e w'=>e=.returned (.bool false)∧w=w':=by
 by_cases h0:c<0
 ·clear h
  go_enter func156,ntmps156
  go_wp2
  go_ret
  exact ⟨rfl,rfl⟩
 by_cases h1:1114111<c
 ·clear h
  have h1':¬ c≤1114111:=by omega
  go_enter func156,ntmps156
  go_wp2
  go_ret
  exact ⟨by simp,rfl⟩
 ·have h2:55296≤c:=by omega
  have h3:c≤57343:=by omega
  clear h
  go_enter func156,ntmps156
  go_wp2
  go_ret
  exact ⟨by simp,rfl⟩
theorem fA (c:Int) (h0:sz c≠0) (w:World) :
 Calls prog 157 #[.int .i64 c] w fun e w'=>e=.returned (.int .i64 (sz c))∧w=w':=by
 by_cases hb:c<0∨1114111<c∨(55296≤c∧c≤57343)
 ·exact absurd (by unfold sz;rw [if_pos hb]) h0
 clear h0
 by_cases h1:c<128
 ·have e:sz c=1:=by unfold sz;rw [if_neg hb,if_pos h1]
  rw [e];clear e hb
  go_enter func157,ntmps157
  go_wp2
  go_ret
  exact ⟨rfl,rfl⟩
 by_cases h2:c<2048
 ·have e:sz c=2:=by unfold sz;rw [if_neg hb,if_neg h1,if_pos h2]
  rw [e];clear e hb
  go_enter func157,ntmps157
  go_wp2
  go_ret
  exact ⟨rfl,rfl⟩
 by_cases h3:c<65536
 ·have e:sz c=3:=by unfold sz;rw [if_neg hb,if_neg h1,if_neg h2,if_pos h3]
  rw [e];clear e hb
  go_enter func157,ntmps157
  go_wp2
  go_ret
  exact ⟨rfl,rfl⟩
 ·have e:sz c=4:=by unfold sz;rw [if_neg hb,if_neg h1,if_neg h2,if_neg h3]
  rw [e];clear e hb
  go_enter func157,ntmps157
  go_wp2
  go_ret
  exact ⟨rfl,rfl⟩
theorem tM (c:Int) (h:0≤c) (h':c<128):putS c=strOfNums [c]:=by
 have hs:sz c=1:=by unfold sz;rw [if_neg (by omega),if_pos (by omega)]
 have hv:Utf8.valid c=true:=by unfold Utf8.valid;simp;omega
 unfold putS Utf8.encode
 rw [hs,if_neg (by omega),if_pos hv]
 simp only []
 rw [if_pos (by omega)]
 simp only [strOfNums,List.map_cons,List.map_nil]
set_option maxHeartbeats 400000 in
theorem PE (c:Int) (h:0≤c) (h':c<128) (w:World) :
 Calls prog 127 #[.int .i32 c] w fun e w'=>e=.returned (.string (putS c))∧Below w.heap.size w w':=by
 have hs:sz c=1:=by unfold sz;rw [if_neg (by omega),if_pos (by omega)]
 have ho:=fA c (by omega)
 rw [hs] at ho
 rw [tM c h h']
 have HO:=hid ho;clear ho
 clear hs
 have hk:=nM c (by omega) (by omega) (by omega)
 have HK:=hid hk;clear hk
 have hcv:∀ x:Int,_:=fun x=>gB [x] 1 rfl w
 simp only [List.map_cons,List.map_nil] at hcv
 go_enter func127,ntmps127
 go_wp2_with (first|(go_at_call 156;refine (HK.out _).mono ?_;rintro e w' ⟨rfl,rfl⟩)|(go_at_call 157;refine (HO.out _).mono ?_;rintro e w' ⟨rfl,rfl⟩))
 go_ret
 exact ⟨rfl,(Below.refl _ _).alloc (Nat.le_refl _) _⟩
theorem sQ (c:Int) (h:128≤c) (h':c<2048):putS c=strOfNums [192+c / 64,128+c % 64]:=by
 have hs:sz c=2:=by unfold sz;rw [if_neg (by omega),if_neg (by omega),if_pos (by omega)]
 have hv:Utf8.valid c=true:=by unfold Utf8.valid;simp;omega
 unfold putS Utf8.encode
 rw [hs,if_neg (by omega),if_pos hv]
 simp only []
 rw [if_neg (by omega),if_pos (by omega)]
 simp only [strOfNums,List.map_cons,List.map_nil,show (192+c / 64).toNat=192+c.toNat / 64 by omega,show (128+c % 64).toNat=128+c.toNat % 64 by omega]
set_option maxHeartbeats 400000 in
theorem PJ (c:Int) (h:128≤c) (h':c<2048) (w:World) :
 Calls prog 127 #[.int .i32 c] w fun e w'=>e=.returned (.string (putS c))∧Below w.heap.size w w':=by
 have hs:sz c=2:=by unfold sz;rw [if_neg (by omega),if_neg (by omega),if_pos (by omega)]
 have ho:=fA c (by omega)
 rw [hs] at ho
 rw [sQ c h h']
 have HO:=hid ho;clear ho
 clear hs
 have hk:=nM c (by omega) (by omega) (by omega)
 have HK:=hid hk;clear hk
 have hcv:∀ x y:Int,_:=fun x y=>gB [x,y] 2 rfl w
 simp only [List.map_cons,List.map_nil] at hcv
 go_enter func127,ntmps127
 go_wp2_with (first|(go_at_call 156;refine (HK.out _).mono ?_;rintro e w' ⟨rfl,rfl⟩)|(go_at_call 157;refine (HO.out _).mono ?_;rintro e w' ⟨rfl,rfl⟩))
 go_ret
 exact ⟨rfl,(Below.refl _ _).alloc (Nat.le_refl _) _⟩
theorem tS (c:Int) (h:2048≤c) (h':c<65536) (hg:c<55296∨57343<c):putS c=strOfNums [224+c / 4096,128+c / 64 % 64,128+c % 64]:=by
 have hs:sz c=3:=by unfold sz;rw [if_neg (by omega),if_neg (by omega),if_neg (by omega),if_pos (by omega)]
 have hv:Utf8.valid c=true:=by unfold Utf8.valid;simp;omega
 unfold putS Utf8.encode
 rw [hs,if_neg (by omega),if_pos hv]
 simp only []
 rw [if_neg (by omega),if_neg (by omega),if_pos (by omega)]
 simp only [strOfNums,List.map_cons,List.map_nil,show (224+c / 4096).toNat=224+c.toNat / 4096 by omega,show (128+c / 64 % 64).toNat=128+c.toNat / 64 % 64 by omega,show (128+c % 64).toNat=128+c.toNat % 64 by omega]
set_option maxHeartbeats 400000 in
theorem OE (c:Int) (h:2048≤c) (h':c<65536) (hg:c<55296∨57343<c) (w:World) :
 Calls prog 127 #[.int .i32 c] w fun e w'=>e=.returned (.string (putS c))∧Below w.heap.size w w':=by
 have hs:sz c=3:=by unfold sz;rw [if_neg (by omega),if_neg (by omega),if_neg (by omega),if_pos (by omega)]
 have ho:=fA c (by omega)
 rw [hs] at ho
 rw [tS c h h' hg]
 have HO:=hid ho;clear ho
 clear hs
 have hk:=nM c (by omega) (by omega) (by omega)
 have HK:=hid hk;clear hk
 have hcv:∀ x y z:Int,_:=fun x y z=>gB [x,y,z] 3 rfl w
 simp only [List.map_cons,List.map_nil] at hcv
 go_enter func127,ntmps127
 go_wp2_with (first|(go_at_call 156;refine (HK.out _).mono ?_;rintro e w' ⟨rfl,rfl⟩)|(go_at_call 157;refine (HO.out _).mono ?_;rintro e w' ⟨rfl,rfl⟩))
 go_ret
 exact ⟨rfl,(Below.refl _ _).alloc (Nat.le_refl _) _⟩
theorem uP (c:Int) (h:65536≤c) (h':c≤1114111):putS c=strOfNums [240+c / 262144,128+c / 4096 % 64,128+c / 64 % 64,128+c % 64]:=by
 have hs:sz c=4:=by unfold sz;rw [if_neg (by omega),if_neg (by omega),if_neg (by omega),if_neg (by omega)]
 have hv:Utf8.valid c=true:=by unfold Utf8.valid;simp;omega
 unfold putS Utf8.encode
 rw [hs,if_neg (by omega),if_pos hv]
 simp only []
 rw [if_neg (by omega),if_neg (by omega),if_neg (by omega)]
 simp only [strOfNums,List.map_cons,List.map_nil,show (240+c / 262144).toNat=240+c.toNat / 262144 by omega,show (128+c / 4096 % 64).toNat=128+c.toNat / 4096 % 64 by omega,show (128+c / 64 % 64).toNat=128+c.toNat / 64 % 64 by omega,show (128+c % 64).toNat=128+c.toNat % 64 by omega]
set_option maxHeartbeats 400000 in
theorem OC (c:Int) (h:65536≤c) (h':c≤1114111) (w:World) :
 Calls prog 127 #[.int .i32 c] w fun e w'=>e=.returned (.string (putS c))∧Below w.heap.size w w':=by
 have hs:sz c=4:=by unfold sz;rw [if_neg (by omega),if_neg (by omega),if_neg (by omega),if_neg (by omega)]
 have ho:=fA c (by omega)
 rw [hs] at ho
 rw [uP c h h']
 have HO:=hid ho;clear ho
 clear hs
 have hk:=nM c (by omega) (by omega) (by omega)
 have HK:=hid hk;clear hk
 have hcv:∀ x y z u:Int,_:=fun x y z u=>gB [x,y,z,u] 4 rfl w
 simp only [List.map_cons,List.map_nil] at hcv
 go_enter func127,ntmps127
 go_wp2_with (first|(go_at_call 156;refine (HK.out _).mono ?_;rintro e w' ⟨rfl,rfl⟩)|(go_at_call 157;refine (HO.out _).mono ?_;rintro e w' ⟨rfl,rfl⟩))
 go_ret
 exact ⟨rfl,(Below.refl _ _).alloc (Nat.le_refl _) _⟩
set_option maxHeartbeats 400000 in
theorem PR (c:Int) (b0:-2147483648≤c) (b1:c≤2147483647) (h:c<0∨1114111<c∨(55296≤c∧c≤57343)) (w:World) :
 Calls prog 127 #[.int .i32 c] w fun e w'=>e=.returned (.string (putS c))∧Below w.heap.size w w':=by
 have hs:sz c=0:=by unfold sz;rw [if_pos h]
 have e:putS c=⟨#[]⟩:=by unfold putS;rw [if_pos hs]
 rw [e];clear e hs
 have hk:=QG c h
 have HK:=hid hk;clear hk h
 go_enter func127,ntmps127
 go_wp2_with (go_at_call 156;refine (HK.out _).mono ?_;rintro e w' ⟨rfl,rfl⟩)
 go_ret
 exact ⟨rfl,Below.refl _ _⟩
theorem uC (c:Int) (b0:-2147483648≤c) (b1:c≤2147483647) (w:World) :
 Calls prog 127 #[.int .i32 c] w fun e w'=>e=.returned (.string (putS c))∧Below w.heap.size w w':=by
 by_cases h0:c<0∨1114111<c∨(55296≤c∧c≤57343)
 ·exact PR c b0 b1 h0 w
 by_cases h1:c<128
 ·exact PE c (by omega) h1 w
 by_cases h2:c<2048
 ·exact PJ c (by omega) h2 w
 by_cases h3:c<65536
 ·exact OE c (by omega) h3 (by omega) w
 ·exact OC c (by omega) (by omega) w
def edgeB (l:List UInt8) (p:Int):Bool:=decide (0≤p∧edge l p.toNat)
theorem iZ (s:ByteArray) (hs:s.size≤maxLen) (k:Nat) (h:edge s.data.toList k) (w:World) :
 Calls prog 107 #[.string s,.int .i64 k] w fun e w'=>e=.returned (.bool true)∧w=w':=by
 unfold maxLen at hs
 have hlen:s.data.toList.length=s.size:=by simp
 unfold edge at h
 rw [hlen] at h
 by_cases h0:k=0
 ·clear h hlen
  subst h0
  go_enter func107,ntmps107
  go_wp2
  go_ret
  exact ⟨by simp,rfl⟩
 have hz:((k:Int) == 0)=false:=by simp;omega
 by_cases h1:k=s.size
 ·have aa:((k:Int) == (s.size:Int))=true:=by simp;omega
  have hle:k≤s.size:=by omega
  have hge:s.size≤k:=by omega
  clear h hlen h1
  go_enter func107,ntmps107
  go_wp2
  go_ret
  exact ⟨by simp,rfl⟩
 ·have aa:((k:Int) == (s.size:Int))=false:=by simp;omega
  obtain ⟨hk,hb⟩:k<s.size∧¬ (128≤bt s.data.toList k∧bt s.data.toList k≤191):=by
   rcases h with h|h|h
   ·exact absurd h h0
   ·exact absurd h h1
   ·exact h
  rw [bH s k hk] at hb
  have HB:=hid hb
  clear h hlen h1 h0 hb
  go_enter func107,ntmps107
  go_wp2_with (go_at_call 135;refine (jW _ HB.out _).mono ?_;rintro e w' ⟨rfl,rfl⟩)
  go_ret
  exact ⟨by simp,rfl⟩
theorem lR (s:ByteArray) (hs:s.size≤maxLen) (k:Nat) (hk:k<s.size) (h:¬ edge s.data.toList k) (w:World) :
 Calls prog 107 #[.string s,.int .i64 k] w fun e w'=>e=.returned (.bool false)∧w=w':=by
 unfold maxLen at hs
 have hlen:s.data.toList.length=s.size:=by simp
 unfold edge at h
 rw [hlen,bH s k hk] at h
 have hz:((k:Int) == 0)=false:=by simp;omega
 have aa:((k:Int) == (s.size:Int))=false:=by simp;omega
 have h1:128≤s[k].toNat:=by omega
 have h2:s[k].toNat≤191:=by omega
 clear h hlen
 go_enter func107,ntmps107
 go_wp2_with (go_at_call 135;refine (jJ _ h1 h2 _).mono ?_;rintro e w' ⟨rfl,rfl⟩)
 go_ret
 exact ⟨by simp,rfl⟩
theorem MB (s:ByteArray) (p:Int) (h:p<0∨(s.size:Int)<p) (w:World) :
 Calls prog 107 #[.string s,.int .i64 p] w fun e w'=>e=.returned (.bool false)∧w=w':=by
 by_cases h0:p<0
 ·clear h
  go_enter func107,ntmps107
  go_wp2
  go_ret
  exact ⟨rfl,rfl⟩
 ·have h1:(s.size:Int)<p:=by omega
  clear h
  go_enter func107,ntmps107
  go_wp2
  go_ret
  exact ⟨rfl,rfl⟩
theorem mV (s:ByteArray) (hs:s.size≤maxLen) (p:Int) (w:World) :
 Calls prog 107 #[.string s,.int .i64 p] w fun e w'=>e=.returned (.bool (edgeB s.data.toList p))∧w=w':=by
 have hlen:s.data.toList.length=s.size:=by simp
 by_cases h:p<0∨(s.size:Int)<p
 ·have e:edgeB s.data.toList p=false:=by
   unfold edgeB;rw [decide_eq_false_iff_not];unfold edge;rw [hlen];omega
  rw [e];exact MB s p h w
 obtain ⟨k,rfl⟩:=Int.eq_ofNat_of_zero_le (show 0≤p by omega)
 by_cases hE:edge s.data.toList k
 ·have e:edgeB s.data.toList k=true:=by unfold edgeB;rw [Int.toNat_natCast];simp [hE]
  rw [e];exact iZ s hs k hE w
 ·have e:edgeB s.data.toList k=false:=by unfold edgeB;rw [Int.toNat_natCast];simp [hE]
  rw [e];exact lR s hs k (by unfold edge at hE;rw [hlen] at hE;omega) hE w
def backI (l:List UInt8) (p:Int):Nat:=if p<0 then 0 else if (l.length:Int)<p then l.length else back l p.toNat
theorem bN (l:List UInt8):edge l 0:=.inl rfl
theorem iU (l:List UInt8):edge l l.length:=.inr (.inl rfl)
set_option maxHeartbeats 400000 in
theorem MZ (s:ByteArray) (hs:s.size≤maxLen) (k:Nat) (hk:k≤s.size) (w:World) :
 Calls prog 195 #[.string s,.int .i64 k] w fun e w'=>e=.returned (.int .i64 (back s.data.toList k))∧w=w':=by
 have aa:=hs
 unfold maxLen at hs
 have hlen:s.data.toList.length=s.size:=by simp
 have HN:=hid hlen;clear hlen
 have HM:=hid aa;clear aa
 obtain ⟨b,hb⟩:∃ b,back s.data.toList k=b:=⟨_,rfl⟩
 rw [hb]
 have HB:=hid hb;clear hb
 go_enter func195,ntmps195
 go_wp2
 all_goals
  go_loop [1] (fun i=>∃ j:Nat,j≤k∧i=.int .i64 j∧back s.data.toList j=b) (fun i=>(intOf i).toNat)
  case atStart=>exact ⟨k,Nat.le_refl _,by first|rfl|(simp;omega),HB.out⟩
  case round =>
   obtain ⟨j,hj,rfl,hbj⟩:=hrel
   have HJ:=hid hbj;clear hbj
   by_cases he:edge s.data.toList j
   ·have HE:=hid he;clear he
    go_wp2_with (go_at_call 107;refine (iZ s HM.out j HE.out _).mono ?_;rintro e w' ⟨rfl,rfl⟩)
    go_ret
    exact ⟨aK (by rw [← HJ.out,dE _ _ HE.out]),rfl⟩
   ·have ab:j≠0:=fun h=>he (by rw [h];exact bN _)
    have hjs:j<s.size:=by
     rcases Nat.lt_or_ge j s.size with h|h
     ·exact h
     ·exact absurd (.inr (.inl (by rw [HN.out];omega))) he
    have HE:=hid he;clear he
    go_wp2_with (go_at_call 107;refine (lR s HM.out j hjs HE.out _).mono ?_;rintro e w' ⟨rfl,rfl⟩)
    go_round
    case rel =>
     obtain ⟨i,rfl⟩:∃ i,j=i+1:=⟨j - 1,by omega⟩
     exact ⟨i,by omega,by go_num,by rw [← HJ.out,gI _ _ HE.out]⟩
    case measure=>simp [intOf];omega
set_option maxHeartbeats 400000 in
theorem LQ (s:ByteArray) (hs:s.size≤maxLen) (p:Int) (hp:p<0) (w:World) :
 Calls prog 195 #[.string s,.int .i64 p] w fun e w'=>e=.returned (.int .i64 (back s.data.toList 0))∧w=w':=by
 have aa:=hs
 unfold maxLen at hs
 have hlen:s.data.toList.length=s.size:=by simp
 have HN:=hid hlen;clear hlen
 have HM:=hid aa;clear aa
 obtain ⟨b,hb⟩:∃ b,back s.data.toList 0=b:=⟨_,rfl⟩
 rw [hb]
 have HB:=hid hb;clear hb
 go_enter func195,ntmps195
 go_wp2
 all_goals
  go_loop [1] (fun i=>∃ j:Nat,j≤0∧i=.int .i64 j∧back s.data.toList j=b) (fun i=>(intOf i).toNat)
  case atStart=>exact ⟨0,Nat.le_refl _,by first|rfl|(simp;omega),HB.out⟩
  case round =>
   obtain ⟨j,hj,rfl,hbj⟩:=hrel
   have HJ:=hid hbj;clear hbj
   by_cases he:edge s.data.toList j
   ·have HE:=hid he;clear he
    go_wp2_with (go_at_call 107;refine (iZ s HM.out j HE.out _).mono ?_;rintro e w' ⟨rfl,rfl⟩)
    go_ret
    exact ⟨aK (by rw [← HJ.out,dE _ _ HE.out]),rfl⟩
   ·have ab:j≠0:=fun h=>he (by rw [h];exact bN _)
    have hjs:j<s.size:=by
     rcases Nat.lt_or_ge j s.size with h|h
     ·exact h
     ·exact absurd (.inr (.inl (by rw [HN.out];omega))) he
    have HE:=hid he;clear he
    go_wp2_with (go_at_call 107;refine (lR s HM.out j hjs HE.out _).mono ?_;rintro e w' ⟨rfl,rfl⟩)
    go_round
    case rel =>
     obtain ⟨i,rfl⟩:∃ i,j=i+1:=⟨j - 1,by omega⟩
     exact ⟨i,by omega,by go_num,by rw [← HJ.out,gI _ _ HE.out]⟩
    case measure=>simp [intOf];omega
set_option maxHeartbeats 400000 in
theorem FT (s:ByteArray) (hs:s.size≤maxLen) (p:Int) (hp:(s.size:Int)<p) (w:World) :
 Calls prog 195 #[.string s,.int .i64 p] w fun e w'=>e=.returned (.int .i64 (back s.data.toList s.size))∧w=w':=by
 have aa:=hs
 unfold maxLen at hs
 have hlen:s.data.toList.length=s.size:=by simp
 have HN:=hid hlen;clear hlen
 have HM:=hid aa;clear aa
 obtain ⟨b,hb⟩:∃ b,back s.data.toList s.size=b:=⟨_,rfl⟩
 rw [hb]
 have HB:=hid hb;clear hb
 go_enter func195,ntmps195
 go_wp2
 all_goals
  go_loop [1] (fun i=>∃ j:Nat,j≤s.size∧i=.int .i64 j∧back s.data.toList j=b) (fun i=>(intOf i).toNat)
  case atStart=>exact ⟨s.size,Nat.le_refl _,by first|rfl|(simp;omega),HB.out⟩
  case round =>
   obtain ⟨j,hj,rfl,hbj⟩:=hrel
   have HJ:=hid hbj;clear hbj
   by_cases he:edge s.data.toList j
   ·have HE:=hid he;clear he
    go_wp2_with (go_at_call 107;refine (iZ s HM.out j HE.out _).mono ?_;rintro e w' ⟨rfl,rfl⟩)
    go_ret
    exact ⟨aK (by rw [← HJ.out,dE _ _ HE.out]),rfl⟩
   ·have ab:j≠0:=fun h=>he (by rw [h];exact bN _)
    have hjs:j<s.size:=by
     rcases Nat.lt_or_ge j s.size with h|h
     ·exact h
     ·exact absurd (.inr (.inl (by rw [HN.out];omega))) he
    have HE:=hid he;clear he
    go_wp2_with (go_at_call 107;refine (lR s HM.out j hjs HE.out _).mono ?_;rintro e w' ⟨rfl,rfl⟩)
    go_round
    case rel =>
     obtain ⟨i,rfl⟩:∃ i,j=i+1:=⟨j - 1,by omega⟩
     exact ⟨i,by omega,by go_num,by rw [← HJ.out,gI _ _ HE.out]⟩
    case measure=>simp [intOf];omega
theorem iK (s:ByteArray) (hs:s.size≤maxLen) (p:Int) (w:World) :
 Calls prog 195 #[.string s,.int .i64 p] w fun e w'=>e=.returned (.int .i64 (backI s.data.toList p))∧w=w':=by
 have hlen:s.data.toList.length=s.size:=by simp
 by_cases h0:p<0
 ·have e:backI s.data.toList p=back s.data.toList 0:=by unfold backI;rw [if_pos h0];rfl
  rw [e]
  exact LQ s hs p h0 w
 ·by_cases h1:(s.size:Int)<p
  ·have e:backI s.data.toList p=back s.data.toList s.size:=by unfold backI;rw [if_neg h0,if_pos (by omega),dE _ _ (by rw [← hlen];exact iU _),hlen]
   rw [e]
   exact FT s hs p h1 w
  ·obtain ⟨k,rfl⟩:=Int.eq_ofNat_of_zero_le (Int.not_lt.1 h0)
   have e:backI s.data.toList k=back s.data.toList k:=by unfold backI;rw [if_neg h0,if_neg (by omega),Int.toNat_natCast]
   rw [e]
   exact MZ s hs k (by omega) w
theorem PF (s:ByteArray) (i:Nat):(s.get! i).toNat=bt s.data.toList i:=by
 by_cases h:i<s.size
 ·rw [bH s i h];simp [ByteArray.get!,getElem!_pos,h];rfl
 ·rw [dY _ _ (by simp;omega)]
  have:s.get! i=0:=by
   show s.data[i]! = 0
   rw [getElem!_neg s.data i (by simpa using h)];rfl
  rw [this];rfl
theorem jQ (s:ByteArray) (i:Nat) (h:i<s.size) :
 Utf8.decode s i=if (tkl (s.data.toList.drop i)).2=0 then (65533,1) else tkl (s.data.toList.drop i):=by
 rw [eC _ i (by simpa using h)]
 have c:∀ k,(decide (i+k<s.size) && bt s.data.toList (i+k) / 64 == 2)=decide (128≤bt s.data.toList (i+k)∧bt s.data.toList (i+k)≤191):=by
  intro k
  by_cases hk:i+k<s.size
  ·rw [decide_eq_true hk,Bool.true_and,Bool.eq_iff_iff];simp;omega
  ·rw [decide_eq_false hk,Bool.false_and,dY _ _ (by simp;omega)];rfl
 simp only [Utf8.decode,PF,c,Nat.add_zero]
 generalize bt s.data.toList i=b0
 rw [show i+1+1=i+2 from rfl,show i+1+2=i+3 from rfl]
 generalize bt s.data.toList (i+1)=b1
 generalize bt s.data.toList (i+2)=b2
 generalize bt s.data.toList (i+3)=b3
 by_cases h1:b0<128
 ·have T:tk b0 b1 b2 b3=(b0,1):=by unfold tk;rw [if_pos h1]
  rw [if_pos h1,T];rfl
 rw [if_neg h1]
 by_cases h2:b0 / 32=6∧128≤b1∧b1≤191
 ·rw [if_pos (by simp;omega)]
  by_cases h3:128≤b0 % 32 * 64+b1 % 64
  ·have T:tk b0 b1 b2 b3=((b0 - 192) * 64+(b1 - 128),2):=by unfold tk;rw [if_neg h1,if_pos (by omega)]
   rw [if_pos h3,T,if_neg (by simp)]
   simp only [Prod.mk.injEq,and_true];omega
  ·have T:tk b0 b1 b2 b3=(0,0):=by unfold tk;rw [if_neg h1,if_neg (by omega),if_neg (by omega),if_neg (by omega)]
   rw [if_neg h3,T];rfl
 rw [if_neg (by simp;omega)]
 by_cases h4:b0 / 16=14∧(128≤b1∧b1≤191)∧128≤b2∧b2≤191
 ·rw [if_pos (by simp;omega)]
  have E:b0 % 16 * 4096+b1 % 64 * 64+b2 % 64=(b0 - 224) * 4096+(b1 - 128) * 64+(b2 - 128):=by omega
  rw [E]
  by_cases h5:(b0=224→160≤b1)∧(b0=237→b1<160)
  ·have T:tk b0 b1 b2 b3=((b0 - 224) * 4096+(b1 - 128) * 64+(b2 - 128),3):=by unfold tk;rw [if_neg h1,if_neg (by omega),if_pos (by omega)]
   rw [if_pos (by simp [Utf8.valid];omega),T,if_neg (by simp)]
  ·have T:tk b0 b1 b2 b3=(0,0):=by unfold tk;rw [if_neg h1,if_neg (by omega),if_neg (by omega),if_neg (by omega)]
   rw [if_neg (by simp [Utf8.valid];omega),T];rfl
 rw [if_neg (by simp;omega)]
 by_cases h6:b0 / 8=30∧(128≤b1∧b1≤191)∧(128≤b2∧b2≤191)∧128≤b3∧b3≤191
 ·rw [if_pos (by simp;omega)]
  have E:b0 % 8 * 262144+b1 % 64 * 4096+b2 % 64 * 64+b3 % 64=(b0 - 240) * 262144+(b1 - 128) * 4096+(b2 - 128) * 64+(b3 - 128):=by omega
  rw [E]
  by_cases h5:b0<245∧(b0=240→144≤b1)∧(b0=244→b1<144)
  ·have T:tk b0 b1 b2 b3=((b0 - 240) * 262144+(b1 - 128) * 4096+(b2 - 128) * 64+(b3 - 128),4):=by unfold tk;rw [if_neg h1,if_neg (by omega),if_neg (by omega),if_pos (by omega)]
   rw [if_pos (by simp [Utf8.valid];omega),T,if_neg (by simp)]
  ·have T:tk b0 b1 b2 b3=(0,0):=by unfold tk;rw [if_neg h1,if_neg (by omega),if_neg (by omega),if_neg (by omega)]
   rw [if_neg (by simp [Utf8.valid];omega),T];rfl
 ·have T:tk b0 b1 b2 b3=(0,0):=by unfold tk;rw [if_neg h1,if_neg (by omega),if_neg (by omega),if_neg (by omega)]
  rw [if_neg (by simp;omega),T];rfl
theorem jG (x:Int) (xs:List Int):tkl (strOfNums (x::xs)).data.toList=tk (bt (strOfNums (x::xs)).data.toList 0) (bt (strOfNums (x::xs)).data.toList 1) (bt (strOfNums (x::xs)).data.toList 2) (bt (strOfNums (x::xs)).data.toList 3):=by
 unfold tkl;rw [if_neg (by simp [strOfNums])]
theorem EI (c:Int) (h:sz c≠0):0≤c∧tkl (putS c).data.toList=(c.toNat,sz c)∧(putS c).size=sz c:=by
 by_cases hb:c<0∨1114111<c∨(55296≤c∧c≤57343)
 ·exact absurd (by unfold sz;rw [if_pos hb]) h
 refine ⟨by omega,?_⟩
 by_cases h1:c<128
 ·have hs:sz c=1:=by unfold sz;rw [if_neg hb,if_pos h1]
  rw [hs,tM c (by omega) h1,jG,gQ,bA _ 0 (by simp)]
  refine ⟨?_,rfl⟩
  simp only [List.getD_cons_zero]
  unfold tk;rw [if_pos (by omega)];simp only [Prod.mk.injEq,and_true];omega
 by_cases h2:c<2048
 ·have hs:sz c=2:=by unfold sz;rw [if_neg hb,if_neg h1,if_pos h2]
  rw [hs,sQ c (by omega) h2,jG,gQ,bA _ 0 (by simp),bA _ 1 (by simp)]
  refine ⟨?_,rfl⟩
  simp only [List.getD_cons_zero,List.getD_cons_succ]
  unfold tk;rw [if_neg (by omega),if_pos (by omega)];simp only [Prod.mk.injEq,and_true];omega
 by_cases h3:c<65536
 ·have hs:sz c=3:=by unfold sz;rw [if_neg hb,if_neg h1,if_neg h2,if_pos h3]
  rw [hs,tS c (by omega) h3 (by omega),jG,gQ,bA _ 0 (by simp),bA _ 1 (by simp),bA _ 2 (by simp)]
  refine ⟨?_,rfl⟩
  simp only [List.getD_cons_zero,List.getD_cons_succ]
  unfold tk;rw [if_neg (by omega),if_neg (by omega),if_pos (by omega)];simp only [Prod.mk.injEq,and_true];omega
 ·have hs:sz c=4:=by unfold sz;rw [if_neg hb,if_neg h1,if_neg h2,if_neg h3]
  rw [hs,uP c (by omega) (by omega),jG,gQ,bA _ 0 (by simp),bA _ 1 (by simp),bA _ 2 (by simp),bA _ 3 (by simp)]
  refine ⟨?_,rfl⟩
  simp only [List.getD_cons_zero,List.getD_cons_succ]
  unfold tk;rw [if_neg (by omega),if_neg (by omega),if_neg (by omega),if_pos (by omega)];simp only [Prod.mk.injEq,and_true];omega
def baseOf (n:Nat):Nat:=if n=2 then 192 else if n=3 then 224 else 240
def numI (l:List UInt8):Int:=
 if l.length=1 then bt l 0 else if bt l 0<baseOf l.length then -1 else acc l 0 (bt l 0 - baseOf l.length) (l.length - 1)
theorem nP (l:List UInt8) (v:Nat) (hv:v<256) (j:Nat) (hj:j≤3):acc l 0 v j<256 * 262144+262144:=by
 match j,hj with
 | 0,_=>simp only [acc];omega
 | 1,_=>simp only [acc];omega
 | 2,_=>simp only [acc];omega
 | 3,_=>simp only [acc];omega
set_option maxHeartbeats 400000 in
theorem KO (s:ByteArray) (hs:s.size=1) (w:World) :
 Calls prog 126 #[.string s] w fun e w'=>e=.returned (.int .i64 (numI s.data.toList))∧w=w':=by
 have hlen:s.data.toList.length=s.size:=by simp
 have h0:0<s.size:=by omega
 have e:numI s.data.toList=(s[0].toNat:Nat):=by unfold numI;rw [if_pos (by omega),bH s 0 h0]
 rw [e]
 have hz:((s.size:Int) == 1)=true:=by simp;omega
 have aa:=s[0].toNat_lt
 clear hs hlen e
 go_enter func126,ntmps126
 go_wp2
 go_ret
 exact ⟨rfl,rfl⟩
set_option maxHeartbeats 400000 in
theorem vW (s:ByteArray) (n:Nat) (hs:s.size=n) (h1:2≤n) (h4:n≤4) (w:World) :
 Calls prog 126 #[.string s] w fun e w'=>e=.returned (.int .i64 (numI s.data.toList))∧w=w':=by
 have hlen:s.data.toList.length=s.size:=by simp
 have h0:0<s.size:=by omega
 obtain ⟨r,hr⟩:∃ r,numI s.data.toList=r:=⟨_,rfl⟩
 rw [hr]
 have hb:=bH s 0 h0
 have af:=s[0].toNat_lt
 obtain ⟨b0,aa⟩:∃ b,s[0].toNat=b:=⟨_,rfl⟩
 unfold numI at hr
 rw [if_neg (by omega),hlen,hs,hb] at hr
 have ag:((s.size:Int) == 1)=false:=by simp;omega
 have hlo:2≤s.size:=by omega
 have hhi:s.size≤4:=by omega
 by_cases hlt:s[0].toNat<baseOf n
 ·rw [if_pos hlt] at hr
  have HR:=hid hr;clear hr
  by_cases e2:n=2
  ·have ad:((s.size:Int) == 2)=true:=by simp;omega
   rw [e2] at hlt
   have hl:s[0].toNat<192:=hlt
   clear hb aa hlen hs hlt e2
   go_enter func126,ntmps126
   go_wp2
   go_ret
   exact ⟨aK HR.out,rfl⟩
  have ad:((s.size:Int) == 2)=false:=by simp;omega
  by_cases e3:n=3
  ·have ae:((s.size:Int) == 3)=true:=by simp;omega
   rw [e3] at hlt
   have hl:s[0].toNat<224:=hlt
   clear hb aa hlen hs hlt e2 e3
   go_enter func126,ntmps126
   go_wp2
   go_ret
   exact ⟨aK HR.out,rfl⟩
  have ae:((s.size:Int) == 3)=false:=by simp;omega
  obtain rfl:n=4:=by omega
  have hl:s[0].toNat<240:=hlt
  clear hb aa hlen hs hlt e2 e3
  go_enter func126,ntmps126
  go_wp2
  go_ret
  exact ⟨aK HR.out,rfl⟩
 ·rw [if_neg hlt] at hr
  rw [show acc s.data.toList 0 (s[0].toNat - baseOf n) (n - 1)=acc s.data.toList 0 (s[0].toNat - baseOf n) (s.size - 1) by rw [hs]] at hr
  by_cases e2:n=2
  ·have ad:((s.size:Int) == 2)=true:=by simp;omega
   rw [e2] at hlt hr
   have hl:192≤s[0].toNat:=Nat.not_lt.1 hlt
   clear hlt
   have HR:=hid hr;clear hr
   clear hb aa hlen hs e2
   have HV:Hid (acc s.data.toList 0 (s[0].toNat - 192) 0=s[0].toNat - 192):=rfl
   go_enter func126,ntmps126
   go_wp2
   go_loop [3,4] (fun f i=>∃ j:Nat,j+1≤s.size∧i=.int .i64 (j+1:Nat)∧f=.int .i64 (acc s.data.toList 0 (s[0].toNat - 192) j)) (fun _ i=>s.size - (intOf i).toNat)
   case atStart=>exact ⟨0,by omega,rfl,by rw [HV.out];go_num⟩
   case round =>
    obtain ⟨j,hj,rfl,rfl⟩:=hrel
    by_cases hlt:j+1<s.size
    ·have hbj:=bH s (j+1) hlt
     have hac:=nP s.data.toList (s[0].toNat - 192) (by omega) j (by omega)
     have ab:=s[j+1].toNat_lt
     obtain ⟨ac,ha⟩:∃ ac,acc s.data.toList 0 (s[0].toNat - 192) j=ac:=⟨_,rfl⟩
     rw [ha] at hac ⊢
     have HA:=hid ha;clear ha
     have HJ:=hid hbj;clear hbj
     go_wp2
     go_round
     case rel =>
      refine ⟨j+1,by omega,by go_num,?_⟩
      rw [show acc s.data.toList 0 (s[0].toNat - 192) (j+1)=acc s.data.toList 0 (s[0].toNat - 192) j * 64+bt s.data.toList (0+1+j) % 64 from rfl,HA.out,show 0+1+j=j+1 by omega,HJ.out]
      go_num
     case measure=>simp [intOf];omega
    ·have hend:s.size≤j+1:=by omega
     go_wp2
     go_ret
     exact ⟨aK (by rw [← HR.out,show s.size - 1=j by omega];rfl),rfl⟩
  have ad:((s.size:Int) == 2)=false:=by simp;omega
  by_cases e3:n=3
  ·have ae:((s.size:Int) == 3)=true:=by simp;omega
   rw [e3] at hlt hr
   have hl:224≤s[0].toNat:=Nat.not_lt.1 hlt
   clear hlt e3
   have HR:=hid hr;clear hr
   clear hb aa hlen hs e2
   have HV:Hid (acc s.data.toList 0 (s[0].toNat - 224) 0=s[0].toNat - 224):=rfl
   go_enter func126,ntmps126
   go_wp2
   go_loop [3,4] (fun f i=>∃ j:Nat,j+1≤s.size∧i=.int .i64 (j+1:Nat)∧f=.int .i64 (acc s.data.toList 0 (s[0].toNat - 224) j)) (fun _ i=>s.size - (intOf i).toNat)
   case atStart=>exact ⟨0,by omega,rfl,by rw [HV.out];go_num⟩
   case round =>
    obtain ⟨j,hj,rfl,rfl⟩:=hrel
    by_cases hlt:j+1<s.size
    ·have hbj:=bH s (j+1) hlt
     have hac:=nP s.data.toList (s[0].toNat - 224) (by omega) j (by omega)
     have ab:=s[j+1].toNat_lt
     obtain ⟨ac,ha⟩:∃ ac,acc s.data.toList 0 (s[0].toNat - 224) j=ac:=⟨_,rfl⟩
     rw [ha] at hac ⊢
     have HA:=hid ha;clear ha
     have HJ:=hid hbj;clear hbj
     go_wp2
     go_round
     case rel =>
      refine ⟨j+1,by omega,by go_num,?_⟩
      rw [show acc s.data.toList 0 (s[0].toNat - 224) (j+1)=acc s.data.toList 0 (s[0].toNat - 224) j * 64+bt s.data.toList (0+1+j) % 64 from rfl,HA.out,show 0+1+j=j+1 by omega,HJ.out]
      go_num
     case measure=>simp [intOf];omega
    ·have hend:s.size≤j+1:=by omega
     go_wp2
     go_ret
     exact ⟨aK (by rw [← HR.out,show s.size - 1=j by omega];rfl),rfl⟩
  have ae:((s.size:Int) == 3)=false:=by simp;omega
  obtain rfl:n=4:=by omega
  have hl:240≤s[0].toNat:=Nat.not_lt.1 hlt
  clear hlt e3
  have HR:=hid hr;clear hr
  clear hb aa hlen hs e2
  have HV:Hid (acc s.data.toList 0 (s[0].toNat - 240) 0=s[0].toNat - 240):=rfl
  go_enter func126,ntmps126
  go_wp2
  go_loop [3,4] (fun f i=>∃ j:Nat,j+1≤s.size∧i=.int .i64 (j+1:Nat)∧f=.int .i64 (acc s.data.toList 0 (s[0].toNat - 240) j)) (fun _ i=>s.size - (intOf i).toNat)
  case atStart=>exact ⟨0,by omega,rfl,by rw [HV.out];go_num⟩
  case round =>
   obtain ⟨j,hj,rfl,rfl⟩:=hrel
   by_cases hlt:j+1<s.size
   ·have hbj:=bH s (j+1) hlt
    have hac:=nP s.data.toList (s[0].toNat - 240) (by omega) j (by omega)
    have ab:=s[j+1].toNat_lt
    obtain ⟨ac,ha⟩:∃ ac,acc s.data.toList 0 (s[0].toNat - 240) j=ac:=⟨_,rfl⟩
    rw [ha] at hac ⊢
    have HA:=hid ha;clear ha
    have HJ:=hid hbj;clear hbj
    go_wp2
    go_round
    case rel =>
     refine ⟨j+1,by omega,by go_num,?_⟩
     rw [show acc s.data.toList 0 (s[0].toNat - 240) (j+1)=acc s.data.toList 0 (s[0].toNat - 240) j * 64+bt s.data.toList (0+1+j) % 64 from rfl,HA.out,show 0+1+j=j+1 by omega,HJ.out]
     go_num
    case measure=>simp [intOf];omega
   ·have hend:s.size≤j+1:=by omega
    go_wp2
    go_ret
    exact ⟨aK (by rw [← HR.out,show s.size - 1=j by omega];rfl),rfl⟩
theorem yJ (s:ByteArray) (h1:1≤s.size) (h4:s.size≤4) (w:World) :
 Calls prog 126 #[.string s] w fun e w'=>e=.returned (.int .i64 (numI s.data.toList))∧w=w':=by
 by_cases h:s.size=1
 ·exact KO s h w
 ·exact vW s s.size rfl (by omega) h4 w
theorem JT (n:Int):IntKind.u64.wrap n=((u64 n:Nat):Int):=by
 rw [IntKind.wrap_u64];unfold u64;omega
theorem QB (n:Int):u64 n<18446744073709551616:=by unfold u64;omega
theorem AG:(prog.info? 5).map (fun i=>(i.zero,i.size,i.bytes))=some (some (.int .u8 0),1,1):=by kernel_rfl
set_option maxHeartbeats 800000 in
theorem EB (n:Int) (m:Nat) (hm:m≤4) (w:World) :
 Calls prog 97 #[.int .i64 n,.int .i64 m] w fun e w'=>e=.returned (.string ⟨(leL (u64 n) m).toArray⟩)∧Below w.heap.size w w':=by
 obtain ⟨i0,hi,af,ag,ah⟩:=info_parts AG
 have ab:=JT n
 have aa:=QB n
 obtain ⟨u,hu⟩:∃ u,u64 n=u:=⟨_,rfl⟩
 rw [hu] at ab aa ⊢
 have HW:=hid ab
 have ai:=hid aa
 clear hu aa
 go_enter func97,ntmps97
 go_wp2
 go_loopw [5,6,7] (fun v x i wr=>∃ j:Nat,j≤m∧i=.int .i64 j∧x=.int .u64 (u / 256 ^ j:Nat)∧wr.ownsRow w.heap.size 5 1 v j ((leL u j).map fun b=>Value.int .u8 (b.toNat:Nat))∧Below w.heap.size w wr) (fun _ _ i _=>m - (intOf i).toNat)
 case atStart=>exact ⟨0,Nat.zero_le _,rfl,by simp,World.ownsRow_nil _ _ _ _,Below.refl _ _⟩
 case round =>
  obtain ⟨j,hj,rfl,rfl,hown,hbel⟩:=hrel
  clear ab
  have ac:u / 256 ^ (j+1)=u / 256 ^ j / 256:=by rw [Nat.pow_succ,Nat.div_div_eq_div_mul]
  have hl:leL u (j+1)=leL u j++[UInt8.ofNat (u / 256 ^ j % 256)]:=rfl
  have hx:u / 256 ^ j<18446744073709551616:=Nat.lt_of_le_of_lt (Nat.div_le_self _ _) ai.out
  obtain ⟨x,hxx⟩:∃ x,u / 256 ^ j=x:=⟨_,rfl⟩
  rw [hxx] at ac hl hx ⊢
  have H1:=hid ac;have H2:=hid hl;have H3:=hid hx
  clear ac hl hxx hx
  by_cases hlt:j<m
  ·go_wp2_with (at_builtin;refine wpList_append_own _ rfl _ _ 107 rfl w.heap.size 5 i0 (.int .u8 0) 1 1 underlying107 hi af ag ah rfl (by decide) _ _ _ rfl (hown.alloc _) ⟨wr.heap.size,0,none⟩ 1 1 [.int .u8 ((x % 256:Nat):Int)] rfl rfl ?c1 ?c2 ?c3 ?c4 ?c5 ?_)
   case c1 =>
    intro j u hj
    match j,hj with
    | 0,hj=>simp at hj;subst hj;simp [Addr.add]
   case c2=>intro u hu;simp at hu;subst hu;rfl
   case c3=>unfold maxLen;omega
   case c4=>omega
   case c5=>have:=hbel.size;simp;omega
   intro v' w1 hown' hgrow _
   have ad:Below w.heap.size w w1:=(hbel.alloc hbel.size _).grown hgrow (by have:=hbel.size;simp;omega) (aM hown)
   have ae:w1.ownsRow w.heap.size 5 1 v' (j+1) ((leL u (j+1)).map fun b=>Value.int .u8 (b.toNat:Nat)):=by
    rw [H2.out,List.map_append]
    have e:(UInt8.ofNat (x % 256)).toNat=x % 256:=by show x % 256 % 256=_;omega
    simp only [List.map_cons,List.map_nil,e]
    exact hown'
   have HO:=hid ae;have HB:=hid ad
   clear hown' hgrow hown hbel ae ad
   have hx:=H3.out
   go_wp2
   go_roundw
   case rel=>exact ⟨j+1,by omega,by go_num,by rw [H1.out];go_num,HO.out,HB.out⟩
   case measure=>simp [intOf];omega
  ·obtain rfl:j=m:=by omega
   have hcv:=yN hown
   clear hown
   go_wp2
   go_ret
   exact ⟨rfl,hbel⟩
theorem iR (n:Int) (w:World) :
 Calls prog 64 #[.int .i64 n] w fun e w'=>e=.returned (.string ⟨(leL (u64 n) 4).toArray⟩)∧Below w.heap.size w w':=by
 have hp:=EB n 4 (by omega)
 obtain ⟨R,hR⟩:∃ R,leL (u64 n) 4=R:=⟨_,rfl⟩
 rw [hR] at hp ⊢
 have HP:=hid hp;clear hp hR
 go_enter func64,ntmps64
 go_wp2_with fail
 refine (HP.out _).mono ?_;rintro e w1 ⟨rfl,aa⟩
 go_wp2
 go_ret
 exact ⟨rfl,aa⟩
end Go.Proofs.YtbagenpobcgjnaaGreat
