/-
  Joined: EditDev, EditRef, EditDev2.
-/
import Derived.Test.YtbagenpobcgjnaaGreatJUtfRTake
import Derived.Test.YtbagenpobcgjnaaGreatJCells
import Derived.Lib.MinMax
open ByteArray renaming size_append->zr,size_extract->zg
open Go renaming Calls->ze,World->zd,bodyPost_ret->zj,results->zk
open Go.Ending renaming returned->zf
open Go.IntKind renaming i64->yx
open Go.Lib renaming hid->yv
open Go.RowKit renaming Below->yz
open Go.Value renaming int->yy,string->yw
open Int renaming eq_ofNat_of_zero_le->zp,natCast_add->zq
open List renaming length_drop->zo,take_of_length_le->zn
open Nat renaming le_refl->zi
namespace Go.Proofs.YtbagenpobcgjnaaGreat
open Go.Proofs.Tryz
set_option maxRecDepth 100000
open Lib (hid)
open Go.RowKit
set_option linter.unusedVariables false
set_option linter.unusedSimpArgs false
abbrev vj (p:Int) (o n:ByteArray):Value:=.agg #[yy yx p,yw o,yw n]
theorem PM (t:ByteArray) (k m:Nat) (hk:k≤t.size):(t.extract k t.size).extract 0 (min (m:Int) ((t.size - k:Nat):Int)).toNat=t.extract k (k+m):=by
 apply aU;have hlen:t.data.toList.length=t.size:=lh;simp only [aE,Nat.sub_zero,List.drop_zero,List.take_take];rcases Nat.le_total m (t.size - k) with h|h
 ·congr 1
  omega
 ·rw [zn (by rw [zo];omega),zn (by rw [zo];omega)]
set_option maxHeartbeats 800000 in
theorem BA (t o n:ByteArray) (ht:t.size≤maxLen) (ho:o.size≤maxLen) (k:Nat) (hk:k≤t.size) (w:zd) :
 ze prog 136 #[yw t,vj k o n] w fun e w'=>e=zf (vj k (t.extract k (k+o.size)) n)∧yz w w w':=by
 unfold maxLen at ht ho;have hz:(t.extract k t.size).size=t.size - k:=by rw [zg];omega
 have hf:=PM t k o.size hk;go_enter func136,ntmps136;go_wp2;refine zj (v:=vj k (t.extract k (k+o.size)) n) (by simp [zk,results136,go_sem]) rfl ⟨rfl,?_⟩;exact ((Below.refl _ _).alloc (zi _) _).alloc lh _
set_option maxHeartbeats 400000 in
theorem yL (p:Int) (o n:ByteArray) (w:zd) :
 ze prog 109 #[vj p o n] w fun e w'=>e=zf (vj p n o)∧yz w w w':=by
 go_enter func109,ntmps109;go_wp2;refine zj (v:=vj p n o) (by simp [zk,results109,go_sem]) rfl ⟨rfl,?_⟩;exact ((Below.refl _ _).alloc (zi _) _).alloc lh _
def Ed (w:zd) (p:Int) (o n:ByteArray) (w1:zd):Prop:=
 yz w w w1∧w.heap.size+1≤w1∧w1 ⟨w,0,none⟩=some (yy yx p)∧w1 ⟨w,1,none⟩=some (yw o)∧w1 ⟨w,2,none⟩=some (yw n)
theorem Ed.new (w:zd) (p:Int) (o n:ByteArray):Ed w p o n (w.alloc (.cells #[yy yx p,yw o,yw n] 92)):=
 have hb:=l6.new w #[yy yx p,yw o,yw n] 92
 ⟨(Below.refl _ _).alloc (zi _) _,lh,hb.cell 0 _ rfl,hb.cell 1 _ rfl,hb.cell 2 _ rfl⟩
theorem Ed.drew {w w1:zd} {p:Int} {o n:ByteArray} (h:Ed w p o n w1):Ed w p o n w1.drew:=⟨h.1.drew,h.2⟩
theorem Ed.on {w w1 w2:zd} {p:Int} {o n:ByteArray} (h:Ed w p o n w1) (hb:yz w1 w1 w2):Ed w p o n w2:=
 ⟨h.1.trans (hb.mono h.1.size),by have:=hb.size;have:=h.2.1;omega,(hb.cell (show (⟨w,0,none⟩:Addr).block<_ from h.2.1)).trans h.2.2.1,
  (hb.cell (show (⟨w,1,none⟩:Addr).block<_ from h.2.1)).trans h.2.2.2.1,(hb.cell (show (⟨w,2,none⟩:Addr).block<_ from h.2.1)).trans h.2.2.2.2⟩
abbrev appV (r:ByteArray×Int):Value:=.tuple #[yw r.1,yy yx r.2]
set_option maxHeartbeats 1600000 in
theorem JV (t o n:ByteArray) (ht:t.size≤140737488355328) (ho:o.size≤140737488355328) (hn:n.size≤140737488355328) (p:Int) (w:zd) :
 ze prog 110 #[yw t,vj p o n] w fun e w'=>e=zf (appV (ot t p o n))∧yz w w w':=by
 have HE:=yv (Ed.new w p o n);by_cases hp:p<0∨(t.size:Int)<p
 ·rw [jI hp];rcases hp with hp|hp
  ·go_enter func110,ntmps110;go_wp2;go_ret2;exact ⟨rfl,HE.out.1⟩
  ·have h0:0≤p:=lf;go_enter func110,ntmps110;go_wp2;go_ret2;exact ⟨rfl,HE.out.1⟩
 obtain ⟨k,rfl⟩:=zp (show 0≤p by omega);have hk:k≤t.size:=lf;clear hp;have c1:=BA t o n ln ln k hk;by_cases hs:t.extract k (k+o.size)=o
 case neg =>
  rw [mA hk hs];obtain ⟨X,hX⟩:∃ X,t.extract k (k+o.size)=X:=⟨_,rfl⟩;rw [hX] at c1 hs;have hx:=dG hs;have C1:=yv c1;clear c1 hX hs ht ho hn;go_enter func110,ntmps110;go_wp2_with fail
  go_region_held3 (fun w'=>yz w w w'∧w.heap.size+1≤w'∧w' ⟨w,0,none⟩=some (yy yx k)∧w' ⟨w,1,none⟩=some (yw o)∧w' ⟨w,2,none⟩=some (yw n))
   (first|exact HE.out.drew|exact Ed.on lm ab)
   (first|(go_at_call 136;refine (C1.out _).mono ?_;rintro e w1 ⟨rfl,ab⟩))
  have ac:=yv (show Ed w k o n _ by assumption);go_wp2;go_ret2;exact ⟨rfl,ac.out.1⟩
 have hle:=fH hk hs;rw [hs] at c1;have e1:=oM t ln k;have e2:=oM t ln ((k:Int)+(o.size:Int));have v1:=eC o ln;have v2:=eC n ln;have h2:∀ b,mg t.data.toList ((k+o.size:Nat):Int)=b→mg t.data.toList ((k:Int)+(o.size:Int))=b:=fun b h=>by rw [← zq];exact h
 have C1:=yv c1;clear c1;cases q1:mg t.data.toList k
 ·rw [dP hk hs (.inl q1)];rw [q1] at e1;have E1:=yv e1;clear e1 e2 v1 v2 h2 q1 hs;go_enter func110,ntmps110;go_wp2_with fail
  go_region_held3 (fun w'=>yz w w w'∧w.heap.size+1≤w'∧w' ⟨w,0,none⟩=some (yy yx k)∧w' ⟨w,1,none⟩=some (yw o)∧w' ⟨w,2,none⟩=some (yw n))
   (first|exact HE.out.drew|exact Ed.on lm ab)
   (first|(go_at_call 136;refine (C1.out _).mono ?_;rintro e w1 ⟨rfl,ab⟩))
  have ac:=yv (show Ed w k o n _ by assumption);go_wp2_with (first|(go_at_call 107;(with_reducible refine (E1.out _).mono ?_);rintro e w2 ⟨rfl,rfl⟩));go_ret2;exact ⟨rfl,ac.out.1⟩
 rw [q1] at e1;have E1:=yv e1;clear e1;cases q2:mg t.data.toList ((k+o.size:Nat):Int)
 ·rw [dP hk hs (.inr q2)];rw [h2 _ q2] at e2;have E2:=yv e2;clear e2 v1 v2 h2 q1 q2 hs;go_enter func110,ntmps110;go_wp2_with fail
  go_region_held3 (fun w'=>yz w w w'∧w.heap.size+1≤w'∧w' ⟨w,0,none⟩=some (yy yx k)∧w' ⟨w,1,none⟩=some (yw o)∧w' ⟨w,2,none⟩=some (yw n))
   (first|exact HE.out.drew|exact Ed.on lm ab)
   (first|(go_at_call 136;refine (C1.out _).mono ?_;rintro e w1 ⟨rfl,ab⟩))
  have ac:=yv (show Ed w k o n _ by assumption);go_wp2_with (first|(go_at_call 107;(with_reducible refine (E1.out _).mono ?_);rintro e w2 ⟨rfl,rfl⟩)|(go_at_call 107;(with_reducible refine (E2.out _).mono ?_);rintro e w2 ⟨rfl,rfl⟩));go_ret2;exact ⟨rfl,ac.out.1⟩
 rw [h2 _ q2] at e2;have E2:=yv e2;clear e2 h2;cases q3:oa o.data.toList
 ·rw [eA hk hs q1 q2 (.inl q3)];rw [q3] at v1;have V1:=yv v1;clear v1 v2 q1 q2 q3 hs;go_enter func110,ntmps110;go_wp2_with fail
  go_region_held3 (fun w'=>yz w w w'∧w.heap.size+1≤w'∧w' ⟨w,0,none⟩=some (yy yx k)∧w' ⟨w,1,none⟩=some (yw o)∧w' ⟨w,2,none⟩=some (yw n))
   (first|exact HE.out.drew|exact Ed.on lm ab)
   (first|(go_at_call 136;refine (C1.out _).mono ?_;rintro e w1 ⟨rfl,ab⟩))
  have ac:=yv (show Ed w k o n _ by assumption);go_wp2_with (first|(go_at_call 107;(with_reducible refine (E1.out _).mono ?_);rintro e w2 ⟨rfl,rfl⟩)|(go_at_call 107;(with_reducible refine (E2.out _).mono ?_);rintro e w2 ⟨rfl,rfl⟩));refine (V1.out _).mono ?_;rintro e w2 ⟨rfl,aa⟩;have ad:=yv (ac.out.on aa);obtain ⟨-,-,k0,k1,k2⟩:=ad.out;clear aa;go_wp2;go_ret2;exact ⟨rfl,ad.out.1⟩
 rw [q3] at v1;have V1:=yv v1;clear v1;cases q4:oa n.data.toList
 ·rw [eA hk hs q1 q2 (.inr q4)];rw [q4] at v2;have V2:=yv v2;clear v2 q1 q2 q3 q4 hs;go_enter func110,ntmps110;go_wp2_with fail
  go_region_held3 (fun w'=>yz w w w'∧w.heap.size+1≤w'∧w' ⟨w,0,none⟩=some (yy yx k)∧w' ⟨w,1,none⟩=some (yw o)∧w' ⟨w,2,none⟩=some (yw n))
   (first|exact HE.out.drew|exact Ed.on lm ab)
   (first|(go_at_call 136;refine (C1.out _).mono ?_;rintro e w1 ⟨rfl,ab⟩))
  have ac:=yv (show Ed w k o n _ by assumption);go_wp2_with (first|(go_at_call 107;(with_reducible refine (E1.out _).mono ?_);rintro e w2 ⟨rfl,rfl⟩)|(go_at_call 107;(with_reducible refine (E2.out _).mono ?_);rintro e w2 ⟨rfl,rfl⟩));refine (V1.out _).mono ?_;rintro e w2 ⟨rfl,aa⟩;have ad:=yv (ac.out.on aa);obtain ⟨-,-,k0,k1,k2⟩:=ad.out;clear aa;go_wp2_with (first|(go_at_call 107;(with_reducible refine (E1.out _).mono ?_);rintro e w2 ⟨rfl,rfl⟩)|(go_at_call 107;(with_reducible refine (E2.out _).mono ?_);rintro e w2 ⟨rfl,rfl⟩));refine (V2.out _).mono ?_;rintro e w3 ⟨rfl,aa⟩;have ae:=yv (ad.out.on aa);obtain ⟨-,-,k0,k1,k2⟩:=ae.out;clear aa;go_wp2;go_ret2;exact ⟨rfl,ae.out.1⟩
 rw [q4] at v2;have V2:=yv v2;clear v2;by_cases hl:4096+o.size<t.size+n.size
 ·rw [mE hk hs q1 q2 q3 q4 hl];clear q1 q2 q3 q4 hs;go_enter func110,ntmps110;go_wp2_with fail
  go_region_held3 (fun w'=>yz w w w'∧w.heap.size+1≤w'∧w' ⟨w,0,none⟩=some (yy yx k)∧w' ⟨w,1,none⟩=some (yw o)∧w' ⟨w,2,none⟩=some (yw n))
   (first|exact HE.out.drew|exact Ed.on lm ab)
   (first|(go_at_call 136;refine (C1.out _).mono ?_;rintro e w1 ⟨rfl,ab⟩))
  have ac:=yv (show Ed w k o n _ by assumption);go_wp2_with (first|(go_at_call 107;(with_reducible refine (E1.out _).mono ?_);rintro e w2 ⟨rfl,rfl⟩)|(go_at_call 107;(with_reducible refine (E2.out _).mono ?_);rintro e w2 ⟨rfl,rfl⟩));refine (V1.out _).mono ?_;rintro e w2 ⟨rfl,aa⟩;have ad:=yv (ac.out.on aa);obtain ⟨-,-,k0,k1,k2⟩:=ad.out;clear aa;go_wp2_with (first|(go_at_call 107;(with_reducible refine (E1.out _).mono ?_);rintro e w2 ⟨rfl,rfl⟩)|(go_at_call 107;(with_reducible refine (E2.out _).mono ?_);rintro e w2 ⟨rfl,rfl⟩));refine (V2.out _).mono ?_;rintro e w3 ⟨rfl,aa⟩;have ae:=yv (ad.out.on aa);obtain ⟨-,-,k0,k1,k2⟩:=ae.out;clear aa;go_wp2;go_ret2;exact ⟨rfl,ae.out.1⟩
 ·rw [gH hk hs q1 q2 q3 q4 hl];have za:(t.extract 0 k).size=k:=by rw [zg];omega
  have zb:(t.extract (k+o.size) t.size).size=t.size - (k+o.size):=by rw [zg];omega
  obtain ⟨A,hA⟩:∃ A,t.extract 0 k=A:=⟨_,rfl⟩;obtain ⟨B,hB⟩:∃ B,t.extract (k+o.size) t.size=B:=⟨_,rfl⟩;rw [hA] at za ⊢;rw [hB] at zb ⊢;clear q1 q2 q3 q4 hs;go_enter func110,ntmps110;go_wp2_with fail
  go_region_held3 (fun w'=>yz w w w'∧w.heap.size+1≤w'∧w' ⟨w,0,none⟩=some (yy yx k)∧w' ⟨w,1,none⟩=some (yw o)∧w' ⟨w,2,none⟩=some (yw n))
   (first|exact HE.out.drew|exact Ed.on lm ab)
   (first|(go_at_call 136;refine (C1.out _).mono ?_;rintro e w1 ⟨rfl,ab⟩))
  have ac:=yv (show Ed w k o n _ by assumption);go_wp2_with (first|(go_at_call 107;(with_reducible refine (E1.out _).mono ?_);rintro e w2 ⟨rfl,rfl⟩)|(go_at_call 107;(with_reducible refine (E2.out _).mono ?_);rintro e w2 ⟨rfl,rfl⟩));refine (V1.out _).mono ?_;rintro e w2 ⟨rfl,aa⟩;have ad:=yv (ac.out.on aa);obtain ⟨-,-,k0,k1,k2⟩:=ad.out;clear aa;go_wp2_with (first|(go_at_call 107;(with_reducible refine (E1.out _).mono ?_);rintro e w2 ⟨rfl,rfl⟩)|(go_at_call 107;(with_reducible refine (E2.out _).mono ?_);rintro e w2 ⟨rfl,rfl⟩));refine (V2.out _).mono ?_;rintro e w3 ⟨rfl,aa⟩;have ae:=yv (ad.out.on aa);obtain ⟨-,-,k0,k1,k2⟩:=ae.out;clear aa;go_wp2_with fail;have F1:¬ (9223372036854775807<k+n.size):=lf;have F2:¬ (9223372036854775807<(A++n).size+(t.size - (k+o.size))):=by rw [zr];omega
  have F3:¬ (9223372036854775807<k+n.size+(t.size - (k+o.size))):=lf;have N1:((k:Int)+(o.size:Int)).toNat=k+o.size:=lf;have G1:(k:Int)+(o.size:Int)≤(t.size:Int):=lf;have G2:(0:Int)≤(k:Int)+(o.size:Int):=lf;have G3:(k:Int)≤(t.size:Int):=lf
  go_region_held3 (fun w'=>yz w w w'∧w.heap.size+1≤w'∧w' ⟨w,0,none⟩=some (yy yx k)∧w' ⟨w,1,none⟩=some (yw o)∧w' ⟨w,2,none⟩=some (yw n))
   (first|exact ae.out.drew)
   (fail)
  go_wp2;go_ret2;exact ⟨rfl,ae.out.1.drew⟩
set_option maxHeartbeats 400000 in
theorem vS (p:Int) (o n:ByteArray) (w:zd) :
 ze prog 68 #[vj p o n] w fun e w'=>e=zf (vj p n o)∧yz w w w':=by
 go_enter func68,ntmps68;go_wp2;refine zj (v:=vj p n o) (by simp [zk,results68,go_sem]) rfl ⟨rfl,?_⟩;exact ((Below.refl _ _).alloc (zi _) _).alloc lh _
set_option maxHeartbeats 800000 in
theorem EO (p a:Int) (o n:ByteArray) (ho:o.size≤140737488355328) (hn:n.size≤140737488355328) (hp:-2305843009213693952≤p∧p≤2305843009213693952) (ha:-2305843009213693952≤a∧a≤2305843009213693952) (w:zd) :
 ze prog 128 #[vj p o n,yy yx a] w fun e w'=>e=zf (yy yx (mw p o.size n.size a))∧yz w w w':=by
 have HE:=yv (Ed.new w p o n);obtain ⟨p0,p1⟩:=hp;obtain ⟨a0,a1⟩:=ha;by_cases h1:a≤p
 ·rw [show mw p o.size n.size a=a by unfold mw;rw [if_pos h1]];go_enter func128,ntmps128;go_wp2;go_ret;exact ⟨rfl,HE.out.1⟩
 by_cases h2:p+o.size≤a
 ·rw [show mw p o.size n.size a=a - o.size+n.size by unfold mw;rw [if_neg h1,if_pos h2]];have h3:(o.size:Int)≤a - p:=lf;go_enter func128,ntmps128;go_wp2;go_ret;exact ⟨rfl,HE.out.1⟩
 ·rw [show mw p o.size n.size a=p by unfold mw;rw [if_neg h1,if_neg h2]];have h3:a - p<(o.size:Int):=lf;go_enter func128,ntmps128;go_wp2;go_ret;exact ⟨rfl,HE.out.1⟩
theorem Ed.drewN {w w1:zd} {p:Int} {o n:ByteArray} (h:Ed w p o n w1) (m:Nat):Ed w p o n (w1.drewN m):=⟨aB h.1 m,h.2⟩
set_option maxHeartbeats 1600000 in
theorem pX (t o n:ByteArray) (ht:t.size≤140737488355328) (ho:o.size≤140737488355328) (hn:n.size≤140737488355328) (p:Int) (w:zd) :
 ze prog 69 #[yw t,vj p o n] w fun e w'=>e=zf (appV (ot t p o n))∧yz w w w':=by
 have HE:=yv (Ed.new w p o n);obtain ⟨-,-,c0,c1,c2⟩:=HE.out;by_cases hp:p<0∨(t.size:Int)<p
 ·rw [jI hp];rcases hp with hp|hp
  ·go_enter func69,ntmps69;go_wp2;go_ret2;exact ⟨rfl,HE.out.1⟩
  ·have h0:0≤p:=lf;go_enter func69,ntmps69;go_wp2;go_ret2;exact ⟨rfl,HE.out.1⟩
 obtain ⟨k,rfl⟩:=zp (show 0≤p by omega);have hk:k≤t.size:=lf;clear hp;have W1:yx.wrap ((t.size:Int) - (k:Int))=(t.size:Int) - k:=IntWalk.i64_in _ lf;by_cases hs:t.extract k (k+o.size)=o
 case neg =>
  rw [mA hk hs];by_cases hle:k+o.size≤t.size
  ·have hx:=dG hs;have D1:decide ((t.size:Int) - (k:Int)<(o.size:Int))=false:=lq;have W2:yx.wrap ((k:Int)+(o.size:Int))=((k+o.size:Nat):Int):=(IntWalk.i64_in _ lf).trans lf;have G1:((k+o.size:Nat):Int)≤(t.size:Int):=lf;have G3:(k:Int)≤((k+o.size:Nat):Int):=lf;clear hs;go_enter func69,ntmps69;go_wp2_with fail;go_quiet (fail);go_wp2;go_ret2;exact ⟨rfl,aB HE.out.1 _⟩
  ·have D1:decide ((t.size:Int) - (k:Int)<(o.size:Int))=true:=lq;clear hs;go_enter func69,ntmps69;go_wp2_with fail;go_quiet (fail);go_wp2;go_ret2;exact ⟨rfl,aB HE.out.1 _⟩
 have hle:=fH hk hs;have hx:((t.extract k (k+o.size)).toList == o.toList)=true:=by rw [hs];simp
 have D1:decide ((t.size:Int) - (k:Int)<(o.size:Int))=false:=lq;have W2:yx.wrap ((k:Int)+(o.size:Int))=((k+o.size:Nat):Int):=(IntWalk.i64_in _ lf).trans lf;have G1:((k+o.size:Nat):Int)≤(t.size:Int):=lf;have G3:(k:Int)≤((k+o.size:Nat):Int):=lf;have e1:=bO t ln k;have e2:=bO t ln ((k:Int)+(o.size:Int));have v1:=fU o ho;have v2:=fU n hn;have h2:∀ b,mg t.data.toList ((k+o.size:Nat):Int)=b→mg t.data.toList ((k:Int)+(o.size:Int))=b:=fun b h=>by rw [← zq];exact h
 cases q1:mg t.data.toList k
 ·rw [dP hk hs (.inl q1)];rw [q1] at e1;have E1:=yv e1;clear e1 e2 v1 v2 h2 q1 hs;go_enter func69,ntmps69;go_wp2_with fail;go_quiet (fail);go_wp2_with (first|(go_at_call 66;(with_reducible refine (E1.out _).mono ?_);rintro e w2 ⟨rfl,rfl⟩));go_ret2;exact ⟨rfl,aB HE.out.1 _⟩
 rw [q1] at e1;have E1:=yv e1;clear e1;cases q2:mg t.data.toList ((k+o.size:Nat):Int)
 ·rw [dP hk hs (.inr q2)];rw [h2 _ q2] at e2;have E2:=yv e2;clear e2 v1 v2 h2 q1 q2 hs;go_enter func69,ntmps69;go_wp2_with fail;go_quiet (fail);go_wp2_with (first|(go_at_call 66;(with_reducible refine (E1.out _).mono ?_);rintro e w2 ⟨rfl,rfl⟩)|(go_at_call 66;(with_reducible refine (E2.out _).mono ?_);rintro e w2 ⟨rfl,rfl⟩));go_ret2;exact ⟨rfl,aB HE.out.1 _⟩
 rw [h2 _ q2] at e2;have E2:=yv e2;clear e2 h2;cases q3:oa o.data.toList
 ·rw [eA hk hs q1 q2 (.inl q3)];rw [q3] at v1;have V1:=yv v1;clear v1 v2 q1 q2 q3 hs;go_enter func69,ntmps69;go_wp2_with fail;go_quiet (fail);go_wp2_with (first|(go_at_call 66;(with_reducible refine (E1.out _).mono ?_);rintro e w2 ⟨rfl,rfl⟩)|(go_at_call 66;(with_reducible refine (E2.out _).mono ?_);rintro e w2 ⟨rfl,rfl⟩));refine (V1.out _).mono ?_;rintro e w2 ⟨rfl,aa⟩;have ab:=yv ((HE.out.drewN _).on aa);obtain ⟨-,-,k0,k1,k2⟩:=ab.out;clear aa;go_wp2;go_ret2;exact ⟨rfl,ab.out.1⟩
 rw [q3] at v1;have V1:=yv v1;clear v1;cases q4:oa n.data.toList
 ·rw [eA hk hs q1 q2 (.inr q4)];rw [q4] at v2;have V2:=yv v2;clear v2 q1 q2 q3 q4 hs;go_enter func69,ntmps69;go_wp2_with fail;go_quiet (fail);go_wp2_with (first|(go_at_call 66;(with_reducible refine (E1.out _).mono ?_);rintro e w2 ⟨rfl,rfl⟩)|(go_at_call 66;(with_reducible refine (E2.out _).mono ?_);rintro e w2 ⟨rfl,rfl⟩));refine (V1.out _).mono ?_;rintro e w2 ⟨rfl,aa⟩;have ab:=yv ((HE.out.drewN _).on aa);obtain ⟨-,-,k0,k1,k2⟩:=ab.out;clear aa;go_wp2_with (first|(go_at_call 66;(with_reducible refine (E1.out _).mono ?_);rintro e w2 ⟨rfl,rfl⟩)|(go_at_call 66;(with_reducible refine (E2.out _).mono ?_);rintro e w2 ⟨rfl,rfl⟩));refine (V2.out _).mono ?_;rintro e w3 ⟨rfl,aa⟩;have ac:=yv (ab.out.on aa);obtain ⟨-,-,k0,k1,k2⟩:=ac.out;clear aa;go_wp2;go_ret2;exact ⟨rfl,ac.out.1⟩
 rw [q4] at v2;have V2:=yv v2;clear v2;by_cases hl:4096+o.size<t.size+n.size
 ·rw [mE hk hs q1 q2 q3 q4 hl];clear q1 q2 q3 q4 hs;go_enter func69,ntmps69;go_wp2_with fail;go_quiet (fail);go_wp2_with (first|(go_at_call 66;(with_reducible refine (E1.out _).mono ?_);rintro e w2 ⟨rfl,rfl⟩)|(go_at_call 66;(with_reducible refine (E2.out _).mono ?_);rintro e w2 ⟨rfl,rfl⟩));refine (V1.out _).mono ?_;rintro e w2 ⟨rfl,aa⟩;have ab:=yv ((HE.out.drewN _).on aa);obtain ⟨-,-,k0,k1,k2⟩:=ab.out;clear aa;go_wp2_with (first|(go_at_call 66;(with_reducible refine (E1.out _).mono ?_);rintro e w2 ⟨rfl,rfl⟩)|(go_at_call 66;(with_reducible refine (E2.out _).mono ?_);rintro e w2 ⟨rfl,rfl⟩));refine (V2.out _).mono ?_;rintro e w3 ⟨rfl,aa⟩;have ac:=yv (ab.out.on aa);obtain ⟨-,-,k0,k1,k2⟩:=ac.out;clear aa;go_wp2;go_ret2;exact ⟨rfl,ac.out.1⟩
 ·rw [gH hk hs q1 q2 q3 q4 hl];have za:(t.extract 0 k).size=k:=by rw [zg];omega
  have zb:(t.extract (k+o.size) t.size).size=t.size - (k+o.size):=by rw [zg];omega
  obtain ⟨A,hA⟩:∃ A,t.extract 0 k=A:=⟨_,rfl⟩;obtain ⟨B,hB⟩:∃ B,t.extract (k+o.size) t.size=B:=⟨_,rfl⟩;rw [hA] at za ⊢;rw [hB] at zb ⊢;clear q1 q2 q3 q4 hs;go_enter func69,ntmps69;go_wp2_with fail;go_quiet (fail);go_wp2_with (first|(go_at_call 66;(with_reducible refine (E1.out _).mono ?_);rintro e w2 ⟨rfl,rfl⟩)|(go_at_call 66;(with_reducible refine (E2.out _).mono ?_);rintro e w2 ⟨rfl,rfl⟩));refine (V1.out _).mono ?_;rintro e w2 ⟨rfl,aa⟩;have ab:=yv ((HE.out.drewN _).on aa);obtain ⟨-,-,k0,k1,k2⟩:=ab.out;clear aa;go_wp2_with (first|(go_at_call 66;(with_reducible refine (E1.out _).mono ?_);rintro e w2 ⟨rfl,rfl⟩)|(go_at_call 66;(with_reducible refine (E2.out _).mono ?_);rintro e w2 ⟨rfl,rfl⟩));refine (V2.out _).mono ?_;rintro e w3 ⟨rfl,aa⟩;have ac:=yv (ab.out.on aa);obtain ⟨-,-,k0,k1,k2⟩:=ac.out;clear aa;go_wp2_with fail;have F1:¬ (9223372036854775807<k+n.size):=lf;have F2:¬ (9223372036854775807<(A++n).size+(t.size - (k+o.size))):=by rw [zr];omega
  have F3:¬ (9223372036854775807<k+n.size+(t.size - (k+o.size))):=lf;have G4:(k:Int)≤(t.size:Int):=lf;go_quiet (fail);go_wp2;go_ret2;exact ⟨rfl,aB ac.out.1 _⟩
set_option maxHeartbeats 800000 in
theorem II (p a:Int) (o n:ByteArray) (ho:o.size≤140737488355328) (hn:n.size≤140737488355328) (hp:-2305843009213693952≤p∧p≤2305843009213693952) (ha:-2305843009213693952≤a∧a≤2305843009213693952) (w:zd) :
 ze prog 214 #[vj p o n,yy yx a] w fun e w'=>e=zf (yy yx (mw p o.size n.size a))∧yz w w w':=by
 have HE:=yv (Ed.new w p o n);obtain ⟨p0,p1⟩:=hp;obtain ⟨a0,a1⟩:=ha;by_cases h1:a≤p
 ·rw [show mw p o.size n.size a=a by unfold mw;rw [if_pos h1]];go_enter func214,ntmps214;go_wp2;go_ret;exact ⟨rfl,HE.out.1⟩
 by_cases h2:p+o.size≤a
 ·rw [show mw p o.size n.size a=a - o.size+n.size by unfold mw;rw [if_neg h1,if_pos h2]];have h3:p≤9223372036854775807 - (o.size:Int):=lf;have h4:a - (o.size:Int)≤9223372036854775807 - (n.size:Int):=lf;go_enter func214,ntmps214;go_wp2;go_ret;exact ⟨rfl,HE.out.1⟩
 ·rw [show mw p o.size n.size a=p by unfold mw;rw [if_neg h1,if_neg h2]];have h3:p≤9223372036854775807 - (o.size:Int):=lf;go_enter func214,ntmps214;go_wp2;go_ret;exact ⟨rfl,HE.out.1⟩
end Go.Proofs.YtbagenpobcgjnaaGreat
