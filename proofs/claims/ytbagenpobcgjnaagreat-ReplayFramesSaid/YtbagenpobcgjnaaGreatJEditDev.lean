/-
  Joined: EditDev, EditRef, EditDev2.
-/
import Derived.Test.YtbagenpobcgjnaaGreatJUtfRTake
import Derived.Test.YtbagenpobcgjnaaGreatJCells
import Derived.Lib.MinMax
open ByteArray renaming size_append->Af,size_extract->zu
open Go renaming Calls->zr,World->zq,bodyPost_ret->zx,results->zy
open Go.Ending renaming returned->zt
open Go.IntKind renaming i64->zn
open Go.Lib renaming hid->zk
open Go.RowKit renaming Below->zp
open Go.Value renaming int->zo,string->zm
open Int renaming eq_ofNat_of_zero_le->Ad,natCast_add->Ae
open List renaming length_drop->Ab,take_of_length_le->Aa
open Nat renaming le_refl->zw
namespace Go.Proofs.YtbagenpobcgjnaaGreat
open Go.Proofs.Tryz
set_option maxRecDepth 100000
open Lib (hid)
open Go.RowKit
set_option linter.unusedVariables false
set_option linter.unusedSimpArgs false
abbrev vt (p:Int) (o n:ByteArray):Value:=.agg #[zo zn p,zm o,zm n]
theorem SK (t:ByteArray) (k m:Nat) (hk:k≤t.size):(t.extract k t.size).extract 0 (min (m:Int) ((t.size - k:Nat):Int)).toNat=t.extract k (k+m):=by
 apply aW;have hlen:t.data.toList.length=t.size:=li;simp only [aH,Nat.sub_zero,List.drop_zero,List.take_take];rcases Nat.le_total m (t.size - k) with h|h
 ·congr 1
  omega
 ·rw [Aa (by rw [Ab];omega),Aa (by rw [Ab];omega)]
set_option maxHeartbeats 800000 in
theorem FM (t o n:ByteArray) (ht:t.size≤maxLen) (ho:o.size≤maxLen) (k:Nat) (hk:k≤t.size) (w:zq) :
 zr prog 136 #[zm t,vt k o n] w fun e w'=>e=zt (vt k (t.extract k (k+o.size)) n)∧zp w w w':=by
 unfold maxLen at ht ho;have hz:(t.extract k t.size).size=t.size - k:=by rw [zu];omega
 have hf:=SK t k o.size hk;go_enter func136,ntmps136;go_wp2;refine zx (v:=vt k (t.extract k (k+o.size)) n) (by simp [zy,results136,go_sem]) rfl ⟨rfl,?_⟩;exact ((Below.refl _ _).alloc (zw _) _).alloc li _
set_option maxHeartbeats 400000 in
theorem zF (p:Int) (o n:ByteArray) (w:zq) :
 zr prog 109 #[vt p o n] w fun e w'=>e=zt (vt p n o)∧zp w w w':=by
 go_enter func109,ntmps109;go_wp2;refine zx (v:=vt p n o) (by simp [zy,results109,go_sem]) rfl ⟨rfl,?_⟩;exact ((Below.refl _ _).alloc (zw _) _).alloc li _
def Ed (w:zq) (p:Int) (o n:ByteArray) (w1:zq):Prop:=
 zp w w w1∧w.heap.size+1≤w1∧w1 ⟨w,0,none⟩=some (zo zn p)∧w1 ⟨w,1,none⟩=some (zm o)∧w1 ⟨w,2,none⟩=some (zm n)
theorem Ed.new (w:zq) (p:Int) (o n:ByteArray):Ed w p o n (w.alloc (.cells #[zo zn p,zm o,zm n] 92)):=
 have hb:=l6.new w #[zo zn p,zm o,zm n] 92
 ⟨(Below.refl _ _).alloc (zw _) _,li,hb.cell 0 _ rfl,hb.cell 1 _ rfl,hb.cell 2 _ rfl⟩
theorem Ed.drew {w w1:zq} {p:Int} {o n:ByteArray} (h:Ed w p o n w1):Ed w p o n w1.drew:=⟨h.1.drew,h.2⟩
theorem Ed.on {w w1 w2:zq} {p:Int} {o n:ByteArray} (h:Ed w p o n w1) (hb:zp w1 w1 w2):Ed w p o n w2:=
 ⟨h.1.trans (hb.mono h.1.size),by have:=hb.size;have:=h.2.1;omega,(hb.cell (show (⟨w,0,none⟩:Addr).block<_ from h.2.1)).trans h.2.2.1,
  (hb.cell (show (⟨w,1,none⟩:Addr).block<_ from h.2.1)).trans h.2.2.2.1,(hb.cell (show (⟨w,2,none⟩:Addr).block<_ from h.2.1)).trans h.2.2.2.2⟩
abbrev appV (r:ByteArray×Int):Value:=.tuple #[zm r.1,zo zn r.2]
set_option maxHeartbeats 1600000 in
theorem LO (t o n:ByteArray) (ht:t.size≤140737488355328) (ho:o.size≤140737488355328) (hn:n.size≤140737488355328) (p:Int) (w:zq) :
 zr prog 110 #[zm t,vt p o n] w fun e w'=>e=zt (appV (oq t p o n))∧zp w w w':=by
 have HE:=zk (Ed.new w p o n);by_cases hp:p<0∨(t.size:Int)<p
 ·rw [kY hp];rcases hp with hp|hp
  ·go_enter func110,ntmps110;go_wp2;go_ret2;exact ⟨rfl,HE.out.1⟩
  ·have h0:0≤p:=lg;go_enter func110,ntmps110;go_wp2;go_ret2;exact ⟨rfl,HE.out.1⟩
 obtain ⟨k,rfl⟩:=Ad (show 0≤p by omega);have hk:k≤t.size:=lg;clear hp;have c1:=FM t o n lq lq k hk;by_cases hs:t.extract k (k+o.size)=o
 case neg =>
  rw [lX hk hs];obtain ⟨X,hX⟩:∃ X,t.extract k (k+o.size)=X:=⟨_,rfl⟩;rw [hX] at c1 hs;have hx:=dQ hs;have C1:=zk c1;clear c1 hX hs ht ho hn;go_enter func110,ntmps110;go_wp2_with fail
  go_region_held3 (fun w'=>zp w w w'∧w.heap.size+1≤w'∧w' ⟨w,0,none⟩=some (zo zn k)∧w' ⟨w,1,none⟩=some (zm o)∧w' ⟨w,2,none⟩=some (zm n))
   (first|exact HE.out.drew|exact Ed.on ln ab)
   (first|(go_at_call 136;refine (C1.out _).mono ?_;rintro e w1 ⟨rfl,ab⟩))
  have ac:=zk (show Ed w k o n _ by assumption);go_wp2;go_ret2;exact ⟨rfl,ac.out.1⟩
 have hle:=gA hk hs;rw [hs] at c1;have e1:=oX t lq k;have e2:=oX t lq ((k:Int)+(o.size:Int));have v1:=dU o lq;have v2:=dU n lq;have h2:∀ b,me t.data.toList ((k+o.size:Nat):Int)=b→me t.data.toList ((k:Int)+(o.size:Int))=b:=fun b h=>by rw [← Ae];exact h
 have C1:=zk c1;clear c1;cases q1:me t.data.toList k
 ·rw [eA hk hs (.inl q1)];rw [q1] at e1;have E1:=zk e1;clear e1 e2 v1 v2 h2 q1 hs;go_enter func110,ntmps110;go_wp2_with fail
  go_region_held3 (fun w'=>zp w w w'∧w.heap.size+1≤w'∧w' ⟨w,0,none⟩=some (zo zn k)∧w' ⟨w,1,none⟩=some (zm o)∧w' ⟨w,2,none⟩=some (zm n))
   (first|exact HE.out.drew|exact Ed.on ln ab)
   (first|(go_at_call 136;refine (C1.out _).mono ?_;rintro e w1 ⟨rfl,ab⟩))
  have ac:=zk (show Ed w k o n _ by assumption);go_wp2_with (first|(go_at_call 107;(with_reducible refine (E1.out _).mono ?_);rintro e w2 ⟨rfl,rfl⟩));go_ret2;exact ⟨rfl,ac.out.1⟩
 rw [q1] at e1;have E1:=zk e1;clear e1;cases q2:me t.data.toList ((k+o.size:Nat):Int)
 ·rw [eA hk hs (.inr q2)];rw [h2 _ q2] at e2;have E2:=zk e2;clear e2 v1 v2 h2 q1 q2 hs;go_enter func110,ntmps110;go_wp2_with fail
  go_region_held3 (fun w'=>zp w w w'∧w.heap.size+1≤w'∧w' ⟨w,0,none⟩=some (zo zn k)∧w' ⟨w,1,none⟩=some (zm o)∧w' ⟨w,2,none⟩=some (zm n))
   (first|exact HE.out.drew|exact Ed.on ln ab)
   (first|(go_at_call 136;refine (C1.out _).mono ?_;rintro e w1 ⟨rfl,ab⟩))
  have ac:=zk (show Ed w k o n _ by assumption);go_wp2_with (first|(go_at_call 107;(with_reducible refine (E1.out _).mono ?_);rintro e w2 ⟨rfl,rfl⟩)|(go_at_call 107;(with_reducible refine (E2.out _).mono ?_);rintro e w2 ⟨rfl,rfl⟩));go_ret2;exact ⟨rfl,ac.out.1⟩
 rw [h2 _ q2] at e2;have E2:=zk e2;clear e2 h2;cases q3:nx o.data.toList
 ·rw [eJ hk hs q1 q2 (.inl q3)];rw [q3] at v1;have V1:=zk v1;clear v1 v2 q1 q2 q3 hs;go_enter func110,ntmps110;go_wp2_with fail
  go_region_held3 (fun w'=>zp w w w'∧w.heap.size+1≤w'∧w' ⟨w,0,none⟩=some (zo zn k)∧w' ⟨w,1,none⟩=some (zm o)∧w' ⟨w,2,none⟩=some (zm n))
   (first|exact HE.out.drew|exact Ed.on ln ab)
   (first|(go_at_call 136;refine (C1.out _).mono ?_;rintro e w1 ⟨rfl,ab⟩))
  have ac:=zk (show Ed w k o n _ by assumption);go_wp2_with (first|(go_at_call 107;(with_reducible refine (E1.out _).mono ?_);rintro e w2 ⟨rfl,rfl⟩)|(go_at_call 107;(with_reducible refine (E2.out _).mono ?_);rintro e w2 ⟨rfl,rfl⟩));refine (V1.out _).mono ?_;rintro e w2 ⟨rfl,aa⟩;have ad:=zk (ac.out.on aa);obtain ⟨-,-,k0,k1,k2⟩:=ad.out;clear aa;go_wp2;go_ret2;exact ⟨rfl,ad.out.1⟩
 rw [q3] at v1;have V1:=zk v1;clear v1;cases q4:nx n.data.toList
 ·rw [eJ hk hs q1 q2 (.inr q4)];rw [q4] at v2;have V2:=zk v2;clear v2 q1 q2 q3 q4 hs;go_enter func110,ntmps110;go_wp2_with fail
  go_region_held3 (fun w'=>zp w w w'∧w.heap.size+1≤w'∧w' ⟨w,0,none⟩=some (zo zn k)∧w' ⟨w,1,none⟩=some (zm o)∧w' ⟨w,2,none⟩=some (zm n))
   (first|exact HE.out.drew|exact Ed.on ln ab)
   (first|(go_at_call 136;refine (C1.out _).mono ?_;rintro e w1 ⟨rfl,ab⟩))
  have ac:=zk (show Ed w k o n _ by assumption);go_wp2_with (first|(go_at_call 107;(with_reducible refine (E1.out _).mono ?_);rintro e w2 ⟨rfl,rfl⟩)|(go_at_call 107;(with_reducible refine (E2.out _).mono ?_);rintro e w2 ⟨rfl,rfl⟩));refine (V1.out _).mono ?_;rintro e w2 ⟨rfl,aa⟩;have ad:=zk (ac.out.on aa);obtain ⟨-,-,k0,k1,k2⟩:=ad.out;clear aa;go_wp2_with (first|(go_at_call 107;(with_reducible refine (E1.out _).mono ?_);rintro e w2 ⟨rfl,rfl⟩)|(go_at_call 107;(with_reducible refine (E2.out _).mono ?_);rintro e w2 ⟨rfl,rfl⟩));refine (V2.out _).mono ?_;rintro e w3 ⟨rfl,aa⟩;have ae:=zk (ad.out.on aa);obtain ⟨-,-,k0,k1,k2⟩:=ae.out;clear aa;go_wp2;go_ret2;exact ⟨rfl,ae.out.1⟩
 rw [q4] at v2;have V2:=zk v2;clear v2;by_cases hl:4096+o.size<t.size+n.size
 ·rw [mU hk hs q1 q2 q3 q4 hl];clear q1 q2 q3 q4 hs;go_enter func110,ntmps110;go_wp2_with fail
  go_region_held3 (fun w'=>zp w w w'∧w.heap.size+1≤w'∧w' ⟨w,0,none⟩=some (zo zn k)∧w' ⟨w,1,none⟩=some (zm o)∧w' ⟨w,2,none⟩=some (zm n))
   (first|exact HE.out.drew|exact Ed.on ln ab)
   (first|(go_at_call 136;refine (C1.out _).mono ?_;rintro e w1 ⟨rfl,ab⟩))
  have ac:=zk (show Ed w k o n _ by assumption);go_wp2_with (first|(go_at_call 107;(with_reducible refine (E1.out _).mono ?_);rintro e w2 ⟨rfl,rfl⟩)|(go_at_call 107;(with_reducible refine (E2.out _).mono ?_);rintro e w2 ⟨rfl,rfl⟩));refine (V1.out _).mono ?_;rintro e w2 ⟨rfl,aa⟩;have ad:=zk (ac.out.on aa);obtain ⟨-,-,k0,k1,k2⟩:=ad.out;clear aa;go_wp2_with (first|(go_at_call 107;(with_reducible refine (E1.out _).mono ?_);rintro e w2 ⟨rfl,rfl⟩)|(go_at_call 107;(with_reducible refine (E2.out _).mono ?_);rintro e w2 ⟨rfl,rfl⟩));refine (V2.out _).mono ?_;rintro e w3 ⟨rfl,aa⟩;have ae:=zk (ad.out.on aa);obtain ⟨-,-,k0,k1,k2⟩:=ae.out;clear aa;go_wp2;go_ret2;exact ⟨rfl,ae.out.1⟩
 ·rw [gZ hk hs q1 q2 q3 q4 hl];have za:(t.extract 0 k).size=k:=by rw [zu];omega
  have zb:(t.extract (k+o.size) t.size).size=t.size - (k+o.size):=by rw [zu];omega
  obtain ⟨A,hA⟩:∃ A,t.extract 0 k=A:=⟨_,rfl⟩;obtain ⟨B,hB⟩:∃ B,t.extract (k+o.size) t.size=B:=⟨_,rfl⟩;rw [hA] at za ⊢;rw [hB] at zb ⊢;clear q1 q2 q3 q4 hs;go_enter func110,ntmps110;go_wp2_with fail
  go_region_held3 (fun w'=>zp w w w'∧w.heap.size+1≤w'∧w' ⟨w,0,none⟩=some (zo zn k)∧w' ⟨w,1,none⟩=some (zm o)∧w' ⟨w,2,none⟩=some (zm n))
   (first|exact HE.out.drew|exact Ed.on ln ab)
   (first|(go_at_call 136;refine (C1.out _).mono ?_;rintro e w1 ⟨rfl,ab⟩))
  have ac:=zk (show Ed w k o n _ by assumption);go_wp2_with (first|(go_at_call 107;(with_reducible refine (E1.out _).mono ?_);rintro e w2 ⟨rfl,rfl⟩)|(go_at_call 107;(with_reducible refine (E2.out _).mono ?_);rintro e w2 ⟨rfl,rfl⟩));refine (V1.out _).mono ?_;rintro e w2 ⟨rfl,aa⟩;have ad:=zk (ac.out.on aa);obtain ⟨-,-,k0,k1,k2⟩:=ad.out;clear aa;go_wp2_with (first|(go_at_call 107;(with_reducible refine (E1.out _).mono ?_);rintro e w2 ⟨rfl,rfl⟩)|(go_at_call 107;(with_reducible refine (E2.out _).mono ?_);rintro e w2 ⟨rfl,rfl⟩));refine (V2.out _).mono ?_;rintro e w3 ⟨rfl,aa⟩;have ae:=zk (ad.out.on aa);obtain ⟨-,-,k0,k1,k2⟩:=ae.out;clear aa;go_wp2_with fail;have F1:¬ (9223372036854775807<k+n.size):=lg;have F2:¬ (9223372036854775807<(A++n).size+(t.size - (k+o.size))):=by rw [Af];omega
  have F3:¬ (9223372036854775807<k+n.size+(t.size - (k+o.size))):=lg;have N1:((k:Int)+(o.size:Int)).toNat=k+o.size:=lg;have G1:(k:Int)+(o.size:Int)≤(t.size:Int):=lg;have G2:(0:Int)≤(k:Int)+(o.size:Int):=lg;have G3:(k:Int)≤(t.size:Int):=lg
  go_region_held3 (fun w'=>zp w w w'∧w.heap.size+1≤w'∧w' ⟨w,0,none⟩=some (zo zn k)∧w' ⟨w,1,none⟩=some (zm o)∧w' ⟨w,2,none⟩=some (zm n))
   (first|exact ae.out.drew)
   (fail)
  go_wp2;go_ret2;exact ⟨rfl,ae.out.1.drew⟩
set_option maxHeartbeats 400000 in
theorem yO (p:Int) (o n:ByteArray) (w:zq) :
 zr prog 68 #[vt p o n] w fun e w'=>e=zt (vt p n o)∧zp w w w':=by
 go_enter func68,ntmps68;go_wp2;refine zx (v:=vt p n o) (by simp [zy,results68,go_sem]) rfl ⟨rfl,?_⟩;exact ((Below.refl _ _).alloc (zw _) _).alloc li _
set_option maxHeartbeats 800000 in
theorem GX (p a:Int) (o n:ByteArray) (ho:o.size≤140737488355328) (hn:n.size≤140737488355328) (hp:-2305843009213693952≤p∧p≤2305843009213693952) (ha:-2305843009213693952≤a∧a≤2305843009213693952) (w:zq) :
 zr prog 128 #[vt p o n,zo zn a] w fun e w'=>e=zt (zo zn (mu p o.size n.size a))∧zp w w w':=by
 have HE:=zk (Ed.new w p o n);obtain ⟨p0,p1⟩:=hp;obtain ⟨a0,a1⟩:=ha;by_cases h1:a≤p
 ·rw [show mu p o.size n.size a=a by unfold mu;rw [if_pos h1]];go_enter func128,ntmps128;go_wp2;go_ret;exact ⟨rfl,HE.out.1⟩
 by_cases h2:p+o.size≤a
 ·rw [show mu p o.size n.size a=a - o.size+n.size by unfold mu;rw [if_neg h1,if_pos h2]];have h3:(o.size:Int)≤a - p:=lg;go_enter func128,ntmps128;go_wp2;go_ret;exact ⟨rfl,HE.out.1⟩
 ·rw [show mu p o.size n.size a=p by unfold mu;rw [if_neg h1,if_neg h2]];have h3:a - p<(o.size:Int):=lg;go_enter func128,ntmps128;go_wp2;go_ret;exact ⟨rfl,HE.out.1⟩
theorem Ed.drewN {w w1:zq} {p:Int} {o n:ByteArray} (h:Ed w p o n w1) (m:Nat):Ed w p o n (w1.drewN m):=⟨aC h.1 m,h.2⟩
set_option maxHeartbeats 1600000 in
theorem pU (t o n:ByteArray) (ht:t.size≤140737488355328) (ho:o.size≤140737488355328) (hn:n.size≤140737488355328) (p:Int) (w:zq) :
 zr prog 69 #[zm t,vt p o n] w fun e w'=>e=zt (appV (oq t p o n))∧zp w w w':=by
 have HE:=zk (Ed.new w p o n);obtain ⟨-,-,c0,c1,c2⟩:=HE.out;by_cases hp:p<0∨(t.size:Int)<p
 ·rw [kY hp];rcases hp with hp|hp
  ·go_enter func69,ntmps69;go_wp2;go_ret2;exact ⟨rfl,HE.out.1⟩
  ·have h0:0≤p:=lg;go_enter func69,ntmps69;go_wp2;go_ret2;exact ⟨rfl,HE.out.1⟩
 obtain ⟨k,rfl⟩:=Ad (show 0≤p by omega);have hk:k≤t.size:=lg;clear hp;have W1:zn.wrap ((t.size:Int) - (k:Int))=(t.size:Int) - k:=IntWalk.i64_in _ lg;by_cases hs:t.extract k (k+o.size)=o
 case neg =>
  rw [lX hk hs];by_cases hle:k+o.size≤t.size
  ·have hx:=dQ hs;have D1:decide ((t.size:Int) - (k:Int)<(o.size:Int))=false:=lr;have W2:zn.wrap ((k:Int)+(o.size:Int))=((k+o.size:Nat):Int):=(IntWalk.i64_in _ lg).trans lg;have G1:((k+o.size:Nat):Int)≤(t.size:Int):=lg;have G3:(k:Int)≤((k+o.size:Nat):Int):=lg;clear hs;go_enter func69,ntmps69;go_wp2_with fail;go_quiet (fail);go_wp2;go_ret2;exact ⟨rfl,aC HE.out.1 _⟩
  ·have D1:decide ((t.size:Int) - (k:Int)<(o.size:Int))=true:=lr;clear hs;go_enter func69,ntmps69;go_wp2_with fail;go_quiet (fail);go_wp2;go_ret2;exact ⟨rfl,aC HE.out.1 _⟩
 have hle:=gA hk hs;have hx:((t.extract k (k+o.size)).toList == o.toList)=true:=by rw [hs];simp
 have D1:decide ((t.size:Int) - (k:Int)<(o.size:Int))=false:=lr;have W2:zn.wrap ((k:Int)+(o.size:Int))=((k+o.size:Nat):Int):=(IntWalk.i64_in _ lg).trans lg;have G1:((k+o.size:Nat):Int)≤(t.size:Int):=lg;have G3:(k:Int)≤((k+o.size:Nat):Int):=lg;have e1:=bV t lq k;have e2:=bV t lq ((k:Int)+(o.size:Int));have v1:=eT o ho;have v2:=eT n hn;have h2:∀ b,me t.data.toList ((k+o.size:Nat):Int)=b→me t.data.toList ((k:Int)+(o.size:Int))=b:=fun b h=>by rw [← Ae];exact h
 cases q1:me t.data.toList k
 ·rw [eA hk hs (.inl q1)];rw [q1] at e1;have E1:=zk e1;clear e1 e2 v1 v2 h2 q1 hs;go_enter func69,ntmps69;go_wp2_with fail;go_quiet (fail);go_wp2_with (first|(go_at_call 66;(with_reducible refine (E1.out _).mono ?_);rintro e w2 ⟨rfl,rfl⟩));go_ret2;exact ⟨rfl,aC HE.out.1 _⟩
 rw [q1] at e1;have E1:=zk e1;clear e1;cases q2:me t.data.toList ((k+o.size:Nat):Int)
 ·rw [eA hk hs (.inr q2)];rw [h2 _ q2] at e2;have E2:=zk e2;clear e2 v1 v2 h2 q1 q2 hs;go_enter func69,ntmps69;go_wp2_with fail;go_quiet (fail);go_wp2_with (first|(go_at_call 66;(with_reducible refine (E1.out _).mono ?_);rintro e w2 ⟨rfl,rfl⟩)|(go_at_call 66;(with_reducible refine (E2.out _).mono ?_);rintro e w2 ⟨rfl,rfl⟩));go_ret2;exact ⟨rfl,aC HE.out.1 _⟩
 rw [h2 _ q2] at e2;have E2:=zk e2;clear e2 h2;cases q3:nx o.data.toList
 ·rw [eJ hk hs q1 q2 (.inl q3)];rw [q3] at v1;have V1:=zk v1;clear v1 v2 q1 q2 q3 hs;go_enter func69,ntmps69;go_wp2_with fail;go_quiet (fail);go_wp2_with (first|(go_at_call 66;(with_reducible refine (E1.out _).mono ?_);rintro e w2 ⟨rfl,rfl⟩)|(go_at_call 66;(with_reducible refine (E2.out _).mono ?_);rintro e w2 ⟨rfl,rfl⟩));refine (V1.out _).mono ?_;rintro e w2 ⟨rfl,aa⟩;have ab:=zk ((HE.out.drewN _).on aa);obtain ⟨-,-,k0,k1,k2⟩:=ab.out;clear aa;go_wp2;go_ret2;exact ⟨rfl,ab.out.1⟩
 rw [q3] at v1;have V1:=zk v1;clear v1;cases q4:nx n.data.toList
 ·rw [eJ hk hs q1 q2 (.inr q4)];rw [q4] at v2;have V2:=zk v2;clear v2 q1 q2 q3 q4 hs;go_enter func69,ntmps69;go_wp2_with fail;go_quiet (fail);go_wp2_with (first|(go_at_call 66;(with_reducible refine (E1.out _).mono ?_);rintro e w2 ⟨rfl,rfl⟩)|(go_at_call 66;(with_reducible refine (E2.out _).mono ?_);rintro e w2 ⟨rfl,rfl⟩));refine (V1.out _).mono ?_;rintro e w2 ⟨rfl,aa⟩;have ab:=zk ((HE.out.drewN _).on aa);obtain ⟨-,-,k0,k1,k2⟩:=ab.out;clear aa;go_wp2_with (first|(go_at_call 66;(with_reducible refine (E1.out _).mono ?_);rintro e w2 ⟨rfl,rfl⟩)|(go_at_call 66;(with_reducible refine (E2.out _).mono ?_);rintro e w2 ⟨rfl,rfl⟩));refine (V2.out _).mono ?_;rintro e w3 ⟨rfl,aa⟩;have ac:=zk (ab.out.on aa);obtain ⟨-,-,k0,k1,k2⟩:=ac.out;clear aa;go_wp2;go_ret2;exact ⟨rfl,ac.out.1⟩
 rw [q4] at v2;have V2:=zk v2;clear v2;by_cases hl:4096+o.size<t.size+n.size
 ·rw [mU hk hs q1 q2 q3 q4 hl];clear q1 q2 q3 q4 hs;go_enter func69,ntmps69;go_wp2_with fail;go_quiet (fail);go_wp2_with (first|(go_at_call 66;(with_reducible refine (E1.out _).mono ?_);rintro e w2 ⟨rfl,rfl⟩)|(go_at_call 66;(with_reducible refine (E2.out _).mono ?_);rintro e w2 ⟨rfl,rfl⟩));refine (V1.out _).mono ?_;rintro e w2 ⟨rfl,aa⟩;have ab:=zk ((HE.out.drewN _).on aa);obtain ⟨-,-,k0,k1,k2⟩:=ab.out;clear aa;go_wp2_with (first|(go_at_call 66;(with_reducible refine (E1.out _).mono ?_);rintro e w2 ⟨rfl,rfl⟩)|(go_at_call 66;(with_reducible refine (E2.out _).mono ?_);rintro e w2 ⟨rfl,rfl⟩));refine (V2.out _).mono ?_;rintro e w3 ⟨rfl,aa⟩;have ac:=zk (ab.out.on aa);obtain ⟨-,-,k0,k1,k2⟩:=ac.out;clear aa;go_wp2;go_ret2;exact ⟨rfl,ac.out.1⟩
 ·rw [gZ hk hs q1 q2 q3 q4 hl];have za:(t.extract 0 k).size=k:=by rw [zu];omega
  have zb:(t.extract (k+o.size) t.size).size=t.size - (k+o.size):=by rw [zu];omega
  obtain ⟨A,hA⟩:∃ A,t.extract 0 k=A:=⟨_,rfl⟩;obtain ⟨B,hB⟩:∃ B,t.extract (k+o.size) t.size=B:=⟨_,rfl⟩;rw [hA] at za ⊢;rw [hB] at zb ⊢;clear q1 q2 q3 q4 hs;go_enter func69,ntmps69;go_wp2_with fail;go_quiet (fail);go_wp2_with (first|(go_at_call 66;(with_reducible refine (E1.out _).mono ?_);rintro e w2 ⟨rfl,rfl⟩)|(go_at_call 66;(with_reducible refine (E2.out _).mono ?_);rintro e w2 ⟨rfl,rfl⟩));refine (V1.out _).mono ?_;rintro e w2 ⟨rfl,aa⟩;have ab:=zk ((HE.out.drewN _).on aa);obtain ⟨-,-,k0,k1,k2⟩:=ab.out;clear aa;go_wp2_with (first|(go_at_call 66;(with_reducible refine (E1.out _).mono ?_);rintro e w2 ⟨rfl,rfl⟩)|(go_at_call 66;(with_reducible refine (E2.out _).mono ?_);rintro e w2 ⟨rfl,rfl⟩));refine (V2.out _).mono ?_;rintro e w3 ⟨rfl,aa⟩;have ac:=zk (ab.out.on aa);obtain ⟨-,-,k0,k1,k2⟩:=ac.out;clear aa;go_wp2_with fail;have F1:¬ (9223372036854775807<k+n.size):=lg;have F2:¬ (9223372036854775807<(A++n).size+(t.size - (k+o.size))):=by rw [Af];omega
  have F3:¬ (9223372036854775807<k+n.size+(t.size - (k+o.size))):=lg;have G4:(k:Int)≤(t.size:Int):=lg;go_quiet (fail);go_wp2;go_ret2;exact ⟨rfl,aC ac.out.1 _⟩
set_option maxHeartbeats 800000 in
theorem MK (p a:Int) (o n:ByteArray) (ho:o.size≤140737488355328) (hn:n.size≤140737488355328) (hp:-2305843009213693952≤p∧p≤2305843009213693952) (ha:-2305843009213693952≤a∧a≤2305843009213693952) (w:zq) :
 zr prog 214 #[vt p o n,zo zn a] w fun e w'=>e=zt (zo zn (mu p o.size n.size a))∧zp w w w':=by
 have HE:=zk (Ed.new w p o n);obtain ⟨p0,p1⟩:=hp;obtain ⟨a0,a1⟩:=ha;by_cases h1:a≤p
 ·rw [show mu p o.size n.size a=a by unfold mu;rw [if_pos h1]];go_enter func214,ntmps214;go_wp2;go_ret;exact ⟨rfl,HE.out.1⟩
 by_cases h2:p+o.size≤a
 ·rw [show mu p o.size n.size a=a - o.size+n.size by unfold mu;rw [if_neg h1,if_pos h2]];have h3:p≤9223372036854775807 - (o.size:Int):=lg;have h4:a - (o.size:Int)≤9223372036854775807 - (n.size:Int):=lg;go_enter func214,ntmps214;go_wp2;go_ret;exact ⟨rfl,HE.out.1⟩
 ·rw [show mu p o.size n.size a=p by unfold mu;rw [if_neg h1,if_neg h2]];have h3:p≤9223372036854775807 - (o.size:Int):=lg;go_enter func214,ntmps214;go_wp2;go_ret;exact ⟨rfl,HE.out.1⟩
end Go.Proofs.YtbagenpobcgjnaaGreat
