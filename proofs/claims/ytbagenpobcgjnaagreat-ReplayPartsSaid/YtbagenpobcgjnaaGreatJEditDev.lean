/-
  Joined: EditDev, EditRef, EditDev2.
-/
import Derived.Test.YtbagenpobcgjnaaGreatJUtfRTake
import Derived.Test.YtbagenpobcgjnaaGreatJCells
import Derived.Lib.MinMax
namespace Go.Proofs.YtbagenpobcgjnaaGreat
open Go.Proofs.Tryz
set_option maxRecDepth 100000
open Lib (hid)
open Go.RowKit
set_option linter.unusedVariables false
set_option linter.unusedSimpArgs false
abbrev edV (p:Int) (o n:ByteArray):Value:=.agg #[.int .i64 p,.string o,.string n]
theorem NQ (t:ByteArray) (k m:Nat) (hk:k≤t.size):(t.extract k t.size).extract 0 (min (m:Int) ((t.size - k:Nat):Int)).toNat=t.extract k (k+m):=by
 apply aI
 have hlen:t.data.toList.length=t.size:=by simp
 simp only [aC,Nat.sub_zero,List.drop_zero,List.take_take]
 rcases Nat.le_total m (t.size - k) with h|h
 ·congr 1
  omega
 ·rw [List.take_of_length_le (by rw [List.length_drop];omega),List.take_of_length_le (by rw [List.length_drop];omega)]
set_option maxHeartbeats 800000 in
theorem AJ (t o n:ByteArray) (ht:t.size≤maxLen) (ho:o.size≤maxLen) (k:Nat) (hk:k≤t.size) (w:World) :
 Calls prog 136 #[.string t,edV k o n] w fun e w'=>e=.returned (edV k (t.extract k (k+o.size)) n)∧Below w.heap.size w w':=by
 unfold maxLen at ht ho
 have hz:(t.extract k t.size).size=t.size - k:=by rw [ByteArray.size_extract];omega
 have hf:=NQ t k o.size hk
 go_enter func136,ntmps136
 go_wp2
 refine bodyPost_ret (v:=edV k (t.extract k (k+o.size)) n) (by simp [results,results136,go_sem]) rfl ⟨rfl,?_⟩
 exact ((Below.refl _ _).alloc (Nat.le_refl _) _).alloc (by simp) _
set_option maxHeartbeats 400000 in
theorem vY (p:Int) (o n:ByteArray) (w:World) :
 Calls prog 109 #[edV p o n] w fun e w'=>e=.returned (edV p n o)∧Below w.heap.size w w':=by
 go_enter func109,ntmps109
 go_wp2
 refine bodyPost_ret (v:=edV p n o) (by simp [results,results109,go_sem]) rfl ⟨rfl,?_⟩
 exact ((Below.refl _ _).alloc (Nat.le_refl _) _).alloc (by simp) _
def Ed (w:World) (p:Int) (o n:ByteArray) (w1:World):Prop:=
 Below w.heap.size w w1∧w.heap.size+1≤w1.heap.size∧w1.cell? ⟨w.heap.size,0,none⟩=some (.int .i64 p)∧w1.cell? ⟨w.heap.size,1,none⟩=some (.string o)∧w1.cell? ⟨w.heap.size,2,none⟩=some (.string n)
theorem Ed.new (w:World) (p:Int) (o n:ByteArray):Ed w p o n (w.alloc (.cells #[.int .i64 p,.string o,.string n] 92)):=
 have hb:=Blk.new w #[.int .i64 p,.string o,.string n] 92
 ⟨(Below.refl _ _).alloc (Nat.le_refl _) _,by simp,hb.cell 0 _ rfl,hb.cell 1 _ rfl,hb.cell 2 _ rfl⟩
theorem Ed.drew {w w1:World} {p:Int} {o n:ByteArray} (h:Ed w p o n w1):Ed w p o n w1.drew:=⟨h.1.drew,h.2⟩
theorem Ed.on {w w1 w2:World} {p:Int} {o n:ByteArray} (h:Ed w p o n w1) (hb:Below w1.heap.size w1 w2):Ed w p o n w2:=
 ⟨h.1.trans (hb.mono h.1.size),by have:=hb.size;have:=h.2.1;omega,(hb.cell (show (⟨w.heap.size,0,none⟩:Addr).block<_ from h.2.1)).trans h.2.2.1,
  (hb.cell (show (⟨w.heap.size,1,none⟩:Addr).block<_ from h.2.1)).trans h.2.2.2.1,(hb.cell (show (⟨w.heap.size,2,none⟩:Addr).block<_ from h.2.1)).trans h.2.2.2.2⟩
abbrev appV (r:ByteArray×Int):Value:=.tuple #[.string r.1,.int .i64 r.2]
set_option maxHeartbeats 1600000 in
theorem DJ (t o n:ByteArray) (ht:t.size≤140737488355328) (ho:o.size≤140737488355328) (hn:n.size≤140737488355328) (p:Int) (w:World) :
 Calls prog 110 #[.string t,edV p o n] w fun e w'=>e=.returned (appV (appE t p o n))∧Below w.heap.size w w':=by
 have HE:=hid (Ed.new w p o n)
 by_cases hp:p<0∨(t.size:Int)<p
 ·rw [oH hp]
  rcases hp with hp|hp
  ·go_enter func110,ntmps110
   go_wp2
   go_ret2
   exact ⟨rfl,HE.out.1⟩
  ·have h0:0≤p:=by omega
   go_enter func110,ntmps110
   go_wp2
   go_ret2
   exact ⟨rfl,HE.out.1⟩
 obtain ⟨k,rfl⟩:=Int.eq_ofNat_of_zero_le (show 0≤p by omega)
 have hk:k≤t.size:=by omega
 clear hp
 have c1:=AJ t o n (by unfold maxLen;omega) (by unfold maxLen;omega) k hk
 by_cases hs:t.extract k (k+o.size)=o
 case neg =>
  rw [qF hk hs]
  obtain ⟨X,hX⟩:∃ X,t.extract k (k+o.size)=X:=⟨_,rfl⟩
  rw [hX] at c1 hs
  have hx:=eT hs
  have C1:=hid c1
  clear c1 hX hs ht ho hn
  go_enter func110,ntmps110
  go_wp2_with fail
  go_region_held3 (fun w'=>Below w.heap.size w w'∧w.heap.size+1≤w'.heap.size∧w'.cell? ⟨w.heap.size,0,none⟩=some (.int .i64 k)∧w'.cell? ⟨w.heap.size,1,none⟩=some (.string o)∧w'.cell? ⟨w.heap.size,2,none⟩=some (.string n))
   (first|exact HE.out.drew|exact Ed.on (by assumption) ab)
   (first|(go_at_call 136;refine (C1.out _).mono ?_;rintro e w1 ⟨rfl,ab⟩))
  have ac:=hid (show Ed w k o n _ by assumption)
  go_wp2
  go_ret2
  exact ⟨rfl,ac.out.1⟩
 have hle:=gJ hk hs
 rw [hs] at c1
 have e1:=mV t (by unfold maxLen;omega) k
 have e2:=mV t (by unfold maxLen;omega) ((k:Int)+(o.size:Int))
 have v1:=dB o (by unfold maxLen;omega)
 have v2:=dB n (by unfold maxLen;omega)
 have h2:∀ b,edgeB t.data.toList ((k+o.size:Nat):Int)=b→edgeB t.data.toList ((k:Int)+(o.size:Int))=b:=fun b h=>by rw [← Int.natCast_add];exact h
 have C1:=hid c1
 clear c1
 cases q1:edgeB t.data.toList k
 ·rw [fB hk hs (.inl q1)]
  rw [q1] at e1
  have E1:=hid e1
  clear e1 e2 v1 v2 h2 q1 hs
  go_enter func110,ntmps110
  go_wp2_with fail
  go_region_held3 (fun w'=>Below w.heap.size w w'∧w.heap.size+1≤w'.heap.size∧w'.cell? ⟨w.heap.size,0,none⟩=some (.int .i64 k)∧w'.cell? ⟨w.heap.size,1,none⟩=some (.string o)∧w'.cell? ⟨w.heap.size,2,none⟩=some (.string n))
   (first|exact HE.out.drew|exact Ed.on (by assumption) ab)
   (first|(go_at_call 136;refine (C1.out _).mono ?_;rintro e w1 ⟨rfl,ab⟩))
  have ac:=hid (show Ed w k o n _ by assumption)
  go_wp2_with (first|(go_at_call 107;(with_reducible refine (E1.out _).mono ?_);rintro e w2 ⟨rfl,rfl⟩))
  go_ret2
  exact ⟨rfl,ac.out.1⟩
 rw [q1] at e1
 have E1:=hid e1
 clear e1
 cases q2:edgeB t.data.toList ((k+o.size:Nat):Int)
 ·rw [fB hk hs (.inr q2)]
  rw [h2 _ q2] at e2
  have E2:=hid e2
  clear e2 v1 v2 h2 q1 q2 hs
  go_enter func110,ntmps110
  go_wp2_with fail
  go_region_held3 (fun w'=>Below w.heap.size w w'∧w.heap.size+1≤w'.heap.size∧w'.cell? ⟨w.heap.size,0,none⟩=some (.int .i64 k)∧w'.cell? ⟨w.heap.size,1,none⟩=some (.string o)∧w'.cell? ⟨w.heap.size,2,none⟩=some (.string n))
   (first|exact HE.out.drew|exact Ed.on (by assumption) ab)
   (first|(go_at_call 136;refine (C1.out _).mono ?_;rintro e w1 ⟨rfl,ab⟩))
  have ac:=hid (show Ed w k o n _ by assumption)
  go_wp2_with (first|(go_at_call 107;(with_reducible refine (E1.out _).mono ?_);rintro e w2 ⟨rfl,rfl⟩)|(go_at_call 107;(with_reducible refine (E2.out _).mono ?_);rintro e w2 ⟨rfl,rfl⟩))
  go_ret2
  exact ⟨rfl,ac.out.1⟩
 rw [h2 _ q2] at e2
 have E2:=hid e2
 clear e2 h2
 cases q3:vldB o.data.toList
 ·rw [gN hk hs q1 q2 (.inl q3)]
  rw [q3] at v1
  have V1:=hid v1
  clear v1 v2 q1 q2 q3 hs
  go_enter func110,ntmps110
  go_wp2_with fail
  go_region_held3 (fun w'=>Below w.heap.size w w'∧w.heap.size+1≤w'.heap.size∧w'.cell? ⟨w.heap.size,0,none⟩=some (.int .i64 k)∧w'.cell? ⟨w.heap.size,1,none⟩=some (.string o)∧w'.cell? ⟨w.heap.size,2,none⟩=some (.string n))
   (first|exact HE.out.drew|exact Ed.on (by assumption) ab)
   (first|(go_at_call 136;refine (C1.out _).mono ?_;rintro e w1 ⟨rfl,ab⟩))
  have ac:=hid (show Ed w k o n _ by assumption)
  go_wp2_with (first|(go_at_call 107;(with_reducible refine (E1.out _).mono ?_);rintro e w2 ⟨rfl,rfl⟩)|(go_at_call 107;(with_reducible refine (E2.out _).mono ?_);rintro e w2 ⟨rfl,rfl⟩))
  refine (V1.out _).mono ?_;rintro e w2 ⟨rfl,aa⟩
  have ad:=hid (ac.out.on aa)
  obtain ⟨-,-,k0,k1,k2⟩:=ad.out
  clear aa
  go_wp2
  go_ret2
  exact ⟨rfl,ad.out.1⟩
 rw [q3] at v1
 have V1:=hid v1
 clear v1
 cases q4:vldB n.data.toList
 ·rw [gN hk hs q1 q2 (.inr q4)]
  rw [q4] at v2
  have V2:=hid v2
  clear v2 q1 q2 q3 q4 hs
  go_enter func110,ntmps110
  go_wp2_with fail
  go_region_held3 (fun w'=>Below w.heap.size w w'∧w.heap.size+1≤w'.heap.size∧w'.cell? ⟨w.heap.size,0,none⟩=some (.int .i64 k)∧w'.cell? ⟨w.heap.size,1,none⟩=some (.string o)∧w'.cell? ⟨w.heap.size,2,none⟩=some (.string n))
   (first|exact HE.out.drew|exact Ed.on (by assumption) ab)
   (first|(go_at_call 136;refine (C1.out _).mono ?_;rintro e w1 ⟨rfl,ab⟩))
  have ac:=hid (show Ed w k o n _ by assumption)
  go_wp2_with (first|(go_at_call 107;(with_reducible refine (E1.out _).mono ?_);rintro e w2 ⟨rfl,rfl⟩)|(go_at_call 107;(with_reducible refine (E2.out _).mono ?_);rintro e w2 ⟨rfl,rfl⟩))
  refine (V1.out _).mono ?_;rintro e w2 ⟨rfl,aa⟩
  have ad:=hid (ac.out.on aa)
  obtain ⟨-,-,k0,k1,k2⟩:=ad.out
  clear aa
  go_wp2_with (first|(go_at_call 107;(with_reducible refine (E1.out _).mono ?_);rintro e w2 ⟨rfl,rfl⟩)|(go_at_call 107;(with_reducible refine (E2.out _).mono ?_);rintro e w2 ⟨rfl,rfl⟩))
  refine (V2.out _).mono ?_;rintro e w3 ⟨rfl,aa⟩
  have ae:=hid (ad.out.on aa)
  obtain ⟨-,-,k0,k1,k2⟩:=ae.out
  clear aa
  go_wp2
  go_ret2
  exact ⟨rfl,ae.out.1⟩
 rw [q4] at v2
 have V2:=hid v2
 clear v2
 by_cases hl:4096+o.size<t.size+n.size
 ·rw [pM hk hs q1 q2 q3 q4 hl]
  clear q1 q2 q3 q4 hs
  go_enter func110,ntmps110
  go_wp2_with fail
  go_region_held3 (fun w'=>Below w.heap.size w w'∧w.heap.size+1≤w'.heap.size∧w'.cell? ⟨w.heap.size,0,none⟩=some (.int .i64 k)∧w'.cell? ⟨w.heap.size,1,none⟩=some (.string o)∧w'.cell? ⟨w.heap.size,2,none⟩=some (.string n))
   (first|exact HE.out.drew|exact Ed.on (by assumption) ab)
   (first|(go_at_call 136;refine (C1.out _).mono ?_;rintro e w1 ⟨rfl,ab⟩))
  have ac:=hid (show Ed w k o n _ by assumption)
  go_wp2_with (first|(go_at_call 107;(with_reducible refine (E1.out _).mono ?_);rintro e w2 ⟨rfl,rfl⟩)|(go_at_call 107;(with_reducible refine (E2.out _).mono ?_);rintro e w2 ⟨rfl,rfl⟩))
  refine (V1.out _).mono ?_;rintro e w2 ⟨rfl,aa⟩
  have ad:=hid (ac.out.on aa)
  obtain ⟨-,-,k0,k1,k2⟩:=ad.out
  clear aa
  go_wp2_with (first|(go_at_call 107;(with_reducible refine (E1.out _).mono ?_);rintro e w2 ⟨rfl,rfl⟩)|(go_at_call 107;(with_reducible refine (E2.out _).mono ?_);rintro e w2 ⟨rfl,rfl⟩))
  refine (V2.out _).mono ?_;rintro e w3 ⟨rfl,aa⟩
  have ae:=hid (ad.out.on aa)
  obtain ⟨-,-,k0,k1,k2⟩:=ae.out
  clear aa
  go_wp2
  go_ret2
  exact ⟨rfl,ae.out.1⟩
 ·rw [hO hk hs q1 q2 q3 q4 hl]
  have za:(t.extract 0 k).size=k:=by rw [ByteArray.size_extract];omega
  have zb:(t.extract (k+o.size) t.size).size=t.size - (k+o.size):=by rw [ByteArray.size_extract];omega
  obtain ⟨A,hA⟩:∃ A,t.extract 0 k=A:=⟨_,rfl⟩
  obtain ⟨B,hB⟩:∃ B,t.extract (k+o.size) t.size=B:=⟨_,rfl⟩
  rw [hA] at za ⊢
  rw [hB] at zb ⊢
  clear q1 q2 q3 q4 hs
  go_enter func110,ntmps110
  go_wp2_with fail
  go_region_held3 (fun w'=>Below w.heap.size w w'∧w.heap.size+1≤w'.heap.size∧w'.cell? ⟨w.heap.size,0,none⟩=some (.int .i64 k)∧w'.cell? ⟨w.heap.size,1,none⟩=some (.string o)∧w'.cell? ⟨w.heap.size,2,none⟩=some (.string n))
   (first|exact HE.out.drew|exact Ed.on (by assumption) ab)
   (first|(go_at_call 136;refine (C1.out _).mono ?_;rintro e w1 ⟨rfl,ab⟩))
  have ac:=hid (show Ed w k o n _ by assumption)
  go_wp2_with (first|(go_at_call 107;(with_reducible refine (E1.out _).mono ?_);rintro e w2 ⟨rfl,rfl⟩)|(go_at_call 107;(with_reducible refine (E2.out _).mono ?_);rintro e w2 ⟨rfl,rfl⟩))
  refine (V1.out _).mono ?_;rintro e w2 ⟨rfl,aa⟩
  have ad:=hid (ac.out.on aa)
  obtain ⟨-,-,k0,k1,k2⟩:=ad.out
  clear aa
  go_wp2_with (first|(go_at_call 107;(with_reducible refine (E1.out _).mono ?_);rintro e w2 ⟨rfl,rfl⟩)|(go_at_call 107;(with_reducible refine (E2.out _).mono ?_);rintro e w2 ⟨rfl,rfl⟩))
  refine (V2.out _).mono ?_;rintro e w3 ⟨rfl,aa⟩
  have ae:=hid (ad.out.on aa)
  obtain ⟨-,-,k0,k1,k2⟩:=ae.out
  clear aa
  go_wp2_with fail
  have F1:¬ (9223372036854775807<k+n.size):=by omega
  have F2:¬ (9223372036854775807<(A++n).size+(t.size - (k+o.size))):=by rw [ByteArray.size_append];omega
  have F3:¬ (9223372036854775807<k+n.size+(t.size - (k+o.size))):=by omega
  have N1:((k:Int)+(o.size:Int)).toNat=k+o.size:=by omega
  have G1:(k:Int)+(o.size:Int)≤(t.size:Int):=by omega
  have G2:(0:Int)≤(k:Int)+(o.size:Int):=by omega
  have G3:(k:Int)≤(t.size:Int):=by omega
  go_region_held3 (fun w'=>Below w.heap.size w w'∧w.heap.size+1≤w'.heap.size∧w'.cell? ⟨w.heap.size,0,none⟩=some (.int .i64 k)∧w'.cell? ⟨w.heap.size,1,none⟩=some (.string o)∧w'.cell? ⟨w.heap.size,2,none⟩=some (.string n))
   (first|exact ae.out.drew)
   (fail)
  go_wp2
  go_ret2
  exact ⟨rfl,ae.out.1.drew⟩
set_option maxHeartbeats 800000 in
theorem DM (p a:Int) (o n:ByteArray) (ho:o.size≤140737488355328) (hn:n.size≤140737488355328) (hp:-2305843009213693952≤p∧p≤2305843009213693952) (ha:-2305843009213693952≤a∧a≤2305843009213693952) (w:World) :
 Calls prog 214 #[edV p o n,.int .i64 a] w fun e w'=>e=.returned (.int .i64 (shiftI p o.size n.size a))∧Below w.heap.size w w':=by
 have HE:=hid (Ed.new w p o n)
 obtain ⟨p0,p1⟩:=hp
 obtain ⟨a0,a1⟩:=ha
 by_cases h1:a≤p
 ·rw [show shiftI p o.size n.size a=a by unfold shiftI;rw [if_pos h1]]
  go_enter func214,ntmps214
  go_wp2
  go_ret
  exact ⟨rfl,HE.out.1⟩
 by_cases h2:p+o.size≤a
 ·rw [show shiftI p o.size n.size a=a - o.size+n.size by unfold shiftI;rw [if_neg h1,if_pos h2]]
  have h3:p≤9223372036854775807 - (o.size:Int):=by omega
  have h4:a - (o.size:Int)≤9223372036854775807 - (n.size:Int):=by omega
  go_enter func214,ntmps214
  go_wp2
  go_ret
  exact ⟨rfl,HE.out.1⟩
 ·rw [show shiftI p o.size n.size a=p by unfold shiftI;rw [if_neg h1,if_neg h2]]
  have h3:p≤9223372036854775807 - (o.size:Int):=by omega
  go_enter func214,ntmps214
  go_wp2
  go_ret
  exact ⟨rfl,HE.out.1⟩
end Go.Proofs.YtbagenpobcgjnaaGreat
