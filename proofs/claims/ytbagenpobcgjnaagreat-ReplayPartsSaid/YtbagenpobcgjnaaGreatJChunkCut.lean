/-
  Joined: ChunkCut, OpenStp, NumDev.
-/
import Derived.Test.YtbagenpobcgjnaaGreatJChunkRef
import Derived.Laws.MakeOwn
import Derived.Test.YtbagenpobcgjnaaGreatJCells
import Derived.Test.YtbagenpobcgjnaaGreatJMrk
import Derived.Test.YtbagenpobcgjnaaGreatJUtfLeaf
import Derived.Test.YtbagenpobcgjnaaGreatJOpenOps
import Derived.Lib.QuoteBits
import Derived.IntWalk
import Derived.StillTailTactics
namespace Go.Proofs.YtbagenpobcgjnaaGreat
open Go.RowKit
set_option linter.unusedVariables false
structure CutI (s:ByteArray) (w:World) (cur:ByteArray) (L:List ByteArray) (v:Value) (wr:World):Prop where
 own:wr.ownsRow w.heap.size 9 1 v L.length (strVs L)
 bel:Below w.heap.size w wr
 val:vld cur.data.toList
 len:L.length+cur.size≤s.size
 go:∀ L',Ctd cur L'→Ctd s (L++L')
 prev:∀ x∈L,x.size≤1000000
 two:L=[]∨∃ L0 p,L=L0++[p]∧16<p.size+cur.size∧0<cur.size
theorem CutI.start {s:ByteArray} {w wr:World} (hv:vld s.data.toList) (hb:Below w.heap.size w wr):CutI s w s [] (.slice none 0 0) wr:=
 ⟨World.ownsRow_nil _ _ _ _,hb,hv,by simp,fun L' h=>h,fun x h=>absurd h (by simp),.inl rfl⟩
theorem CutI.step {s cur:ByteArray} {w wr w2:World} {L:List ByteArray} {v v':Value} (h:CutI s w cur L v wr) (h16:16<cur.size)
 (hown:w2.ownsRow w.heap.size 9 1 v' (L.length+1) (strVs L++[.string (cur.extract 0 (cutN cur))])) (hb:Below w.heap.size w w2) :
 CutI s w (cur.extract (cutN cur) cur.size) (L++[cur.extract 0 (cutN cur)]) v' w2:=by
 have hn:=iE cur
 have aa:=lQ cur h.val h16
 have hp:=jZ cur (cutN cur) h.val (pN cur)
 have z1:=cH cur (cutN cur) (by omega)
 have z2:=dN cur (cutN cur)
 have hl:=h.len
 refine ⟨?_,hb,hp.2,?_,fun L' h'=>?_,fun x hx=>?_,.inr ⟨L,_,rfl,by omega,by omega⟩⟩
 ·rw [lB,List.length_append];exact hown
 ·simp only [List.length_append,List.length_cons,List.length_nil];omega
 ·rw [List.append_assoc];exact h.go _ (.more h16 h')
 ·rcases List.mem_append.1 hx with g|g
  ·exact h.prev x g
  ·simp only [List.mem_singleton] at g;subst g;omega
def RetCut (s:ByteArray) (w:World) (e:Ending) (w':World):Prop:=∃ L,CutP s L∧L.length≤s.size∧RetStrs w L e w'
theorem tP {w w':World} {v:Value} {L:List ByteArray} (h:w'.ownsRow w.heap.size 9 1 v L.length (strVs L)) (hb:Below w.heap.size w w'):RetStrs w L (.returned v) w':=by
 obtain ⟨a,c,rfl,hs⟩:=JA h
 exact ⟨a,c,rfl,hs.weak fun _ h=>h.2,hb⟩
theorem CutI.none {s cur:ByteArray} {w wr:World} {L:List ByteArray} {v:Value} (hs:vld s.data.toList) (h:CutI s w cur L v wr) (h0:cur.size=0):RetCut s w (.returned v) wr:=by
 have hg:=h.go [] (.none h0)
 rw [List.append_nil] at hg
 exact ⟨L,.inl ⟨hs,hg⟩,by have:=h.len;omega,tP h.own h.bel⟩
theorem CutI.last {s cur:ByteArray} {w wr w2:World} {L:List ByteArray} {v v':Value} (hs:vld s.data.toList) (h:CutI s w cur L v wr) (h0:0<cur.size) (h1:cur.size≤16)
 (hown:w2.ownsRow w.heap.size 9 1 v' (L.length+1) (strVs L++[.string cur])) (hb:Below w.heap.size w w2):RetCut s w (.returned v') w2:=by
 have hg:=h.go [cur] (.last h0 h1)
 refine ⟨L++[cur],.inl ⟨hs,hg⟩,by have:=h.len;simp only [List.length_append,List.length_cons,List.length_nil];omega,tP ?_ hb⟩
 rw [lB,List.length_append];exact hown
theorem BD {s:ByteArray} {w w':World} (h:¬ vld s.data.toList) (hb:Below w.heap.size w w'):RetCut s w (.returned (.slice none 0 0)) w':=
 ⟨[],.inr ⟨h,rfl⟩,Nat.zero_le _,pC hb⟩
end Go.Proofs.YtbagenpobcgjnaaGreat
namespace Go.Proofs.YtbagenpobcgjnaaGreat
open Go.RowKit Go.ChangeShapes Go.WideShapes Go.Deep
set_option linter.unusedVariables false
section
variable {H : Type} {enc : TypeId × Value → H} {P : Program} {w : World} {base : Nat} {spare : Nat → Bool} {held : Bool}
end
section
variable {H : Type} {enc : TypeId × Value → H} {w : World} {base : Nat} {spare : Nat → Bool} {held : Bool}
end
end Go.Proofs.YtbagenpobcgjnaaGreat
namespace Go.Proofs.YtbagenpobcgjnaaGreat
open Go.Proofs.Tryz
set_option maxRecDepth 100000
open Lib (hid)
open Go.RowKit
theorem IM (l:List UInt8):∀ m k,leN l k (m+1)=leN l k m+256 ^ m * bt l (k+m):=by
 intro m
 induction m with
 | zero=>intro k;simp [leN]
 | succ m ih =>
  intro k
  have h1:leN l k (m+1+1)=bt l k+256 * leN l (k+1) (m+1):=rfl
  have h2:leN l k (m+1)=bt l k+256 * leN l (k+1) m:=rfl
  rw [h1,h2,ih (k+1),Nat.pow_succ,show k+1+m=k+(m+1) by omega,Nat.mul_add,← Nat.mul_assoc,Nat.mul_comm 256 (256 ^ m),Nat.add_assoc]
theorem vG (x b s:Nat) (hx:x<2 ^ s) (hb:b * 2 ^ s+x<9223372036854775808):bits .or .i64 (x:Int) ((b * 2 ^ s:Nat):Int)=((x+b * 2 ^ s:Nat):Int):=by
 show IntKind.i64.wrap ((BitVec.ofInt 64 (x:Int) ||| BitVec.ofInt 64 ((b * 2 ^ s:Nat):Int)).toNat:Int)=_
 rw [BitVec.toNat_or,ofInt_u64 x (by omega),ofInt_u64 (b * 2 ^ s) (by omega)]
 have e:x ||| b * 2 ^ s=x+b * 2 ^ s:=by
  rw [Nat.or_comm,Nat.mul_comm,← Nat.two_pow_add_eq_or_of_lt hx b,Nat.add_comm]
 rw [e]
 exact Lib.wrap_i64_small _ (by omega)
theorem OB (x b j:Nat) (hj:j<4) (hx:x<256 ^ j) (hb:b<256):bits .or .i64 (x:Int) (wrap64 ((b:Int) * 2 ^ (8 * j)))=((x+256 ^ j * b:Nat):Int):=by
 have e:(256:Nat) ^ j=2 ^ (8 * j):=by rw [Nat.pow_mul]
 have hp:2 ^ (8 * j)≤2 ^ 24:=Nat.pow_le_pow_right (by omega) (by omega)
 have hm:b * 2 ^ (8 * j)≤255 * 2 ^ 24:=Nat.mul_le_mul (by omega) hp
 have w:wrap64 ((b:Int) * 2 ^ (8 * j))=((b * 2 ^ (8 * j):Nat):Int):=by
  have e2:(b:Int) * 2 ^ (8 * j)=((b * 2 ^ (8 * j):Nat):Int):=by simp
  rw [e2]
  have h63:b * 2 ^ (8 * j)<9223372036854775808:=by omega
  unfold wrap64;omega
 rw [e] at hx ⊢
 rw [w,vG x b (8 * j) hx (by omega),Nat.mul_comm]
set_option maxHeartbeats 400000 in
theorem vP (l:List UInt8) (n:Nat) (hn:l.length=n) (hn4:n≤4) (g:Nat) (W:World) (hc:∀ i (h:i<l.length),W.cell? ⟨g,i,none⟩=some (.int .u8 ((l[i].toNat:Nat):Int))) :
 Calls prog 130 #[.slice (some ⟨g,0,none⟩) n n] W fun e w'=>e=.returned (.int .i64 (leN l 0 n))∧W=w':=by
 have HC:=hid hc;clear hc
 have HN:=hid hn;clear hn
 go_enter func130,ntmps130
 go_wp2
 go_loop [3,8] (fun x i=>∃ j:Nat,j≤n∧i=.int .i64 j∧x=.int .i64 (leN l 0 j)) (fun _ i=>n - (intOf i).toNat)
 case atStart=>exact ⟨0,Nat.zero_le _,rfl,rfl⟩
 case round =>
  obtain ⟨j,hj,rfl,rfl⟩:=hrel
  by_cases hlt:j<n
  ·have hb:=HC.out j (by rw [HN.out];exact hlt)
   have aa:=(l[j]'(by rw [HN.out];exact hlt)).toNat_lt
   have hle:=PD l j 0
   have hs:=IM l j 0
   have hbt:bt l j=(l[j]'(by rw [HN.out];exact hlt)).toNat:=by unfold bt;simp [List.getD_eq_getElem?_getD,List.getElem?_eq_getElem (show j<l.length by rw [HN.out];exact hlt)]
   rw [Nat.zero_add,hbt] at hs
   obtain ⟨b,hbb⟩:∃ b,(l[j]'(by rw [HN.out];exact hlt)).toNat=b:=⟨_,rfl⟩
   rw [hbb] at hb aa hs
   obtain ⟨x,hx⟩:∃ x,leN l 0 j=x:=⟨_,rfl⟩
   rw [hx] at hle hs ⊢
   have HS:=hid hs
   clear hs hbt hbb hx
   have ab:j<4:=by omega
   go_wp2
   go_round
   case rel=>exact ⟨j+1,by omega,by go_num,by rw [HS.out,OB x b j ab hle aa]⟩
   case measure=>simp [intOf];omega
  ·obtain rfl:j=n:=by omega
   go_wp2
   go_ret
   exact ⟨rfl,rfl⟩
theorem EJ (s:ByteArray) (hs:s.size≤maxLen) (p:Int) (m:Nat) (hm:m≤4) (w:World) :
 Calls prog 129 #[.string s,.int .i64 p,.int .i64 m] w fun e w'=>e=.returned (.bool (decide (0≤p) && decide (p≤(s.size:Int) - m)))∧w=w':=by
 unfold maxLen at hs
 by_cases h0:0≤p
 ·by_cases h1:p≤(s.size:Int) - m
  ·go_enter func129,ntmps129
   go_wp2
   go_ret
   exact ⟨aA (by rw [decide_eq_true h0,decide_eq_true h1];rfl),rfl⟩
  ·have h1':(s.size:Int) - m<p:=by omega
   go_enter func129,ntmps129
   go_wp2
   go_ret
   exact ⟨aA (by rw [decide_eq_false (by omega:¬ p≤(s.size:Int) - m)]),rfl⟩
 ·have h0':p<0:=by omega
  go_enter func129,ntmps129
  go_wp2
  go_ret
  exact ⟨aA (by rw [decide_eq_false (by omega:¬ 0≤p)];rfl),rfl⟩
theorem zW (l:List UInt8) (n:Nat) (hn:l.length=n) (hn4:n≤4) (w:World) (xs:Array Value) (hx:xs=(l.map fun b=>Value.int .u8 ((b.toNat:Nat):Int)).toArray) :
 Calls prog 130 #[.slice (some ⟨w.heap.size,0,none⟩) n n] (w.alloc (.cells xs 5)) fun e w'=>e=.returned (.int .i64 (leN l 0 n))∧w.alloc (.cells xs 5)=w':=by
 subst hx
 refine vP l n hn hn4 _ _ fun i h=>?_
 rw [World.cell?_alloc_new]
 simp [h]
theorem nums4 (s:ByteArray) (k:Nat) (h:k+4≤s.size):leN [s[k],s[k+1],s[k+2],s[k+3]] 0 4=leN s.data.toList k 4:=by
 show (s[k]).toNat+256 * ((s[k+1]).toNat+256 * ((s[k+2]).toNat+256 * ((s[k+3]).toNat+256 * 0)))=bt _ k+256 * (bt _ (k+1)+256 * (bt _ (k+1+1)+256 * (bt _ (k+1+1+1)+256 * 0)))
 rw [bH s k (by omega),bH s (k+1) (by omega),bH s (k+1+1) (by omega),bH s (k+1+1+1) (by omega)]
set_option maxHeartbeats 400000 in
theorem LC (s:ByteArray) (hs:s.size≤maxLen) (p:Int) (w:World) :
 Calls prog 102 #[.string s,.int .i64 p] w fun e w'=>e=.returned (.tuple #[.int .i64 (getI s.data.toList p 4).1,.bool (getI s.data.toList p 4).2])∧Below w.heap.size w w':=by
 have hlen:s.data.toList.length=s.size:=by simp
 have hst:=EJ s hs p 4 (by omega)
 unfold maxLen at hs
 by_cases hin:0≤p∧p≤(s.size:Int) - 4
 ·have e:getI s.data.toList p 4=(leN s.data.toList p.toNat 4,true):=by unfold getI;rw [hlen,if_neg (by omega)]
  have eb:(decide (0≤p) && decide (p≤(s.size:Int) - (4:Nat)))=true:=by simp;omega
  rw [eb] at hst
  rw [e]
  obtain ⟨h0,h1⟩:=hin
  obtain ⟨k,rfl⟩:=Int.eq_ofNat_of_zero_le h0
  have hk:k+4≤s.size:=by omega
  have k0:k<s.size:=by omega
  have k1:k+1<s.size:=by omega
  have k2:k+2<s.size:=by omega
  have k3:k+3<s.size:=by omega
  rw [Int.toNat_natCast,← nums4 s k hk]
  have ab:=hid hst
  have ac:=hid (zW [s[k]'k0,s[k+1]'k1,s[k+2]'k2,s[k+3]'k3] 4 rfl (by omega))
  clear e eb hst hlen h0 h1
  go_enter func102,ntmps102
  go_wp2_with fail
  refine (ab.out _).mono ?_;rintro e w' ⟨rfl,rfl⟩
  have y1:IntKind.i64.wrap ((k:Int)+1)=(k:Int)+1:=IntWalk.i64_in _ (by omega)
  have x1:((k:Int)+1).toNat=k+1:=by omega
  have v1:(0:Int)≤(k:Int)+1:=by omega
  have u1:(k:Int)+1<(s.size:Int):=by omega
  have y2:IntKind.i64.wrap ((k:Int)+2)=(k:Int)+2:=IntWalk.i64_in _ (by omega)
  have x2:((k:Int)+2).toNat=k+2:=by omega
  have v2:(0:Int)≤(k:Int)+2:=by omega
  have u2:(k:Int)+2<(s.size:Int):=by omega
  have y3:IntKind.i64.wrap ((k:Int)+3)=(k:Int)+3:=IntWalk.i64_in _ (by omega)
  have x3:((k:Int)+3).toNat=k+3:=by omega
  have v3:(0:Int)≤(k:Int)+3:=by omega
  have u3:(k:Int)+3<(s.size:Int):=by omega
  go_wp2
  go_still_tail 15,(by kernel_rfl)
  change wpList _ _ _ _ _ w.drew
  have aa:Below w.heap.size w w.drew:=(Below.refl _ _).drew
  revert aa
  generalize w.drew=w2
  intro aa
  have HB:=hid aa;clear aa
  go_wp2_with fail
  refine (ac.out _ _ rfl).mono ?_;rintro e w' ⟨rfl,rfl⟩
  go_wp2
  go_ret2
  exact ⟨rfl,HB.out.alloc HB.out.size _⟩
 ·have e:getI s.data.toList p 4=(0,false):=by unfold getI;rw [hlen,if_pos (by omega)]
  have eb:(decide (0≤p) && decide (p≤(s.size:Int) - (4:Nat)))=false:=by simp;omega
  rw [eb] at hst
  rw [e]
  have ab:=hid hst
  clear e eb hst hlen hin
  go_enter func102,ntmps102
  go_wp2_with fail
  refine (ab.out _).mono ?_;rintro e w' ⟨rfl,rfl⟩
  go_wp2
  go_ret2
  exact ⟨rfl,Below.refl _ _⟩
end Go.Proofs.YtbagenpobcgjnaaGreat
