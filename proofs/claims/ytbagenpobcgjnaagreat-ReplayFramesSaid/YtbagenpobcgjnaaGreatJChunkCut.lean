/-
  Joined: ChunkCut, OpenStp, NumDev.
-/
import Derived.Test.YtbagenpobcgjnaaGreatJChunkRef
import Derived.Test.YtbagenpobcgjnaaGreatJOpenOps
import Derived.Lib.QuoteBits
import Derived.StillTailTactics
open Go renaming Value->zp,World->zk,maxLen->zu
open Go.Ending renaming returned->zo
open Go.IntKind renaming i64->zm
open Go.Value renaming int->zn,slice->zq,string->zr
open List renaming length_append->zt,length_cons->zx,length_nil->zy
open Nat renaming mul_comm->zv,zero_le->zz
namespace Go.Proofs.YtbagenpobcgjnaaGreat
open Go.RowKit
set_option linter.unusedVariables false
structure vc (s:ByteArray) (w:zk) (cur:ByteArray) (L:List ByteArray) (v:zp) (wr:zk):Prop where
 own:wr.ownsRow w 9 1 v L.length (r6 L)
 bel:Below w w wr
 val:rm cur.data.toList
 len:L.length+cur.size≤s.size
 go:∀ L',Ctd cur L'→Ctd s (L++L')
 prev:∀ x∈L,x.size≤1000000
 two:L=[]∨∃ L0 p,L=L0++[p]∧16<p.size+cur.size∧0<cur.size
theorem vc.start {s:ByteArray} {w wr:zk} (hv:rm s.data.toList) (hb:Below w w wr):vc s w s [] (zq none 0 0) wr:=
 ⟨World.ownsRow_nil _ _ _ _,hb,hv,li,fun L' h=>h,fun x h=>absurd h li,.inl rfl⟩
theorem vc.step {s cur:ByteArray} {w wr w2:zk} {L:List ByteArray} {v v':zp} (h:vc s w cur L v wr) (h16:16<cur.size)
 (hown:w2.ownsRow w 9 1 v' (L.length+1) (r6 L++[zr (cur.extract 0 (sx cur))])) (hb:Below w w w2) :
 vc s w (cur.extract (sx cur) cur.size) (L++[cur.extract 0 (sx cur)]) v' w2:=by
 have hn:=jS cur;have aa:=nG cur h.val h16;have hp:=mA cur (sx cur) h.val (uA cur);have z1:=bK cur (sx cur) lg;have z2:=dA cur (sx cur);have hl:=h.len;refine ⟨?_,hb,hp.2,?_,fun L' h'=>?_,fun x hx=>?_,.inr ⟨L,_,rfl,lg,lg⟩⟩
 ·rw [lU,zt];exact hown
 ·simp only [zt,zx,zy];omega
 ·rw [List.append_assoc];exact h.go _ (.more h16 h')
 ·rcases List.mem_append.1 hx with g|g
  ·exact h.prev x g
  ·simp only [List.mem_singleton] at g;subst g;omega
def wz (s:ByteArray) (w:zk) (e:Ending) (w':zk):Prop:=∃ L,CutP s L∧L.length≤s.size∧ss w L e w'
theorem vI {w w':zk} {v:zp} {L:List ByteArray} (h:w'.ownsRow w 9 1 v L.length (r6 L)) (hb:Below w w w'):ss w L (zo v) w':=by
 obtain ⟨a,c,rfl,hs⟩:=PG h;exact ⟨a,c,rfl,hs.weak fun _ h=>h.2,hb⟩
theorem vc.none {s cur:ByteArray} {w wr:zk} {L:List ByteArray} {v:zp} (hs:rm s.data.toList) (h:vc s w cur L v wr) (h0:cur.size=0):wz s w (zo v) wr:=by
 have hg:=h.go [] (.none h0);rw [List.append_nil] at hg;exact ⟨L,.inl ⟨hs,hg⟩,by have:=h.len;omega,vI h.own h.bel⟩
theorem vc.last {s cur:ByteArray} {w wr w2:zk} {L:List ByteArray} {v v':zp} (hs:rm s.data.toList) (h:vc s w cur L v wr) (h0:0<cur.size) (h1:cur.size≤16)
 (hown:w2.ownsRow w 9 1 v' (L.length+1) (r6 L++[zr cur])) (hb:Below w w w2):wz s w (zo v') w2:=by
 have hg:=h.go [cur] (.last h0 h1);refine ⟨L++[cur],.inl ⟨hs,hg⟩,by have:=h.len;simp only [zt,zx,zy];omega,vI ?_ hb⟩;rw [lU,zt];exact hown
theorem GE {s:ByteArray} {w w':zk} (h:¬ rm s.data.toList) (hb:Below w w w'):wz s w (zo (zq none 0 0)) w':=
 ⟨[],.inr ⟨h,rfl⟩,zz _,rO hb⟩
end Go.Proofs.YtbagenpobcgjnaaGreat
namespace Go.Proofs.YtbagenpobcgjnaaGreat
open Go.Proofs.Tryz
open Go.RowKit Go.ChangeShapes Go.WideShapes Go.Deep
set_option linter.unusedVariables false
section
variable {H : Type} {enc : TypeId × Value → H} {P : Program} {w : World} {base : Nat} {spare : Nat → Bool} {held : Bool}
end
section
variable {H : Type} {enc : TypeId × Value → H} {w : World} {base : Nat} {spare : Nat → Bool} {held : Bool}
theorem sI:prog.cellsOf 54=1:=lh
end
end Go.Proofs.YtbagenpobcgjnaaGreat
namespace Go.Proofs.YtbagenpobcgjnaaGreat
open Go.Proofs.Tryz
set_option maxRecDepth 100000
open Lib (hid)
open Go.RowKit
theorem NQ (l:List UInt8):∀ m k,tp l k (m+1)=tp l k m+256 ^ m * bt l (k+m):=by
 intro m
 induction m with
 | zero=>intro k;simp [tp]
 | succ m ih =>
  intro k;have h1:tp l k (m+1+1)=bt l k+256 * tp l (k+1) (m+1):=rfl;have h2:tp l k (m+1)=bt l k+256 * tp l (k+1) m:=rfl;rw [h1,h2,ih (k+1),Nat.pow_succ,show k+1+m=k+(m+1) by omega,Nat.mul_add,← Nat.mul_assoc,zv 256 (256 ^ m),Nat.add_assoc]
theorem zV (x b s:Nat) (hx:x<2 ^ s) (hb:b * 2 ^ s+x<9223372036854775808):bits .or zm (x:Int) ((b * 2 ^ s:Nat):Int)=((x+b * 2 ^ s:Nat):Int):=by
 show zm.wrap ((BitVec.ofInt 64 (x:Int) ||| BitVec.ofInt 64 ((b * 2 ^ s:Nat):Int)).toNat:Int)=_;rw [BitVec.toNat_or,ofInt_u64 x lg,ofInt_u64 (b * 2 ^ s) lg];have e:x ||| b * 2 ^ s=x+b * 2 ^ s:=by
  rw [Nat.or_comm,zv,← Nat.two_pow_add_eq_or_of_lt hx b,Nat.add_comm]
 rw [e];exact Lib.wrap_i64_small _ lg
theorem TD (x b j:Nat) (hj:j<4) (hx:x<256 ^ j) (hb:b<256):bits .or zm (x:Int) (wrap64 ((b:Int) * 2 ^ (8 * j)))=((x+256 ^ j * b:Nat):Int):=by
 have e:(256:Nat) ^ j=2 ^ (8 * j):=by rw [Nat.pow_mul]
 have hp:2 ^ (8 * j)≤2 ^ 24:=Nat.pow_le_pow_right lg lg;have hm:b * 2 ^ (8 * j)≤255 * 2 ^ 24:=Nat.mul_le_mul lg hp;have w:wrap64 ((b:Int) * 2 ^ (8 * j))=((b * 2 ^ (8 * j):Nat):Int):=by
  have e2:(b:Int) * 2 ^ (8 * j)=((b * 2 ^ (8 * j):Nat):Int):=li;rw [e2];have h63:b * 2 ^ (8 * j)<9223372036854775808:=lg;unfold wrap64;omega
 rw [e] at hx ⊢;rw [w,zV x b (8 * j) hx lg,zv]
set_option maxHeartbeats 400000 in
theorem zC (l:List UInt8) (n:Nat) (hn:l.length=n) (hn4:n≤4) (g:Nat) (W:zk) (hc:∀ i (h:i<l.length),W ⟨g,i,none⟩=some (zn .u8 ((l[i].toNat:Nat):Int))) :
 Calls prog 130 #[zq (some ⟨g,0,none⟩) n n] W fun e w'=>e=zo (zn zm (tp l 0 n))∧W=w':=by
 have HC:=hid hc;clear hc;have HN:=hid hn;clear hn;go_enter func130,ntmps130;go_wp2
 go_loop [3,8] (fun x i=>∃ j:Nat,j≤n∧i=zn zm j∧x=zn zm (tp l 0 j)) (fun _ i=>n - (intOf i).toNat)
 case atStart=>exact ⟨0,zz _,rfl,rfl⟩
 case round =>
  obtain ⟨j,hj,rfl,rfl⟩:=hrel;by_cases hlt:j<n
  ·have hb:=HC.out j (by rw [HN.out];exact hlt);have aa:=(l[j]'(by rw [HN.out];exact hlt)).toNat_lt;have hle:=hP l j 0;have hs:=NQ l j 0;have hbt:bt l j=(l[j]'(by rw [HN.out];exact hlt)).toNat:=by unfold bt;simp [List.getD_eq_getElem?_getD,List.getElem?_eq_getElem (show j<l.length by rw [HN.out];exact hlt)]
   rw [Nat.zero_add,hbt] at hs;obtain ⟨b,hbb⟩:∃ b,(l[j]'(by rw [HN.out];exact hlt)).toNat=b:=⟨_,rfl⟩;rw [hbb] at hb aa hs;obtain ⟨x,hx⟩:∃ x,tp l 0 j=x:=⟨_,rfl⟩;rw [hx] at hle hs ⊢;have HS:=hid hs;clear hs hbt hbb hx;have ab:j<4:=lg;go_wp2
   go_round
   case rel=>exact ⟨j+1,lg,by go_num,by rw [HS.out,TD x b j ab hle aa]⟩
   case measure=>simp [intOf];omega
  ·obtain rfl:j=n:=lg;go_wp2;go_ret;exact ⟨rfl,rfl⟩
theorem MR (s:ByteArray) (hs:s.size≤zu) (p:Int) (m:Nat) (hm:m≤4) (w:zk) :
 Calls prog 129 #[zr s,zn zm p,zn zm m] w fun e w'=>e=zo (.bool (decide (0≤p) && decide (p≤(s.size:Int) - m)))∧w=w':=by
 unfold zu at hs;by_cases h0:0≤p
 ·by_cases h1:p≤(s.size:Int) - m
  ·go_enter func129,ntmps129;go_wp2;go_ret;exact ⟨aA (by rw [decide_eq_true h0,decide_eq_true h1];rfl),rfl⟩
  ·have h1':(s.size:Int) - m<p:=lg;go_enter func129,ntmps129;go_wp2;go_ret;exact ⟨aA (by rw [decide_eq_false (by omega:¬ p≤(s.size:Int) - m)]),rfl⟩
 ·have h0':p<0:=lg;go_enter func129,ntmps129;go_wp2;go_ret;exact ⟨aA (by rw [decide_eq_false (by omega:¬ 0≤p)];rfl),rfl⟩
theorem DN (l:List UInt8) (n:Nat) (hn:l.length=n) (hn4:n≤4) (w:zk) (xs:Array zp) (hx:xs=(l.map fun b=>zn .u8 ((b.toNat:Nat):Int)).toArray) :
 Calls prog 130 #[zq (some ⟨w,0,none⟩) n n] (w.alloc (.cells xs 5)) fun e w'=>e=zo (zn zm (tp l 0 n))∧w.alloc (.cells xs 5)=w':=by
 subst hx;refine zC l n hn hn4 _ _ fun i h=>?_;rw [World.cell?_alloc_new];simp [h]
theorem nums4 (s:ByteArray) (k:Nat) (h:k+4≤s.size):tp [s[k],s[k+1],s[k+2],s[k+3]] 0 4=tp s.data.toList k 4:=by
 show (s[k]).toNat+256 * ((s[k+1]).toNat+256 * ((s[k+2]).toNat+256 * ((s[k+3]).toNat+256 * 0)))=bt _ k+256 * (bt _ (k+1)+256 * (bt _ (k+1+1)+256 * (bt _ (k+1+1+1)+256 * 0)));rw [bD s k lg,bD s (k+1) lg,bD s (k+1+1) lg,bD s (k+1+1+1) lg]
set_option maxHeartbeats 400000 in
theorem NW (s:ByteArray) (hs:s.size≤zu) (p:Int) (w:zk) :
 Calls prog 102 #[zr s,zn zm p] w fun e w'=>e=zo (.tuple #[zn zm (sa s.data.toList p 4).1,.bool (sa s.data.toList p 4).2])∧Below w w w':=by
 have hlen:s.data.toList.length=s.size:=li;have hst:=MR s hs p 4 lg;unfold zu at hs;by_cases hin:0≤p∧p≤(s.size:Int) - 4
 ·have e:sa s.data.toList p 4=(tp s.data.toList p.toNat 4,true):=by unfold sa;rw [hlen,if_neg lg]
  have eb:(decide (0≤p) && decide (p≤(s.size:Int) - (4:Nat)))=true:=lr;rw [eb] at hst;rw [e];obtain ⟨h0,h1⟩:=hin;obtain ⟨k,rfl⟩:=Int.eq_ofNat_of_zero_le h0;have hk:k+4≤s.size:=lg;have k0:k<s.size:=lg;have k1:k+1<s.size:=lg;have k2:k+2<s.size:=lg;have k3:k+3<s.size:=lg;rw [Int.toNat_natCast,← nums4 s k hk];have ab:=hid hst;have ac:=hid (DN [s[k]'k0,s[k+1]'k1,s[k+2]'k2,s[k+3]'k3] 4 rfl lg);clear e eb hst hlen h0 h1;go_enter func102,ntmps102;go_wp2_with fail;refine (ab.out _).mono ?_;rintro e w' ⟨rfl,rfl⟩;have y1:zm.wrap ((k:Int)+1)=(k:Int)+1:=IntWalk.i64_in _ lg;have x1:((k:Int)+1).toNat=k+1:=lg;have v1:(0:Int)≤(k:Int)+1:=lg;have u1:(k:Int)+1<(s.size:Int):=lg;have y2:zm.wrap ((k:Int)+2)=(k:Int)+2:=IntWalk.i64_in _ lg;have x2:((k:Int)+2).toNat=k+2:=lg;have v2:(0:Int)≤(k:Int)+2:=lg;have u2:(k:Int)+2<(s.size:Int):=lg;have y3:zm.wrap ((k:Int)+3)=(k:Int)+3:=IntWalk.i64_in _ lg;have x3:((k:Int)+3).toNat=k+3:=lg;have v3:(0:Int)≤(k:Int)+3:=lg;have u3:(k:Int)+3<(s.size:Int):=lg;go_wp2
  go_still_tail 15,lh
  change wpList _ _ _ _ _ w.drew;have aa:Below w w w.drew:=(Below.refl _ _).drew
  revert aa
  generalize w.drew=w2;intro aa;have HB:=hid aa;clear aa;go_wp2_with fail;refine (ac.out _ _ rfl).mono ?_;rintro e w' ⟨rfl,rfl⟩;go_wp2;go_ret2;exact ⟨rfl,HB.out.alloc HB.out.size _⟩
 ·have e:sa s.data.toList p 4=(0,false):=by unfold sa;rw [hlen,if_pos lg]
  have eb:(decide (0≤p) && decide (p≤(s.size:Int) - (4:Nat)))=false:=lr;rw [eb] at hst;rw [e];have ab:=hid hst;clear e eb hst hlen hin;go_enter func102,ntmps102;go_wp2_with fail;refine (ab.out _).mono ?_;rintro e w' ⟨rfl,rfl⟩;go_wp2;go_ret2;exact ⟨rfl,Below.refl _ _⟩
end Go.Proofs.YtbagenpobcgjnaaGreat
