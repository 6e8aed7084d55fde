/-
  OpDev
-/
import Derived.Test.YtfiobemeogaaiaaGreatJOpRef
import Derived.Test.YtfiobemeogaaiaaGreatJBlk
import Derived.Handy
namespace Go.Proofs.YtfiobemeogaaiaaGreat
open Lib (hid)
open Go.RowKit
set_option maxRecDepth 100000 in
set_option maxHeartbeats 400000 in
theorem bA (s:ByteArray) (hs:s.size≤maxLen) (w:World) :
 Calls Tryz.prog 102 #[.string s] w fun e w'=>e=.returned (.bool (markB s.data.toList))∧w=w':=by
 unfold maxLen at hs
 by_cases z1:s.size<1
 ·rw [rH (by rw [mV];exact z1)]
  go_enter Tryz.func102,Tryz.ntmps102
  go_wp2
  go_ret
  exact ⟨rfl,rfl⟩
 by_cases z2:8<s.size
 ·have z3:1≤s.size:=by omega
  rw [vJ (by rw [mV];exact z2)]
  clear z1
  go_enter Tryz.func102,Tryz.ntmps102
  go_wp2
  go_ret
  exact ⟨rfl,rfl⟩
 have z3:1≤s.size:=by omega
 have z4:s.size≤8:=by omega
 clear z1 z2
 obtain ⟨r,hr⟩:∃ r,markB s.data.toList=r:=⟨_,rfl⟩
 rw [hr]
 have HR:=hid hr;clear hr
 go_enter Tryz.func102,Tryz.ntmps102
 go_wp2
 go_loop [14] (fun i=>∃ k:Nat,k≤s.size∧i=.int .i64 k∧(s.data.toList.take k).all letB=true) (fun i=>s.size - (intOf i).toNat)
 case atStart=>exact ⟨0,Nat.zero_le _,rfl,rfl⟩
 case round =>
  obtain ⟨k,hk,rfl,hall⟩:=hrel
  have HA:=hid hall;clear hall
  by_cases hlt:k<s.size
  ·have aa:=s[k].toNat_lt
   by_cases g1:97≤s[k].toNat
   ·by_cases g2:s[k].toNat≤122
    ·have h2:=hid (EG hlt HA.out g1 g2)
     go_wp2
     go_round
     case rel=>exact ⟨k+1,by omega,by go_num,h2.out⟩
     case measure=>simp [intOf];omega
    ·have h2:=hid (sX hlt (.inr (by omega)))
     have g2':122<s[k].toNat:=by omega
     go_wp2
     go_ret
     exact ⟨aZ (by rw [← HR.out,h2.out]),rfl⟩
   ·have h2:=hid (sX hlt (.inl (by omega)))
    have g1':s[k].toNat<97:=by omega
    go_wp2
    go_ret
    exact ⟨aZ (by rw [← HR.out,h2.out]),rfl⟩
  ·obtain rfl:k=s.size:=by omega
   have h2:=hid (GF HA.out)
   go_wp2
   go_ret
   exact ⟨aZ (by rw [← HR.out,h2.out,decide_eq_true z3,decide_eq_true z4];rfl),rfl⟩
end Go.Proofs.YtfiobemeogaaiaaGreat
