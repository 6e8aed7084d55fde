/-
  StaMem
-/
import Derived.Test.YtbagenpobcgjnaaGreatJMarkMath
import Derived.Test.YtbagenpobcgjnaaGreatJStkRow
open Go renaming Value->zk,World->zn
open Go.World renaming cell?_alloc_new->zm
namespace Go.Proofs.YtbagenpobcgjnaaGreat
open Go.RowKit
set_option linter.unusedVariables false
structure l7 where
 t:ByteArray
 m:qx
 u:o7
 r:o7
 o:Bool
 g:mo
abbrev l7.cs (s:l7):Array zk:=#[.string s.t,.slice s.m.a s.m.l.length s.m.c,.slice s.u.a s.u.l.length s.u.c,.slice s.r.a s.r.l.length s.r.c,.bool s.o,.slice s.g.a s.g.l.length s.g.c]
abbrev x8 (t:ByteArray) (m u r:zk) (o:Bool) (g:zk):zk:=.agg #[.string t,m,u,r,.bool o,g]
abbrev l7.v (s:l7):zk:=.agg s.cs
structure ol (w:zn) (s:l7):Prop where
 m:vf w s.m
 u:nz w s.u
 r:nz w s.r
 g:o0 w s.g
theorem ol.later {w W:zn} {s:l7} (h:ol w s) (hb:Below w w W):ol W s:=⟨h.m.later hb,h.u.later hb,h.r.later hb,h.g.later hb⟩
structure ur (b:Nat) (c0 c1 c2 c3 c4 c5:zk) (w:zn):Prop where
 lt:b<w
 x0:w ⟨b,0,none⟩=some c0
 x1:w ⟨b,1,none⟩=some c1
 x2:w ⟨b,2,none⟩=some c2
 x3:w ⟨b,3,none⟩=some c3
 x4:w ⟨b,4,none⟩=some c4
 x5:w ⟨b,5,none⟩=some c5
theorem ur.new (w:zn) (c0 c1 c2 c3 c4 c5:zk) (t:TypeId):ur w c0 c1 c2 c3 c4 c5 (w.alloc (.cells #[c0,c1,c2,c3,c4,c5] t)):=
 ⟨li,by simp [zm],by simp [zm],by simp [zm],by simp [zm],by simp [zm],by simp [zm]⟩
theorem ur.on {b N:Nat} {c0 c1 c2 c3 c4 c5:zk} {w W:zn} (h:ur b c0 c1 c2 c3 c4 c5 w) (hb:Below N w W) (hN:b<N):ur b c0 c1 c2 c3 c4 c5 W:=
 ⟨Nat.lt_of_lt_of_le h.lt hb.size,(hb.cell (p:=⟨b,0,none⟩) hN).trans h.x0,(hb.cell (p:=⟨b,1,none⟩) hN).trans h.x1,(hb.cell (p:=⟨b,2,none⟩) hN).trans h.x2,(hb.cell (p:=⟨b,3,none⟩) hN).trans h.x3,(hb.cell (p:=⟨b,4,none⟩) hN).trans h.x4,(hb.cell (p:=⟨b,5,none⟩) hN).trans h.x5⟩
structure mg where
 t:ByteArray
 m:List l9
 u:List (List l8)
 r:List (List l8)
 o:Bool
 g:List l8
def l7.d (s:l7):mg:=⟨s.t,s.m.l,mf s.u.l,mf s.r.l,s.o,s.g.l⟩
def sameD (a b:mg):Bool:=decide (a.t=b.t) && (decide (a.m=b.m) && (decide (a.u=b.u) && (decide (a.r=b.r) && (decide (a.o=b.o) && decide (a.g=b.g)))))
theorem FG (a:mg):sameD a a=true:=by simp [sameD]
end Go.Proofs.YtbagenpobcgjnaaGreat
