/-
  StaMem
-/
import Derived.Test.YtbagenpobcgjnaaGreatJMarkMath
import Derived.Test.YtbagenpobcgjnaaGreatJStkRow
namespace Go.Proofs.YtbagenpobcgjnaaGreat
open Go.RowKit
set_option linter.unusedVariables false
structure Sta where
 t:ByteArray
 m:KPc
 u:SPc
 r:SPc
 o:Bool
 g:EPc
abbrev Sta.cs (s:Sta):Array Value:=#[.string s.t,.slice s.m.a s.m.l.length s.m.c,.slice s.u.a s.u.l.length s.u.c,.slice s.r.a s.r.l.length s.r.c,.bool s.o,.slice s.g.a s.g.l.length s.g.c]
abbrev staV (t:ByteArray) (m u r:Value) (o:Bool) (g:Value):Value:=.agg #[.string t,m,u,r,.bool o,g]
abbrev Sta.v (s:Sta):Value:=.agg s.cs
structure StaIn (w:World) (s:Sta):Prop where
 m:KPcs w s.m
 u:SPcs w s.u
 r:SPcs w s.r
 g:EPcs w s.g
theorem StaIn.later {w W:World} {s:Sta} (h:StaIn w s) (hb:Below w.heap.size w W):StaIn W s:=⟨h.m.later hb,h.u.later hb,h.r.later hb,h.g.later hb⟩
structure Box6 (b:Nat) (c0 c1 c2 c3 c4 c5:Value) (w:World):Prop where
 lt:b<w.heap.size
 x0:w.cell? ⟨b,0,none⟩=some c0
 x1:w.cell? ⟨b,1,none⟩=some c1
 x2:w.cell? ⟨b,2,none⟩=some c2
 x3:w.cell? ⟨b,3,none⟩=some c3
 x4:w.cell? ⟨b,4,none⟩=some c4
 x5:w.cell? ⟨b,5,none⟩=some c5
theorem Box6.new (w:World) (c0 c1 c2 c3 c4 c5:Value) (t:TypeId):Box6 w.heap.size c0 c1 c2 c3 c4 c5 (w.alloc (.cells #[c0,c1,c2,c3,c4,c5] t)):=
 ⟨by simp,by simp [World.cell?_alloc_new],by simp [World.cell?_alloc_new],by simp [World.cell?_alloc_new],by simp [World.cell?_alloc_new],by simp [World.cell?_alloc_new],by simp [World.cell?_alloc_new]⟩
theorem Box6.on {b N:Nat} {c0 c1 c2 c3 c4 c5:Value} {w W:World} (h:Box6 b c0 c1 c2 c3 c4 c5 w) (hb:Below N w W) (hN:b<N):Box6 b c0 c1 c2 c3 c4 c5 W:=
 ⟨Nat.lt_of_lt_of_le h.lt hb.size,(hb.cell (p:=⟨b,0,none⟩) hN).trans h.x0,(hb.cell (p:=⟨b,1,none⟩) hN).trans h.x1,(hb.cell (p:=⟨b,2,none⟩) hN).trans h.x2,(hb.cell (p:=⟨b,3,none⟩) hN).trans h.x3,(hb.cell (p:=⟨b,4,none⟩) hN).trans h.x4,(hb.cell (p:=⟨b,5,none⟩) hN).trans h.x5⟩
structure StaD where
 t:ByteArray
 m:List Mrk
 u:List (List Edt)
 r:List (List Edt)
 o:Bool
 g:List Edt
def Sta.d (s:Sta):StaD:=⟨s.t,s.m.l,lsP s.u.l,lsP s.r.l,s.o,s.g.l⟩
def sameD (a b:StaD):Bool:=decide (a.t=b.t) && (decide (a.m=b.m) && (decide (a.u=b.u) && (decide (a.r=b.r) && (decide (a.o=b.o) && decide (a.g=b.g)))))
theorem DH (a:StaD):sameD a a=true:=by simp [sameD]
end Go.Proofs.YtbagenpobcgjnaaGreat
