/-
  StaMem
-/
import Derived.Test.YtbagenpobcgjnaaGreatJMarkMath
import Derived.Test.YtbagenpobcgjnaaGreatJStkRow
open Go renaming Value->yv,World->yx
open Go.World renaming cell?_alloc_new->yw
namespace Go.Proofs.YtbagenpobcgjnaaGreat
open Go.RowKit
set_option linter.unusedVariables false
structure lz where
 t:ByteArray
 m:qv
 u:pa
 r:pa
 o:Bool
 g:mo
abbrev lz.cs (s:lz):Array yv:=#[.string s.t,.slice s.m.a s.m.l.length s.m.c,.slice s.u.a s.u.l.length s.u.c,.slice s.r.a s.r.l.length s.r.c,.bool s.o,.slice s.g.a s.g.l.length s.g.c]
abbrev xj (t:ByteArray) (m u r:yv) (o:Bool) (g:yv):yv:=.agg #[.string t,m,u,r,.bool o,g]
abbrev lz.v (s:lz):yv:=.agg s.cs
structure n9 (w:yx) (s:lz):Prop where
 m:uv w s.m
 u:nx w s.u
 r:nx w s.r
 g:o4 w s.g
theorem n9.later {w W:yx} {s:lz} (h:n9 w s) (hb:Below w w W):n9 W s:=⟨h.m.later hb,h.u.later hb,h.r.later hb,h.g.later hb⟩
structure tw (b:Nat) (c0 c1 c2 c3 c4 c5:yv) (w:yx):Prop where
 lt:b<w
 x0:w ⟨b,0,none⟩=some c0
 x1:w ⟨b,1,none⟩=some c1
 x2:w ⟨b,2,none⟩=some c2
 x3:w ⟨b,3,none⟩=some c3
 x4:w ⟨b,4,none⟩=some c4
 x5:w ⟨b,5,none⟩=some c5
theorem tw.new (w:yx) (c0 c1 c2 c3 c4 c5:yv) (t:TypeId):tw w c0 c1 c2 c3 c4 c5 (w.alloc (.cells #[c0,c1,c2,c3,c4,c5] t)):=
 ⟨lh,by simp [yw],by simp [yw],by simp [yw],by simp [yw],by simp [yw],by simp [yw]⟩
theorem tw.on {b N:Nat} {c0 c1 c2 c3 c4 c5:yv} {w W:yx} (h:tw b c0 c1 c2 c3 c4 c5 w) (hb:Below N w W) (hN:b<N):tw b c0 c1 c2 c3 c4 c5 W:=
 ⟨Nat.lt_of_lt_of_le h.lt hb.size,(hb.cell (p:=⟨b,0,none⟩) hN).trans h.x0,(hb.cell (p:=⟨b,1,none⟩) hN).trans h.x1,(hb.cell (p:=⟨b,2,none⟩) hN).trans h.x2,(hb.cell (p:=⟨b,3,none⟩) hN).trans h.x3,(hb.cell (p:=⟨b,4,none⟩) hN).trans h.x4,(hb.cell (p:=⟨b,5,none⟩) hN).trans h.x5⟩
structure mb where
 t:ByteArray
 m:List l8
 u:List (List l7)
 r:List (List l7)
 o:Bool
 g:List l7
def lz.d (s:lz):mb:=⟨s.t,s.m.l,mf s.u.l,mf s.r.l,s.o,s.g.l⟩
def sameD (a b:mb):Bool:=decide (a.t=b.t) && (decide (a.m=b.m) && (decide (a.u=b.u) && (decide (a.r=b.r) && (decide (a.o=b.o) && decide (a.g=b.g)))))
theorem DA (a:mb):sameD a a=true:=by simp [sameD]
end Go.Proofs.YtbagenpobcgjnaaGreat
