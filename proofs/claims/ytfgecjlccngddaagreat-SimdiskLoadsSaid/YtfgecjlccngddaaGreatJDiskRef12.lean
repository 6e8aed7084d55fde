/-
  Joined: DiskRef12.
-/
import Derived.Test.YtfgecjlccngddaaGreatJDiskRefB
import Derived.Test.YtfgecjlccngddaaGreatJDiskLoad
import Derived.BigRegion
import Derived.Deep.RegionLaw
import Derived.Deep.AppendLies
import Derived.Deep.RegionWith
import Derived.Deep.DeepCutAuto
namespace Go.Proofs.YtfgecjlccngddaaGreat
set_option linter.unusedSimpArgs false
set_option linter.unusedVariables false
open Go.RowKit
set_option linter.unusedVariables false

theorem rown_keep {w w' : World} {base : Nat} {e : TypeId} {size : Nat} {v : Value} {n : Nat} {xs : List Value} (h : w.ownsRow base e size v n xs) (hk : ∀ g, v.ownBlock = some g → w'.heap[g]? = w.heap[g]?) : w'.ownsRow base e size v n xs := by
  refine ⟨h.1, ?_⟩
  rcases h.2 with h | ⟨g, cap, cur, rfl, hb, hg, r⟩
  · exact .inl h
  · exact .inr ⟨g, cap, cur, rfl, hb, (hk g rfl).trans hg, r⟩
theorem rown_cells {w : World} {base : Nat} {e : TypeId} {size : Nat} {v : Value} {n : Nat} {xs : List Value} (h : w.ownsRow base e size v n xs) {g : Nat} (hg : v.ownBlock = some g) : ∃ cur, w.heap[g]? = some (.cells cur e (0, 0)) := by
  rcases h.2 with ⟨rfl, _⟩ | ⟨g', cap, cur, rfl, hb, hgg, r⟩
  · cases hg
  · cases hg
    exact ⟨cur, hgg⟩
theorem rown_ne {w : World} {base b : Nat} {size : Nat} {v : Value} {n : Nat} {xs : List Value} {cs : Array Value} (h : w.ownsRow base 104 size v n xs) (hb : Blk w b cs 34) : v.ownBlock ≠ some b := fun hg => by
  obtain ⟨cur, hc⟩ := rown_cells h hg
  have hb' : w.heap[b]? = _ := hb
  rw [hc] at hb'
  exact absurd (Obj.cells.inj (Option.some.inj hb')).2.1 (by decide)
/-- The blocks of the folder's rows: neither box, nor the tapes' row. -/
abbrev Pl (w wr : World) (rb db : Nat) (u : Value) : Nat → Prop := fun b => b ≠ rb ∧ b ≠ db ∧ b < wr.heap.size ∧ u.ownBlock ≠ some b ∧ w.heap.size ≤ b
/-- What holds while files are laid: the result's box, the disk's, its tapes' row (its own), its folder's rows. -/
structure RdL (w : World) (rb db : Nat) (D : Dsk) (u : Value) (aL : Option Addr) (cL : Nat) (wr : World) : Prop where
  res : Blk wr rb dskZ 34
  box : Blk wr db #[.int .i64 D.sec, u, .slice aL D.L.length cL, .int .i64 (-1), .int .i64 (-1), .int .i64 (-1), .bool false, .int .i64 0] 34
  own : wr.ownsRow w.heap.size 104 2 u D.tp.length (Tp.flat D.tp)
  lls : LLs wr (Pl w wr rb db u) aL D.L
  lt : rb < db ∧ w.heap.size ≤ rb
  bel : Below w.heap.size w wr
section
variable {w wr w2 : World} {rb db : Nat} {D : Dsk} {u : Value} {aL : Option Addr} {cL : Nat}
theorem RdL.on (h : RdL w rb db D u aL cL wr) (hb : Below wr.heap.size wr w2) : RdL w rb db D u aL cL w2 where
  res := h.res.onto hb
  box := h.box.onto hb
  own := rown_keep h.own fun g hg => hb.block g (h.own.lt g hg).2
  lls := (h.lls.below (fun b hb => hb.2.2.1) hb).more fun b g => ⟨g.1, g.2.1, Nat.lt_of_lt_of_le g.2.2.1 hb.size, g.2.2.2⟩
  lt := h.lt
  bel := h.bel.trans (hb.mono h.bel.size)
theorem RdL.fold (h : RdL w rb db D u aL cL wr) {L2 : List (List Ent)} {a2 : Option Addr} {c2 : Nat} (hL : LLs wr (Pl w wr rb db u) a2 L2) : RdL w rb db { D with L := L2 } u a2 c2 (wr.setCell ⟨db, 2, none⟩ (.slice a2 L2.length c2)) where
  res := (Below.heap_setCell _ _ _ rb (fun q => by have := h.lt.1; have q : rb = db := q; omega)).trans h.res
  box := by have := h.box.set 2 (.slice a2 L2.length c2); simpa using this
  own := rown_keep h.own fun g hg => Below.heap_setCell _ _ _ g (fun q => rown_ne h.own h.box (by rw [hg, show g = db from q]))
  lls := (hL.keep fun p hp => World.cell?_setCell_other _ _ _ _ (fun q => hp.2.1 (by rw [← q]))).more fun b g => ⟨g.1, g.2.1, by simpa using g.2.2.1, g.2.2.2⟩
  lt := h.lt
  bel := h.bel.setCell (by have := h.lt; show w.heap.size ≤ db; omega) _
theorem RdL.app {W w5 : World} {g cap : Nat} {k n : ByteArray} (h : RdL w rb db D u aL cL wr) (hW : Below wr.heap.size wr W) (hg : W.grownBy w5 u.ownBlock)
    (hown : w5.ownsRow w.heap.size 104 2 (.slice (some ⟨g, 0, none⟩) (D.tp.length + 1) cap) (D.tp.length + 1) (Tp.flat D.tp ++ [.string k, .string n])) (hat : u.ownBlock = some g ∨ g = W.heap.size) :
    RdL w rb db { D with tp := D.tp ++ [⟨k, n⟩] } (.slice (some ⟨g, 0, none⟩) (D.tp.length + 1) cap) aL cL (w5.setCell ⟨db, 1, none⟩ (.slice (some ⟨g, 0, none⟩) (D.tp.length + 1) cap)) := by
  have hl := h.lt
  have n1 := rown_ne h.own h.box
  have n2 := rown_ne h.own h.res
  have e : ∀ k, k < wr.heap.size → u.ownBlock ≠ some k → w5.heap[k]? = wr.heap[k]? := fun k hk hn => (hg.block k (Nat.lt_of_lt_of_le hk hW.size) (fun q => hn q.symm)).trans (hW.block k hk)
  have b5 : Blk w5 db #[.int .i64 D.sec, u, .slice aL D.L.length cL, .int .i64 (-1), .int .i64 (-1), .int .i64 (-1), .bool false, .int .i64 0] 34 := (e db h.box.lt n1).trans h.box
  have r5 : Blk w5 rb dskZ 34 := (e rb h.res.lt n2).trans h.res
  have hgd : (Value.slice (some ⟨g, 0, none⟩) (D.tp.length + 1) cap).ownBlock ≠ some db := rown_ne hown b5
  have hbox : Blk (w5.setCell ⟨db, 1, none⟩ (.slice (some ⟨g, 0, none⟩) (D.tp.length + 1) cap)) db #[.int .i64 D.sec, .slice (some ⟨g, 0, none⟩) (D.tp.length + 1) cap, .slice aL D.L.length cL, .int .i64 (-1), .int .i64 (-1), .int .i64 (-1), .bool false, .int .i64 0] 34 := by
    have := b5.set 1 (.slice (some ⟨g, 0, none⟩) (D.tp.length + 1) cap)
    simpa using this
  have hres : Blk (w5.setCell ⟨db, 1, none⟩ (.slice (some ⟨g, 0, none⟩) (D.tp.length + 1) cap)) rb dskZ 34 := (Below.heap_setCell _ _ _ rb (fun q => by have q : rb = db := q; omega)).trans r5
  refine ⟨hres, hbox, ?_, ?_, hl, ?_⟩
  · have hown2 : w5.ownsRow w.heap.size 104 2 (.slice (some ⟨g, 0, none⟩) (D.tp.length + 1) cap) (D.tp ++ [(⟨k, n⟩ : Tp)]).length (Tp.flat (D.tp ++ [(⟨k, n⟩ : Tp)])) := by
      rw [List.length_append, Tp.flat_app]
      exact hown
    exact rown_keep hown2 fun q hq => Below.heap_setCell _ _ _ q (fun r => hgd (by rw [hq, show q = db from r]))
  · refine (h.lls.keep fun p hp => ?_).more fun b hb => ⟨hb.1, hb.2.1, ?_, fun q => ?_, hb.2.2.2.2⟩
    · exact (World.cell?_setCell_other _ _ _ _ (fun q => hp.2.1 (by rw [← q]))).trans (World.cell?_of_block (w := wr) (e _ hp.2.2.1 hp.2.2.2.1))
    · have := hg.size; have := hW.size; have := hb.2.2.1
      simp
      omega
    · have q : g = b := by simpa [Value.ownBlock] using q
      rcases hat with r | r
      · exact hb.2.2.2.1 (by rw [r, q])
      · have := hW.size; have := hb.2.2.1; omega
  · exact ((h.bel.trans (hW.mono h.bel.size)).grown hg (Nat.le_trans h.bel.size hW.size) (own_block h.own)).setCell (by show w.heap.size ≤ db; omega) _
theorem RdL.slice (h : RdL w rb db D u aL cL wr) : ∃ a c, u = .slice a D.tp.length c ∧ Tps wr (fun b => w.heap.size ≤ b ∧ b < wr.heap.size) a D.tp ∧ (a = none → c = 0) := by
  obtain ⟨a, c, e, hT⟩ := own_tps h.own
  refine ⟨a, c, e, hT, fun ha => ?_⟩
  subst ha
  rcases h.own.2 with ⟨g, _⟩ | ⟨g, cap, cur, g2, _⟩
  · rw [e] at g; exact (Value.slice.inj g).2.2
  · rw [e] at g2; exact absurd (Value.slice.inj g2).1 (by simp)
/-- Put was called with its variable made ahead. -/
theorem rd_mid_a {w3 : World} {L2 : List (List Ent)} {a2 : Option Addr} {c2 : Nat} (h : RdL w rb db D u aL cL wr) (hb : Below (wr.alloc (.cells #[.slice none 0 0] 30)).drew.heap.size (wr.alloc (.cells #[.slice none 0 0] 30)).drew w3)
    (hL : LLs w3 (Grow (Pl w wr rb db u) (wr.alloc (.cells #[.slice none 0 0] 30)).drew.heap.size w3.heap.size) a2 L2) :
    RdL w rb db D u aL cL (w3.setCell ⟨wr.heap.size, 0, none⟩ (.slice a2 L2.length c2)) ∧ Blk (w3.setCell ⟨wr.heap.size, 0, none⟩ (.slice a2 L2.length c2)) wr.heap.size #[.slice a2 L2.length c2] 30 ∧ LLs (w3.setCell ⟨wr.heap.size, 0, none⟩ (.slice a2 L2.length c2)) (Pl w (w3.setCell ⟨wr.heap.size, 0, none⟩ (.slice a2 L2.length c2)) rb db u) a2 L2 := by
  have hb0 : Below wr.heap.size wr (wr.alloc (.cells #[.slice none 0 0] 30)).drew := ((Below.refl _ wr).alloc (Nat.le_refl _) _).drew
  have z0 : (wr.alloc (.cells #[.slice none 0 0] 30)).drew.heap.size = wr.heap.size + 1 := by show (wr.alloc _).heap.size = _; simp
  have b0 : Blk (wr.alloc (.cells #[.slice none 0 0] 30)).drew wr.heap.size #[.slice none 0 0] 30 := Blk.new wr _ _
  obtain ⟨X, hX⟩ : ∃ X, (wr.alloc (.cells #[.slice none 0 0] 30)).drew = X := ⟨_, rfl⟩
  rw [hX] at hb hL hb0 z0 b0
  have hbw := hb0.trans (hb.mono hb0.size)
  have z3 := hb.size
  have bl := h.bel.size
  refine ⟨h.on (hbw.setCell (Nat.le_refl _) _), by have := (b0.onto hb).set 0 (.slice a2 L2.length c2); simpa using this, ?_⟩
  refine (hL.keep fun p hp => World.cell?_setCell_other _ _ _ _ (fun q => ?_)).more fun b g => ?_
  · have q : p.block = wr.heap.size := by rw [← q]
    rcases hp with hp | hp
    · have := hp.2.2.1; omega
    · omega
  · have g3 : b < (w3.setCell ⟨wr.heap.size, 0, none⟩ (.slice a2 L2.length c2)).heap.size := by
      rcases g with g | g
      · have := g.2.2.1; simp; omega
      · simp; omega
    rcases g with g | g
    · exact ⟨g.1, g.2.1, g3, g.2.2.2⟩
    · have l1 := h.res.lt
      have l2 := h.box.lt
      exact ⟨by omega, by omega, g3, fun q => by have := (h.own.lt _ q).2; omega, by omega⟩
/-- Put was called with its variable made behind. -/
theorem rd_mid_b {w3 : World} {L2 : List (List Ent)} {a2 : Option Addr} {c2 : Nat} (h : RdL w rb db D u aL cL wr) (hb : Below wr.drew.heap.size wr.drew w3)
    (hL : LLs w3 (Grow (Pl w wr rb db u) wr.drew.heap.size w3.heap.size) a2 L2) :
    RdL w rb db D u aL cL (w3.alloc (.cells #[.slice a2 L2.length c2] 30)) ∧ Blk (w3.alloc (.cells #[.slice a2 L2.length c2] 30)) w3.heap.size #[.slice a2 L2.length c2] 30 ∧ LLs (w3.alloc (.cells #[.slice a2 L2.length c2] 30)) (Pl w (w3.alloc (.cells #[.slice a2 L2.length c2] 30)) rb db u) a2 L2 := by
  have hb' : Below wr.heap.size wr w3 := ⟨hb.os, hb.tape, hb.output, hb.size, hb.block⟩
  have hL' : LLs w3 (Grow (Pl w wr rb db u) wr.heap.size w3.heap.size) a2 L2 := hL
  have z3 := hb'.size
  have bl := h.bel.size
  have ba : Below w3.heap.size w3 (w3.alloc (.cells #[.slice a2 L2.length c2] 30)) := (Below.refl _ _).alloc (Nat.le_refl _) _
  refine ⟨(h.on hb').on ba, Blk.new _ _ _, (hL'.below (fun b g => ?_) ba).more fun b g => ?_⟩
  · rcases g with g | g
    · have := g.2.2.1; omega
    · exact g.2
  · have g3 : b < (w3.alloc (.cells #[.slice a2 L2.length c2] 30)).heap.size := by
      rcases g with g | g
      · have := g.2.2.1; simp; omega
      · have := g.2; simp; omega
    rcases g with g | g
    · exact ⟨g.1, g.2.1, g3, g.2.2.2⟩
    · have l1 := h.res.lt
      have l2 := h.box.lt
      exact ⟨by omega, by omega, g3, fun q => by have := (h.own.lt _ q).2; omega, by omega⟩
end
theorem RdL.done {w wr wf : World} {rb db : Nat} {D : Dsk} {a aL : Option Addr} {c cL : Nat} (h : RdL w rb db D (.slice a D.tp.length c) aL cL wr) (ha : Apart [rb] wr wf) :
    Tps wf (fun b => w.heap.size ≤ b ∧ b < wf.heap.size) a D.tp ∧ LLs wf (fun b => w.heap.size ≤ b ∧ b < wf.heap.size) aL D.L ∧ Below w.heap.size w wf := by
  have hl := h.lt
  have own2 := rown_keep (w' := wf) h.own fun g hg => ha.block g (h.own.lt g hg).2 (fun q => rown_ne h.own h.res (by rw [hg, List.mem_singleton.1 q]))
  obtain ⟨a2, c2, e, hT⟩ := own_tps own2
  obtain ⟨rfl, _, _⟩ := Value.slice.inj e
  refine ⟨hT, (h.lls.keep fun p hp => ha.cell hp.2.2.1 (fun q => hp.1 (List.mem_singleton.1 q))).more fun b g => ⟨g.2.2.2.2, Nat.lt_of_lt_of_le g.2.2.1 ha.size⟩, h.bel.trans (ha.to_below (fun b hb => by rw [List.mem_singleton.1 hb]; omega) h.bel.size)⟩
theorem rd_step {w wx : World} {rb db k : Nat} {sec : Int} {l : List Fil} {D : Dsk} {nm dt : ByteArray} {u : Value} {aL : Option Addr} {cL : Nat} (hD : loadK sec l (k + 1) = (D.putFile ⟨nm, dt⟩, 0)) (hlen : D.tp.length = k)
    (h : RdL w rb db ⟨D.sec, D.tp ++ [⟨dt, dt⟩], putF D.L nm ((k : Int) + 1), D.fu, D.calls⟩ u aL cL wx) : (loadK sec l (k + 1)).2 = 0 ∧ RdL w rb db (loadK sec l (k + 1)).1 u aL cL wx := by
  rw [hD]
  refine ⟨rfl, ?_⟩
  have e : D.putFile ⟨nm, dt⟩ = ⟨D.sec, D.tp ++ [⟨dt, dt⟩], putF D.L nm ((k : Int) + 1), D.fu, D.calls⟩ := by
    unfold Dsk.putFile
    rw [hlen]
    rfl
  rw [e]
  exact h
theorem rd_start {w w1 : World} {sec : Int} {aL : Option Addr} {cL : Nat} (hb : Below (w.alloc (.cells dskZ 34)).heap.size (w.alloc (.cells dskZ 34)) w1)
    (hL : LLs w1 (fun b => (w.alloc (.cells dskZ 34)).heap.size ≤ b ∧ b < w1.heap.size) aL [[]]) :
    RdL w w.heap.size w1.heap.size (Dsk.new sec) (.slice none 0 0) aL cL (w1.alloc (.cells (dskC sec none 0 0 aL 1 cL Fus.new 0) 34)) := by
  have hb0 : Below w.heap.size w (w.alloc (.cells dskZ 34)) := (Below.refl _ w).alloc (Nat.le_refl _) _
  have z0 : (w.alloc (.cells dskZ 34)).heap.size = w.heap.size + 1 := by simp
  have b0 := Blk.new w dskZ 34
  obtain ⟨X, hX⟩ : ∃ X, w.alloc (.cells dskZ 34) = X := ⟨_, rfl⟩
  rw [hX] at hb hL hb0 z0 b0
  have z1 := hb.size
  have ba : Below w1.heap.size w1 (w1.alloc (.cells (dskC sec none 0 0 aL 1 cL Fus.new 0) 34)) := (Below.refl _ _).alloc (Nat.le_refl _) _
  refine ⟨(b0.onto hb).onto ba, Blk.new _ _ _, World.ownsRow_nil _ _ _ _, (hL.below (fun b g => g.2) ba).more fun b g => ⟨by omega, by omega, ?_, (fun q => by cases q), by omega⟩, ⟨by omega, Nat.le_refl _⟩, (hb0.trans (hb.mono hb0.size)).trans (ba.mono (by omega))⟩
  have := g.2
  simp
  omega
theorem rload_bad {sec : Int} {l : List Fil} {k : Nat} {D : Dsk} {m : Int} (h1 : 1 ≤ sec) (h2 : sec ≤ 4096) (hlen : l.length ≤ 64) (h : loadK sec l k = (D, m)) (hm : m ≠ 0) : Dsk.load sec l = (Dsk.zero, m) := by
  have e := loadK_bad sec l k (by rw [h]; exact hm)
  rw [h] at e
  unfold Dsk.load
  rw [if_neg (by omega), if_neg (by omega), e, if_neg hm]
theorem rd_no {w w' : World} {P : Nat → Prop} {sec : Int} {l : List Fil} {c : Int} (h : Dsk.load sec l = (Dsk.zero, c)) (hb : Below w.heap.size w w') : RetDE w P (Dsk.load sec l) (.returned (.tuple #[.agg dskZ, .int .i64 c])) w' := by
  rw [h]
  exact ⟨_, rfl, isD_zero _ _, hb⟩
set_option maxRecDepth 100000 in
set_option maxHeartbeats 800000 in
theorem rdnew_ok (sec : Int) (h1 : 1 ≤ sec) (h2 : sec ≤ 4096) (w : World) : Calls Tryz.prog 8 #[.int .i64 sec] w fun e w' => ∃ aL cL, e = .returned (.tuple #[dskV sec none 0 0 aL 1 cL Fus.new 0, .int .i64 0]) ∧ LLs w' (fun b => w.heap.size ≤ b ∧ b < w'.heap.size) aL [[]] ∧ Below w.heap.size w w' := by
  have g1 : ¬ sec < 1 := by omega
  have g2 : ¬ 4096 < sec := by omega
  have hb0 := Blk.new w dskZ 34
  have HB0 := Lib.hid hb0
  clear hb0
  go_enter Tryz.func8, Tryz.ntmps8
  go_wp2_with fail
  refine (rnew9_any _).mono ?_
  rintro e w1 ⟨a1, c1, rfl, hl1, hb1⟩
  have HL := Lib.hid hl1; have HB1 := Lib.hid hb1
  clear hl1 hb1
  go_wp2_with fail
  refine (rfnew_any _).mono ?_
  rintro e w2 ⟨rfl, hb2⟩
  have hbl := (HB0.out.onto HB1.out).onto hb2
  obtain ⟨k0, k1, k2, k3, k4, k5, k6, k7, r0, r1, r2, r3, r4, r5, r6, r7⟩ := hbl.eight
  have hX : Below w.heap.size w w2 := ((Below.refl w.heap.size w).alloc (Nat.le_refl _) _).trans ((HB1.out.trans (hb2.mono HB1.out.size)).mono (by simp))
  have hL2 := (HL.out.below (N := w1.heap.size) (fun b hb => by rcases hb with hb | hb; exact hb.elim; exact hb.2) hb2).more (B' := fun b => w.heap.size + 1 ≤ b ∧ b < w2.heap.size) (fun b hb => by
    rcases hb with hb | hb
    · exact hb.elim
    · have := hb2.size; have := hb.1; simp at this; exact ⟨this, by omega⟩)
  have HX := Lib.hid hX; have HL2 := Lib.hid hL2
  clear hbl hb2 hX hL2
  go_wp2
  refine bodyPost_ret (v := .tuple #[dskV sec none 0 0 a1 1 c1 Fus.new 0, .int .i64 0]) (by simp [results, Tryz.results8, go_sem, k0, k1, k2, k3, k4, k5, k6, k7]) rfl ?_
  refine ⟨_, _, rfl, ?_, ?_⟩
  · refine LLs.more (B := fun b => w.heap.size + 1 ≤ b ∧ b < w2.heap.size) (HL2.out.keep fun q hq => ?_) (fun b hb => ⟨by omega, by simpa using hb.2⟩)
    iterate 8 rw [World.cell?_setCell_other _ _ _ _ (fun e => by have h2 := congrArg Addr.block e; dsimp only at h2; have := hq.1; omega)]
  · iterate 8 refine Below.setCell ?_ (by simp) _
    exact HX.out
end Go.Proofs.YtfgecjlccngddaaGreat
