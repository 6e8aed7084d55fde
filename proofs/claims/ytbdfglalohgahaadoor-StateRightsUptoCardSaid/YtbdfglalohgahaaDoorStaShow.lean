/-
  The program's Show of a state (layer 25).
-/
import Derived.Test.YtbdfglalohgahaaDoorStaLine
import Derived.Test.YtbdfglalohgahaaDoorJStaSize
import Derived.Deep.RegionHeld3
import Derived.Deep.Draws
namespace Go.Proofs.YtbdfglalohgahaaDoor
open Go.RowKit
set_option linter.unusedVariables false
set_option linter.unusedSimpArgs false

def tText : ByteArray := ⟨#[116, 101, 120, 116]⟩
def tMark : ByteArray := ⟨#[109, 97, 114, 107]⟩
def tUndo : ByteArray := ⟨#[117, 110, 100, 111]⟩
def tRedo : ByteArray := ⟨#[114, 101, 100, 111]⟩
def tOpen : ByteArray := ⟨#[111, 112, 101, 110]⟩
def markL (x : Mrk) : List UInt8 := lineL [tMark, x.name, decS x.p]
def marksL (l : List Mrk) : List UInt8 := l.flatMap markL
def showA (s : Sta) : List UInt8 := lineL [tText, s.t] ++ marksL s.m.l ++ lineL [tUndo, decS s.u.l.length] ++ lineL [tRedo, decS s.r.l.length]
/-- What Show tells. -/
def showL (s : Sta) : List UInt8 := if s.o = true then showA s ++ lineL [tOpen, decS s.g.l.length] else showA s
theorem line2_len (x y : ByteArray) : (lineL [x, y]).length = x.size + y.size + 2 := by
  unfold lineL
  rw [List.length_append, List.map_cons, List.map_cons, List.map_nil, Lib.join_length]
  simp [Lib.lens]
  omega
theorem line3_len (x y z : ByteArray) : (lineL [x, y, z]).length = x.size + y.size + z.size + 3 := by
  unfold lineL
  rw [List.length_append, List.map_cons, List.map_cons, List.map_cons, List.map_nil, Lib.join_length]
  simp [Lib.lens]
  omega
theorem marksL_more (l : List Mrk) (k : Nat) (h : k < l.length) : marksL (l.take (k + 1)) = marksL (l.take k) ++ markL (l[k]!) := by
  unfold marksL
  rw [List.take_succ_eq_append_getElem h, List.flatMap_append, kget h]
  simp
theorem marksL_len (l : List Mrk) (h : ∀ x ∈ l, -9223372036854775808 ≤ x.p ∧ x.p ≤ 9223372036854775807) : (marksL l).length ≤ nameN l + 28 * l.length := by
  induction l with
  | nil => simp [marksL, nameN]
  | cons x r ih =>
    have h1 := ih (fun y hy => h y (by simp [hy]))
    have h2 := decS_20 (h x (by simp)).1 (h x (by simp)).2
    have h3 : (markL x).length = tMark.size + x.name.size + (decS x.p).size + 3 := line3_len _ _ _
    have h4 : tMark.size = 4 := rfl
    unfold marksL nameN at h1 ⊢
    simp only [List.flatMap_cons, List.length_append, List.map_cons, List.sum_cons, List.length_cons]
    omega
/-- What stands while Show runs. -/
structure ShI (w : World) (s : Sta) (l : List UInt8) (W : World) : Prop where
  bel : Below w.heap.size w W
  b0 : Box6 w.heap.size (.string s.t) (.slice s.m.a s.m.l.length s.m.c) (.slice s.u.a s.u.l.length s.u.c) (.slice s.r.a s.r.l.length s.r.c) (.bool s.o) (.slice s.g.a s.g.l.length s.g.c) W
  bld : Bld (w.heap.size + 1) l W
theorem ShI.on {w W W2 : World} {s : Sta} {l : List UInt8} (h : ShI w s l W) (hb : Below W.heap.size W W2) : ShI w s l W2 := ⟨h.bel.trans (hb.mono h.bel.size), h.b0.on hb h.b0.lt, h.bld.on hb⟩
theorem ShI.line {w W W2 : World} {s : Sta} {l l2 : List UInt8} {e : Ending} (h : ShI w s l W) (hr : RetLine (w.heap.size + 1) l2 W e W2) : ShI w s l2 W2 :=
  ⟨h.bel.trans (hr.2.2.1.mono (by omega)), h.b0.on hr.2.2.1 (by omega), hr.2.1⟩

set_option maxRecDepth 100000 in
set_option maxHeartbeats 3200000 in
theorem stshow_any (s : Sta) (w : World) (hin : StaIn w s) (hp : Pw w.heap.size w) (hm : s.m.l.length ≤ 1000) (hmp : ∀ x ∈ s.m.l, -9223372036854775808 ≤ x.p ∧ x.p ≤ 9223372036854775807) (hu : s.u.l.length ≤ 1000000) (hr : s.r.l.length ≤ 1000000) (hg : s.g.l.length ≤ 1000000) (hS : s.t.size + nameN s.m.l ≤ 1000000000000) :
    Calls Tryd.prog 10 #[s.v] w fun e w' => e = .returned (.string ⟨(showL s).toArray⟩) ∧ Below w.heap.size w w' := by
  have hmf : ∀ (fn : Fn) (first cap : Array Value) (w : World), (Instr.makeFunc fn first cap).run Tryd.prog w = .ok (.func fn first cap) w := fun _ _ _ _ => rfl
  have hi : ShI w s [] ((w.alloc (.cells #[.string s.t, .slice s.m.a s.m.l.length s.m.c, .slice s.u.a s.u.l.length s.u.c, .slice s.r.a s.r.l.length s.r.c, .bool s.o, .slice s.g.a s.g.l.length s.g.c] 26)).alloc (.cells #[.pointer none, .slice none 0 0] 51)) := by
    refine ⟨below2 _ _ _, (Box6.new w _ _ _ _ _ _ _).on (below1 _ _) (by simp), ?_⟩
    have := Bld.new (w.alloc (.cells #[.string s.t, .slice s.m.a s.m.l.length s.m.c, .slice s.u.a s.u.l.length s.u.c, .slice s.r.a s.r.l.length s.r.c, .bool s.o, .slice s.g.a s.g.l.length s.g.c] 26))
    rwa [World.size_alloc] at this
  obtain ⟨wX, hwX⟩ : ∃ wX, (w.alloc (.cells #[.string s.t, .slice s.m.a s.m.l.length s.m.c, .slice s.u.a s.u.l.length s.u.c, .slice s.r.a s.r.l.length s.r.c, .bool s.o, .slice s.g.a s.g.l.length s.g.c] 26)).alloc (.cells #[.pointer none, .slice none 0 0] 51) = wX := ⟨_, rfl⟩
  rw [hwX] at hi
  have hln : (lineL [tText, s.t] ++ marksL s.m.l).length ≤ 2000000000000 := by
    rw [List.length_append, line2_len]
    have := marksL_len s.m.l hmp
    have h4 : tText.size = 4 := rfl
    omega
  have hlk : ∀ k, (lineL [tText, s.t] ++ marksL (s.m.l.take k)).length ≤ (lineL [tText, s.t] ++ marksL s.m.l).length := fun k => by
    have e : marksL s.m.l = marksL (s.m.l.take k) ++ marksL (s.m.l.drop k) := by unfold marksL; rw [← List.flatMap_append, List.take_append_drop]
    rw [e]
    simp only [List.length_append]
    omega
  have c1 := line2_any tText s.t (w.heap.size + 1) [] wX 9 hi.bld (by rw [List.length_append] at hln; simp; omega)
  rw [List.nil_append] at c1
  have c1 : Calls Tryd.prog 34 #[.slice (some ⟨wX.heap.size, 0, none⟩) 2 2, .pointer (some ⟨w.heap.size + 1, 0, none⟩)] (wX.alloc (.cells #[.string ⟨#[116, 101, 120, 116]⟩, .string s.t] 9)) (RetLine (w.heap.size + 1) (lineL [tText, s.t]) (wX.alloc (.cells #[.string ⟨#[116, 101, 120, 116]⟩, .string s.t] 9))) := c1
  have ci := fun n (h0 : -9223372036854775808 ≤ n) (h1 : n ≤ 9223372036854775807) W (hW : Below w.heap.size w W) => itoa64_any n h0 h1 w.heap.size W (hp.on hW)
  obtain ⟨R, hR⟩ : ∃ R : ByteArray, ⟨(showL s).toArray⟩ = R := ⟨_, rfl⟩
  rw [hR]
  have hml : s.m.l.length ≤ 1000 := hm
  have HI := Lib.hid hi; have HIN := Lib.hid hin; have HMP := Lib.hid hmp; have C1 := Lib.hid c1; have CI := Lib.hid ci; have HLN := Lib.hid hln; have HLK := Lib.hid hlk; have HR := Lib.hid hR
  have y0 := hi.b0.x0
  clear hi hin hp hmp c1 ci hln hlk hR hS
  go_enter Tryd.func10, Tryd.ntmps10
  go_wp2_with fail
  refine C1.out.mono ?_; rintro e w1 hl1
  have HI1 := Lib.hid ((HI.out.on (below1 _ _)).line hl1)
  obtain rfl := hl1.1
  have y1 := HI1.out.b0.x1
  clear hl1 y0 hwX C1
  go_wp2_with fail
  go_loopw [16] (fun i wr => ∃ k : Nat, k ≤ s.m.l.length ∧ i = .int .i64 k ∧ ShI w s (lineL [tText, s.t] ++ marksL (s.m.l.take k)) wr) (fun i _ => s.m.l.length - (intOf i).toNat)
  case atStart => exact ⟨0, Nat.zero_le _, rfl, by rw [List.take_zero]; show ShI w s (lineL [tText, s.t] ++ []) w1; rw [List.append_nil]; exact HI1.out⟩
  case round =>
    obtain ⟨k, hk, rfl, hi⟩ := hrel
    clear y1
    by_cases hlt : k < s.m.l.length
    · obtain ⟨ad, had, hab, q0, q1⟩ := (HIN.out.later hi.bel).m.row.at k hlt
      have hmm := marksL_more s.m.l k hlt
      have hpp := HMP.out (s.m.l[k]!) (by rw [kget hlt]; exact List.getElem_mem hlt)
      have hlk1 := HLK.out (k + 1)
      have hlk2 := HLN.out
      obtain ⟨x, hx⟩ : ∃ x, s.m.l[k]! = x := ⟨_, rfl⟩
      rw [hx] at q0 q1 hmm hpp
      obtain ⟨nm, p⟩ := x
      simp only at q0 q1 hmm hpp
      rw [hmm] at hlk1
      have hcat : lineL [tText, s.t] ++ marksL (s.m.l.take (k + 1)) = lineL [tText, s.t] ++ marksL (s.m.l.take k) ++ lineL [tMark, nm, decS p] := by rw [hmm, ← List.append_assoc]; rfl
      have hsz : (lineL [tText, s.t] ++ marksL (s.m.l.take k)).length + (lineL [tMark, nm, decS p]).length ≤ 140737488355328 := by
        rw [← List.append_assoc, List.length_append] at hlk1
        have : (markL ⟨nm, p⟩).length = (lineL [tMark, nm, decS p]).length := rfl
        omega
      have cl := fun W (hW : Bld (w.heap.size + 1) (lineL [tText, s.t] ++ marksL (s.m.l.take k)) W) => line3_any tMark nm (decS p) (w.heap.size + 1) (lineL [tText, s.t] ++ marksL (s.m.l.take k)) W 9 hW hsz
      have cl : ∀ W, Bld (w.heap.size + 1) (lineL [tText, s.t] ++ marksL (s.m.l.take k)) W → Calls Tryd.prog 34 #[.slice (some ⟨W.heap.size, 0, none⟩) 3 3, .pointer (some ⟨w.heap.size + 1, 0, none⟩)] (W.alloc (.cells #[.string ⟨#[109, 97, 114, 107]⟩, .string nm, .string (decS p)] 9)) (RetLine (w.heap.size + 1) (lineL [tText, s.t] ++ marksL (s.m.l.take k) ++ lineL [tMark, nm, decS p]) (W.alloc (.cells #[.string ⟨#[109, 97, 114, 107]⟩, .string nm, .string (decS p)] 9))) := cl
      have ct := CI.out p hpp.1 hpp.2
      have b0 : (0 : Int) ≤ (k : Int) := by omega
      have b1 : (k : Int) < (s.m.l.length : Int) := by omega
      have hbl := hi.bld.lt
      have HI2 := Lib.hid (hi.on (below1 wr (.cells #[.string nm, .int .i64 p] 34)))
      have HCAT := Lib.hid hcat; have CL := Lib.hid cl; have CT := Lib.hid ct
      clear hi hab hmm hpp hlk1 hlk2 hx hcat hsz cl ct
      go_upto_region 7 with fail
      obtain ⟨W1, hW1⟩ : ∃ W1, wr.alloc (.cells #[.string nm, .int .i64 p] 34) = W1 := ⟨_, rfl⟩
      have hbx : W1.heap[wr.heap.size]? = some (.cells #[.string nm, .int .i64 p] 34 (0, 0)) := by rw [← hW1]; show (wr.heap.push _)[wr.heap.size]? = _; simp
      rw [hW1]
      rw [hW1] at HI2
      obtain ⟨bx, hbx2⟩ : ∃ bx, wr.heap.size = bx := ⟨_, rfl⟩
      rw [hbx2] at hbx ⊢
      have hbne : bx ≠ w.heap.size + 1 := by omega
      have cel : ∀ W : World, W.heap[bx]? = some (.cells #[.string nm, .int .i64 p] 34 (0, 0)) → W.cell? ⟨bx, 0, none⟩ = some (.string nm) ∧ W.cell? ⟨bx, 1, none⟩ = some (.int .i64 p) := fun W h => by simp [World.cell?, h]
      have hlb : bx < W1.heap.size := (Array.getElem?_eq_some_iff.1 hbx).1
      have HBX := Lib.hid hbx; have HNE := Lib.hid hbne; have CEL := Lib.hid cel; have HLB := Lib.hid hlb
      clear hW1 hbx hbx2 hbne cel hlb q0 q1 had b0 hbl
      refine wp_region_held_drew (S := (fun w' : World => w'.cell? ⟨bx, 0, none⟩ = some (.string nm) ∧ w'.cell? ⟨bx, 1, none⟩ = some (.int .i64 p))) (by kernel_rfl) (CEL.out W1.drew HBX.out) (fun hHeld => ?_)
      refine wpAnyH_take (i := 0) (v := ?_) (by simp only [List.getElem?_toArray, List.getElem?_cons_succ, List.getElem?_cons_zero]; rfl) (by kernel_rfl) (by kernel_rfl) (by kernel_rfl) (fun _ _ _ h => by exact h) (Or.inl ⟨by rfl, ?_⟩) (by assumption) ?_
      rotate_left
      · (intro w hSw; (try dsimp only at hSw); go_simp; try with_reducible rfl)
      try simp only [Act.put, List.setIfInBounds_toArray, List.set_cons_zero, List.set_cons_succ]
      refine wpAnyH_take (i := 1) (v := ?_) (by simp only [List.getElem?_toArray, List.getElem?_cons_succ, List.getElem?_cons_zero]; rfl) (by kernel_rfl) (by kernel_rfl) (by kernel_rfl) (fun _ _ _ h => by exact h) (Or.inl ⟨by rfl, ?_⟩) (by assumption) ?_
      rotate_left
      · (intro w hSw; (try dsimp only at hSw); go_simp; try with_reducible rfl)
      try simp only [Act.put, List.setIfInBounds_toArray, List.set_cons_zero, List.set_cons_succ]
      refine wpAnyH_take (i := 2) (v := ?_) (by simp only [List.getElem?_toArray, List.getElem?_cons_succ, List.getElem?_cons_zero]; rfl) (by kernel_rfl) (by kernel_rfl) (by kernel_rfl) (fun _ _ _ h => by exact h) (Or.inl ⟨by rfl, ?_⟩) (by assumption) ?_
      rotate_left
      · (intro w hSw; (try dsimp only at hSw); go_simp; try with_reducible rfl)
      try simp only [Act.put, List.setIfInBounds_toArray, List.set_cons_zero, List.set_cons_succ]
      refine wpAnyH_take (i := 3) (v := ?_) (by simp only [List.getElem?_toArray, List.getElem?_cons_succ, List.getElem?_cons_zero]; rfl) (by kernel_rfl) (by kernel_rfl) (by kernel_rfl) (fun _ _ _ h => by exact h) (Or.inl ⟨by rfl, ?_⟩) (by assumption) ?_
      rotate_left
      · (intro w hSw; (try dsimp only at hSw); go_simp; try with_reducible rfl)
      try simp only [Act.put, List.setIfInBounds_toArray, List.set_cons_zero, List.set_cons_succ]
      refine wpAnyH_take (i := 4) (v := ?_) (by simp only [List.getElem?_toArray, List.getElem?_cons_succ, List.getElem?_cons_zero]; rfl) (by kernel_rfl) (by kernel_rfl) (by kernel_rfl) (fun _ _ _ h => by exact h) (Or.inl ⟨by rfl, ?_⟩) (by assumption) ?_
      rotate_left
      · (intro w hSw; (try dsimp only at hSw); go_simp; try with_reducible rfl)
      try simp only [Act.put, List.setIfInBounds_toArray, List.set_cons_zero, List.set_cons_succ]
      refine wpAnyH_ready (rs := [5]) (by kernel_rfl) (by simp) ?_
      refine AllReadyH.cons (by simp only [List.getElem?_toArray, List.getElem?_cons_succ, List.getElem?_cons_zero]; rfl) (fun K hK => ?_) AllReadyH.nil
      go_simp
      (go_at_call 37; (with_reducible refine (CT.out _ HI2.out.bel.drew).mono ?_); rintro e w2 ⟨rfl, hb2⟩; have HI3 := Lib.hid (HI2.out.on ((Below.refl _ _).drew.trans hb2)); have HB3 := Lib.hid ((hb2.block bx HLB.out).trans HBX.out); clear hb2)
      try go_wp2_with fail
      refine hK.out _ _ ?_ (fun hHeld => ?_)
      · exact CEL.out _ HB3.out
      clear hK K
      try simp only [Act.put, List.setIfInBounds_toArray, List.set_cons_zero, List.set_cons_succ]
      refine wpAnyH_ready (rs := [6]) (by kernel_rfl) (by simp) ?_
      refine AllReadyH.cons (by simp only [List.getElem?_toArray, List.getElem?_cons_succ, List.getElem?_cons_zero]; rfl) (fun K hK => ?_) AllReadyH.nil
      go_simp
      skip
      try go_wp2_with fail
      refine hK.out _ _ ?_ (fun hHeld => ?_)
      · exact CEL.out _ (((below1 w2 _).block bx (Array.getElem?_eq_some_iff.1 HB3.out).1).trans HB3.out)
      clear hK K
      try simp only [Act.put, List.setIfInBounds_toArray, List.set_cons_zero, List.set_cons_succ]
      refine wpAnyH_ready (rs := [7]) (by kernel_rfl) (by simp) ?_
      refine AllReadyH.cons (by simp only [List.getElem?_toArray, List.getElem?_cons_succ, List.getElem?_cons_zero]; rfl) (fun K hK => ?_) AllReadyH.nil
      go_simp
      (go_at_call 34; refine (CL.out _ HI3.out.bld).mono ?_; rintro e w4 hl4; have HI4 := Lib.hid ((HI3.out.on (below1 w2 _)).line hl4); have HB4 := Lib.hid (hl4.2.2.2 bx _ (((below1 w2 _).block bx (Array.getElem?_eq_some_iff.1 HB3.out).1).trans HB3.out) (fun e => HNE.out (Option.some.inj e)) (fun c fz e => by cases e)); obtain rfl := hl4.1; clear hl4)
      try go_wp2_with fail
      refine hK.out _ _ ?_ (fun hHeld => ?_)
      · exact CEL.out _ HB4.out
      clear hK K
      try simp only [Act.put, List.setIfInBounds_toArray, List.set_cons_zero, List.set_cons_succ]
      refine wpAnyH_done (by kernel_rfl) ?_ _
      go_wp2
      go_roundw
      case rel => exact ⟨k + 1, by omega, by go_num, by rw [HCAT.out]; exact HI4.out⟩
      case measure => simp [intOf]; omega
    · obtain rfl : k = s.m.l.length := by omega
      rw [List.take_length] at hi
      have hsz : ∀ (a : List UInt8) (x : ByteArray) (n : Nat), n ≤ 1000000 → x.size = 4 → a.length ≤ 3000000000000 → a.length + (lineL [x, decS (n : Nat)]).length ≤ 140737488355328 := fun a x n hn hx ha => by
        rw [line2_len, hx]
        have := decS_20 (n := ((n : Nat) : Int)) (by omega) (by omega)
        omega
      have hl0 := HLN.out
      have hl0 : (lineL [tText, s.t] ++ marksL s.m.l).length ≤ 3000000000000 := by omega
      have hl1 : (lineL [tText, s.t] ++ marksL s.m.l ++ lineL [tUndo, decS (s.u.l.length : Nat)]).length ≤ 3000000000000 := by
        have := decS_20 (n := ((s.u.l.length : Nat) : Int)) (by omega) (by omega)
        have h4 : tUndo.size = 4 := rfl
        have h5 := HLN.out
        rw [List.length_append, line2_len]
        omega
      have hl2 : (lineL [tText, s.t] ++ marksL s.m.l ++ lineL [tUndo, decS (s.u.l.length : Nat)] ++ lineL [tRedo, decS (s.r.l.length : Nat)]).length ≤ 3000000000000 := by
        have := decS_20 (n := ((s.u.l.length : Nat) : Int)) (by omega) (by omega)
        have := decS_20 (n := ((s.r.l.length : Nat) : Int)) (by omega) (by omega)
        have h4 : tUndo.size = 4 := rfl
        have h6 : tRedo.size = 4 := rfl
        have h5 := HLN.out
        rw [List.length_append, List.length_append, line2_len, line2_len]
        omega
      have y2 := hi.b0.x2
      have HI2 := Lib.hid hi; have HSZ := Lib.hid hsz; have HL0 := Lib.hid hl0; have HL1 := Lib.hid hl1; have HL2 := Lib.hid hl2
      clear hi hsz hl0 hl1 hl2
      go_wp2_with fail
      refine (CI.out ((s.u.l.length : Nat) : Int) (by omega) (by omega) _ HI2.out.bel).mono ?_; rintro e w2 ⟨rfl, hb⟩
      have HI3 := Lib.hid (HI2.out.on hb)
      clear hb
      have cl : Calls Tryd.prog 34 #[.slice (some ⟨w2.heap.size, 0, none⟩) 2 2, .pointer (some ⟨w.heap.size + 1, 0, none⟩)] (w2.alloc (.cells #[.string ⟨#[117, 110, 100, 111]⟩, .string (decS (s.u.l.length : Nat))] 9)) (RetLine (w.heap.size + 1) (lineL [tText, s.t] ++ marksL s.m.l ++ lineL [tUndo, decS (s.u.l.length : Nat)]) (w2.alloc (.cells #[.string ⟨#[117, 110, 100, 111]⟩, .string (decS (s.u.l.length : Nat))] 9))) := line2_any tUndo (decS (s.u.l.length : Nat)) (w.heap.size + 1) (lineL [tText, s.t] ++ marksL s.m.l) w2 9 HI3.out.bld (HSZ.out (lineL [tText, s.t] ++ marksL s.m.l) tUndo (s.u.l.length) (by omega) rfl (by first | exact HL0.out | exact HL1.out | exact HL2.out))
      have CL := Lib.hid cl
      clear cl
      go_wp2_with fail
      refine CL.out.mono ?_; rintro e w3 hl
      have HI4 := Lib.hid ((HI3.out.on (below1 w2 _)).line hl)
      obtain rfl := hl.1
      clear hl CL
      have y3 := HI4.out.b0.x3
      clear y2
      go_wp2_with fail
      refine (CI.out ((s.r.l.length : Nat) : Int) (by omega) (by omega) _ HI4.out.bel).mono ?_; rintro e w4 ⟨rfl, hb⟩
      have HI5 := Lib.hid (HI4.out.on hb)
      clear hb
      have cl : Calls Tryd.prog 34 #[.slice (some ⟨w4.heap.size, 0, none⟩) 2 2, .pointer (some ⟨w.heap.size + 1, 0, none⟩)] (w4.alloc (.cells #[.string ⟨#[114, 101, 100, 111]⟩, .string (decS (s.r.l.length : Nat))] 9)) (RetLine (w.heap.size + 1) (lineL [tText, s.t] ++ marksL s.m.l ++ lineL [tUndo, decS (s.u.l.length : Nat)] ++ lineL [tRedo, decS (s.r.l.length : Nat)]) (w4.alloc (.cells #[.string ⟨#[114, 101, 100, 111]⟩, .string (decS (s.r.l.length : Nat))] 9))) := line2_any tRedo (decS (s.r.l.length : Nat)) (w.heap.size + 1) (lineL [tText, s.t] ++ marksL s.m.l ++ lineL [tUndo, decS (s.u.l.length : Nat)]) w4 9 HI5.out.bld (HSZ.out (lineL [tText, s.t] ++ marksL s.m.l ++ lineL [tUndo, decS (s.u.l.length : Nat)]) tRedo (s.r.l.length) (by omega) rfl (by first | exact HL0.out | exact HL1.out | exact HL2.out))
      have CL := Lib.hid cl
      clear cl
      go_wp2_with fail
      refine CL.out.mono ?_; rintro e w5 hl
      have HI6 := Lib.hid ((HI5.out.on (below1 w4 _)).line hl)
      obtain rfl := hl.1
      clear hl CL
      have y4 := HI6.out.b0.x4
      clear y3
      have hor : s.o = true ∨ s.o = false := by cases s.o <;> simp
      rcases hor with ho | ho
      · rw [ho] at y4
        have y5 := HI6.out.b0.x5
        go_wp2_with fail
        refine (CI.out ((s.g.l.length : Nat) : Int) (by omega) (by omega) _ HI6.out.bel).mono ?_; rintro e w6 ⟨rfl, hb⟩
        have HI7 := Lib.hid (HI6.out.on hb)
        clear hb
        have cl : Calls Tryd.prog 34 #[.slice (some ⟨w6.heap.size, 0, none⟩) 2 2, .pointer (some ⟨w.heap.size + 1, 0, none⟩)] (w6.alloc (.cells #[.string ⟨#[111, 112, 101, 110]⟩, .string (decS (s.g.l.length : Nat))] 9)) (RetLine (w.heap.size + 1) (lineL [tText, s.t] ++ marksL s.m.l ++ lineL [tUndo, decS (s.u.l.length : Nat)] ++ lineL [tRedo, decS (s.r.l.length : Nat)] ++ lineL [tOpen, decS (s.g.l.length : Nat)]) (w6.alloc (.cells #[.string ⟨#[111, 112, 101, 110]⟩, .string (decS (s.g.l.length : Nat))] 9))) := line2_any tOpen (decS (s.g.l.length : Nat)) (w.heap.size + 1) (lineL [tText, s.t] ++ marksL s.m.l ++ lineL [tUndo, decS (s.u.l.length : Nat)] ++ lineL [tRedo, decS (s.r.l.length : Nat)]) w6 9 HI7.out.bld (HSZ.out (lineL [tText, s.t] ++ marksL s.m.l ++ lineL [tUndo, decS (s.u.l.length : Nat)] ++ lineL [tRedo, decS (s.r.l.length : Nat)]) tOpen (s.g.l.length) (by omega) rfl (by first | exact HL0.out | exact HL1.out | exact HL2.out))
        have CL := Lib.hid cl
        clear cl
        go_wp2_with fail
        refine CL.out.mono ?_; rintro e w7 hl
        have HI8 := Lib.hid ((HI7.out.on (below1 w6 _)).line hl)
        obtain rfl := hl.1
        clear hl CL
        have cs : ∀ W, Bld (w.heap.size + 1) (lineL [tText, s.t] ++ marksL s.m.l ++ lineL [tUndo, decS (s.u.l.length : Nat)] ++ lineL [tRedo, decS (s.r.l.length : Nat)] ++ lineL [tOpen, decS (s.g.l.length : Nat)]) W → Calls Tryd.prog 38 #[.pointer (some ⟨w.heap.size + 1, 0, none⟩)] W fun e w' => e = .returned (.string ⟨(lineL [tText, s.t] ++ marksL s.m.l ++ lineL [tUndo, decS (s.u.l.length : Nat)] ++ lineL [tRedo, decS (s.r.l.length : Nat)] ++ lineL [tOpen, decS (s.g.l.length : Nat)]).toArray⟩) ∧ _ := fun W hW => Any.Builder_String_any_k Tryd.lays169 Tryd.Builder_Extra_169 (w.heap.size + 1) (w.heap.size + 1) (lineL [tText, s.t] ++ marksL s.m.l ++ lineL [tUndo, decS (s.u.l.length : Nat)] ++ lineL [tRedo, decS (s.r.l.length : Nat)] ++ lineL [tOpen, decS (s.g.l.length : Nat)]) W hW (Nat.le_of_lt hW.lt)
        have hRR : (⟨(lineL [tText, s.t] ++ marksL s.m.l ++ lineL [tUndo, decS (s.u.l.length : Nat)] ++ lineL [tRedo, decS (s.r.l.length : Nat)] ++ lineL [tOpen, decS (s.g.l.length : Nat)]).toArray⟩ : ByteArray) = R := by rw [← HR.out]; unfold showL showA; rw [ho]; rfl
        rw [hRR] at cs
        have CS := Lib.hid cs
        clear cs hRR
        go_wp2_with fail
        refine (CS.out _ HI8.out.bld).mono ?_; rintro e w9 ⟨rfl, -, hb9, -⟩
        have HE := Lib.hid (HI8.out.bel.trans (hb9.mono (by omega)))
        clear hb9
        go_wp2
        go_ret
        exact ⟨rfl, HE.out⟩
      · rw [ho] at y4
        have cs : ∀ W, Bld (w.heap.size + 1) (lineL [tText, s.t] ++ marksL s.m.l ++ lineL [tUndo, decS (s.u.l.length : Nat)] ++ lineL [tRedo, decS (s.r.l.length : Nat)]) W → Calls Tryd.prog 38 #[.pointer (some ⟨w.heap.size + 1, 0, none⟩)] W fun e w' => e = .returned (.string ⟨(lineL [tText, s.t] ++ marksL s.m.l ++ lineL [tUndo, decS (s.u.l.length : Nat)] ++ lineL [tRedo, decS (s.r.l.length : Nat)]).toArray⟩) ∧ _ := fun W hW => Any.Builder_String_any_k Tryd.lays169 Tryd.Builder_Extra_169 (w.heap.size + 1) (w.heap.size + 1) (lineL [tText, s.t] ++ marksL s.m.l ++ lineL [tUndo, decS (s.u.l.length : Nat)] ++ lineL [tRedo, decS (s.r.l.length : Nat)]) W hW (Nat.le_of_lt hW.lt)
        have hRR : (⟨(lineL [tText, s.t] ++ marksL s.m.l ++ lineL [tUndo, decS (s.u.l.length : Nat)] ++ lineL [tRedo, decS (s.r.l.length : Nat)]).toArray⟩ : ByteArray) = R := by rw [← HR.out]; unfold showL showA; rw [ho]; rfl
        rw [hRR] at cs
        have CS := Lib.hid cs
        clear cs hRR
        go_wp2_with fail
        refine (CS.out _ HI6.out.bld).mono ?_; rintro e w9 ⟨rfl, -, hb9, -⟩
        have HE := Lib.hid (HI6.out.bel.trans (hb9.mono (by omega)))
        clear hb9
        go_wp2
        go_ret
        exact ⟨rfl, HE.out⟩
end Go.Proofs.YtbdfglalohgahaaDoor
