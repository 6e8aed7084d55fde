/-
  Joined: WalkIter, WalkIter2, WalkRows, WalkDev, LawWalk.
-/
import Derived.Test.YtlmihooahmgmjaaJRound
import Derived.Test.YtlmihooahmgmjaaJKnotMath
import Derived.Test.YtlmihooahmgmjaaJWeldOf
import Derived.LoopIn
import Derived.OwnWalkIn
import Derived.TacticsInMore
import Derived.StillTailTactics
import Derived.Laws.RangeAny
import Derived.Test.YtlmihooahmgmjaaJTallyAdd
import Derived.Maps.AppendAt
namespace Go.Proofs.Ytlmihooahmgmjaa
open Go.RowKit
set_option linter.unusedVariables false
set_option linter.unusedSimpArgs false
attribute [local go_sem] Oper.semAt_some

/-- A call of yield, at any depth, in a round or in none. -/
theorem yield_any {m l : Nat} {args : Array Value} {W : World} {R : Ending → World → Prop} (h : YieldAt Fence.wide m Try.prog l args W R) :
    ∃ fn tmps assign body, (Instr.yield l args).run Try.prog W = .ok (.round l fn tmps assign body) W ∧ ∀ (r : Option Nat) (m' : Nat), RoundIn (wideAt r) m' Try.prog l fn tmps assign body W R := by
  obtain ⟨fn, tmps, assign, body, h1, h2⟩ := h
  exact ⟨fn, tmps, assign, body, h1, fun r m' => ⟨h2.1, fun c cs _ => h2.2 c cs (by intro d e; cases e)⟩⟩
theorem strs_kp {T : TypeId → Prop} {lo hi B : Nat} {W W' : World} {a : Option Addr} {L : List ByteArray} (h : Strs W (fun b => lo ≤ b ∧ b < hi) a L) (hk : Kp T lo hi B W W') : Strs W' (fun b => lo ≤ b ∧ b < hi) a L :=
  h.keep fun p hp => World.cell?_of_block (hk.mid p.block hp.1 hp.2)

set_option maxRecDepth 100000 in
set_option maxHeartbeats 1000000 in
theorem wchunks_goes {T : TypeId → Prop} {L : List ByteArray} {lo b1 c : Nat} {a : Option Addr} {w : World} (h1 : Boxed w b1 28 (.slice a L.length c)) (hlo : lo ≤ b1) (hS : Strs w (fun b => lo ≤ b ∧ b < w.heap.size) a L) (hl : L.length ≤ 1000000) (hz : (wholeL L).size ≤ 1000000) :
    Goes Try.prog T lo 20 #[.pointer (some ⟨b1, 0, none⟩)] (fun x : Nat × ByteArray => #[.int .i64 x.1, .string x.2]) (YC L) 0 L.length w := by
  intro n l J Jx W hW hl0 hJ hJx hY h0
  have hb1 := (hW.block b1 h1.lt).trans h1
  have hS1 : Strs W (fun b => lo ≤ b ∧ b < w.heap.size) a L := hS.below (fun _ h => h.2) hW
  have hsz := hW.size
  obtain ⟨N, hN⟩ : ∃ N, L.length = N := ⟨_, rfl⟩
  rw [hN] at hl hb1 ⊢
  have HN := Lib.hid hN; have HZ := Lib.hid hz; have HY := Lib.hid hY
  clear hN hz hY hJ hJx h1 hS
  have c1 : W.cell? ⟨b1, 0, none⟩ = some (.slice a N c) := Boxed.cell hb1
  refine callsIn_of_wp Try.func20 rfl trivial ?_ rfl
  simp only [Try.ntmps20, List.size_toArray, List.length_cons, List.length_nil, Nat.reduceAdd, Nat.reduceSub, Array.replicate_succ, Array.replicate_zero, List.push_toArray, List.append_toArray, List.nil_append, List.cons_append]
  gi_wp2
  gi_loopw [3, 8] (fun at' i wr => ∃ k : Nat, at' = .int .i64 (offL L k : Nat) ∧ i = .int .i64 k ∧ k ≤ N ∧ J k wr ∧ W.heap.size ≤ wr.heap.size ∧ Strs wr (fun b => lo ≤ b ∧ b < w.heap.size) a L) (fun _ i _ => N - (intOf i).toNat)
  case atStart => exact ⟨0, rfl, rfl, Nat.zero_le _, h0, Nat.le_refl _, hS1⟩
  case round =>
    obtain ⟨k, rfl, rfl, hk, hJk, hsz2, hS2⟩ := hrel
    by_cases hlt : k < N
    · have hkl : k < L.length := by rw [HN.out]; exact hlt
      obtain ⟨ad, rfl, hab, q0⟩ := hS2 k hkl
      have hy := HY.out k (offL L k, L[k]) (k + 1) wr ⟨hkl, rfl, rfl⟩ hsz2 hJk
      have hs := offL_succ hkl
      have hle := offL_le hkl
      have HZ1 := HZ.out
      obtain ⟨x, hx⟩ : ∃ x, L[k] = x := ⟨_, rfl⟩
      obtain ⟨o, ho⟩ : ∃ o, offL L k = o := ⟨_, rfl⟩
      rw [hx] at q0 hy hs hle
      rw [ho] at hy hs hle ⊢
      have b5 : o + x.size ≤ 1000000 := by omega
      obtain ⟨fn, tmps, assign, body, hyr, hR⟩ := yield_any hy
      dsimp only at hyr
      have HR := Lib.hid hR; have HS := Lib.hid hs; have HS2 := Lib.hid hS2
      have b0 : (0 : Int) ≤ (k : Int) := by omega
      have b1' : (k : Int) < (N : Int) := by omega
      clear hy hR hs hle hx ho HZ1 hab hS2 hJk
      gi_wp2_with fail
      refine ⟨fun e => (by cases e), (HR.out none _).mono ?_⟩
      rintro e W2 (⟨rfl, hJ2, hk2⟩ | ⟨rfl, hx2, hk2⟩)
      · have HJ2 := Lib.hid hJ2; have HK2 := Lib.hid hk2
        clear hJ2 hk2 HR
        gi_wp2
        go_roundw
        case rel => exact ⟨k + 1, by rw [HS.out]; go_num, by go_num, by omega, HJ2.out, Nat.le_trans hsz2 HK2.out.size, strs_kp HS2.out HK2.out⟩
        case measure => simp [intOf]; omega
      · gi_wp2
        refine bodyPost_ret (results_none rfl _ _ _) rfl ?_
        exact ⟨⟨_, rfl⟩, .inr hx2⟩
    · obtain rfl : k = N := by omega
      gi_wp2
      go_end0
      exact ⟨⟨_, rfl⟩, .inl hJk⟩
end Go.Proofs.Ytlmihooahmgmjaa
namespace Go.Proofs.Ytlmihooahmgmjaa
open Go.RowKit
set_option linter.unusedVariables false
set_option linter.unusedSimpArgs false
attribute [local go_sem] Oper.semAt_some

theorem next_at {P : Program} {w : World} {s : ByteArray} {pos r : Nat} (h : w.heap[r]? = some (.stringIter s pos)) (ty : TypeId) (hp : pos < s.size) :
    (Instr.next (.pointer (some ⟨r, 0, none⟩)) true ty).run P w = .ok (.tuple #[.bool true, .int .i64 pos, .int .i32 (Utf8.decode s pos).1]) (w.putObj r (.stringIter s (pos + (Utf8.decode s pos).2))) := by
  simp only [Instr.next, getObj, setObj, Sem.run_bind, Sem.run, h, Result.andThen, hp, if_true]
  simp [goInt, World.putObj]
theorem next_end {P : Program} {w : World} {s : ByteArray} {pos r : Nat} (h : w.heap[r]? = some (.stringIter s pos)) (ty : TypeId) (hp : ¬ pos < s.size) :
    (Instr.next (.pointer (some ⟨r, 0, none⟩)) true ty).run P w = .ok (.tuple #[.bool false]) w := by
  simp [Instr.next, getObj, Sem.run, h, hp]
theorem Kp.putNew {T : TypeId → Prop} {lo hi B : Nat} {X Y : World} (h : Kp T lo hi B X Y) {l : Nat} (hl : X.heap.size ≤ l) (hhi : hi ≤ l) (o' : Obj) : Kp T lo hi B X (Y.putObj l o') :=
  ⟨by rw [World.putObj_size]; exact h.size, fun b h1 h2 => (World.putObj_heap_other (by omega)).trans (h.mid b h1 h2), fun b o hb ho ht => by
    have := (Array.getElem?_eq_some_iff.1 ho).1
    rw [World.putObj_heap_other (by omega)]; exact h.far b o hb ho ht⟩
theorem leaves_mark {P : Program} {n : Nat} {fn : Func} {tmps : Array Value} {R : Ending → World → Prop} {D : Nat} {w : World} {v : Value} (hK : w.heap[D]? = some (.deferred (some []))) (hr : ∀ w', (results fn tmps).run P w' = .ok v w') (h : R (.returned v) (w.putObj D (.deferred none))) :
    LeavesInM Fence.wide n P fn tmps R [{ target := .collected D, args := #[] }] .returning w :=
  ⟨by simp, .inl ⟨_, _, rfl, run_takeDeferred hK, _, hr _, h⟩⟩

/-- Between two chunks. -/
def RuJ (l W0 b2 : Nat) (L : List ByteArray) (J : Nat → World → Prop) (k : Nat) (A : World) : Prop :=
  J (offL L k) A ∧ Boxed A W0 71 (.func (.yield l) #[] #[]) ∧ Boxed A b2 3 (.int .i64 0)

set_option maxRecDepth 100000 in
set_option maxHeartbeats 1600000 in
theorem wrunes_goes {T : TypeId → Prop} (hT : ¬ T 71) {L : List ByteArray} {s : ByteArray} {lo b0 b1 b2 : Nat} {w : World} (hL : wholeL L = s) (hf : ∀ x ∈ L, fitsP x) (hz : s.size ≤ 1000000)
    (g : Goes Try.prog T lo 20 #[.pointer (some ⟨b0, 0, none⟩)] (fun x : Nat × ByteArray => #[.int .i64 x.1, .string x.2]) (YC L) 0 L.length w)
    (h1 : Boxed w b1 37 (.func (.func 20) #[] #[.pointer (some ⟨b0, 0, none⟩)])) (h2 : Boxed w b2 3 (.int .i64 0)) (l1 : lo ≤ b1) (l2 : lo ≤ b2) :
    Goes Try.prog T lo 41 #[.pointer (some ⟨b1, 0, none⟩), .pointer (some ⟨b2, 0, none⟩)] (fun x : Nat × Nat => #[.int .i64 x.1, .int .i32 x.2]) (YR s) 0 s.size w := by
  intro n l J Jx W hW hl0 hJ hJx hY h0
  have q1 := (hW.block b1 h1.lt).trans h1
  have q2 : Boxed W b2 3 (.int .i64 0) := (hW.block b2 h2.lt).trans h2
  have c1 : (W.alloc (.cells #[.func (.yield l) #[] #[]] 71)).cell? ⟨b1, 0, none⟩ = some (.func (.func 20) #[] #[.pointer (some ⟨b0, 0, none⟩)]) := Boxed.cell (Boxed.alloc q1 _)
  have hsz := hW.size
  have e2 := h2.lt
  have h3 := Boxed.new W 71 (.func (.yield l) #[] #[])
  have q3 := q2.alloc (.cells #[.func (.yield l) #[] #[]] 71)
  have j0 : J 0 (W.alloc (.cells #[.func (.yield l) #[] #[]] 71)) := hJ _ _ _ h0 (Nat.le_refl _) ((Turns.refl _ _ _).alloc (Nat.le_refl _) _)
  have hb0 : Below w.heap.size w (W.alloc (.cells #[.func (.yield l) #[] #[]] 71)) := hW.alloc hsz _
  refine callsIn_of_wp_marks Try.func41 rfl trivial ?_ rfl
  simp only [Try.ntmps41, List.size_toArray, List.length_cons, List.length_nil, Nat.reduceAdd, Nat.reduceSub, Array.replicate_succ, Array.replicate_zero, List.push_toArray, List.append_toArray, List.nil_append, List.cons_append]
  gi_wp2
  obtain ⟨W0, hW0⟩ : ∃ W0, W.alloc (.cells #[.func (.yield l) #[] #[]] 71) = W0 := ⟨_, rfl⟩
  have hs0 : W0.heap.size = W.heap.size + 1 := by rw [← hW0]; simp
  rw [hW0] at h3 q3 j0 hb0 ⊢
  clear c1 q1 q2
  refine rangeFunc_goes (gf := 20) (lb := #[.pointer (some ⟨b0, 0, none⟩)]) rfl (enters_of Try.func20 (by kernel_rfl) rfl) g hb0 (fun _ => rfl)
    (RuJ l W.heap.size b2 L J) (fun c A => c = .ret ∧ Jx A)
    (fun k A B hs hA hT => ⟨hJ _ _ _ hs.1 (by omega) (hT.mono (by omega)), hT.box hs.2.1 (by omega), hT.box hs.2.2 (by omega)⟩)
    (fun c A B hs hA hT => ⟨hs.1, hJx _ _ hs.2 (by omega) (hT.mono (by omega))⟩) ⟨j0, h3, q3⟩
    (fun x => { tmps := #[.func (.yield l) #[] #[], .pointer (some ⟨b1, 0, none⟩), .pointer (some ⟨b2, 0, none⟩), .pointer (some ⟨W.heap.size, 0, none⟩), .int .i64 x.1, .string x.2, undef, undef, .func (.func 20) #[] #[.pointer (some ⟨b0, 0, none⟩)], .int .i64 x.1, .string x.2, undef, undef, undef, undef, undef, undef, undef, undef, undef, undef, undef, undef, undef, undef, undef, undef, undef, undef, undef, undef], defers := [] }) ?assign ?body ?done ?stop
  case assign =>
    intro l x W K hK
    gi_wp2
    exact hK
  case body =>
    rintro l' k x k' W2 hWs ⟨hk, rfl, rfl⟩ ⟨jk, p3, p2⟩
    have hvl := (hf _ (List.getElem_mem hk)).2.2
    have HR := Lib.hid (fun i hi hv => rune_chunk hL (i := i) hk hi hv)
    have HO := Lib.hid (offL_succ hk)
    have hle := offL_le hk
    rw [hL] at hle
    dsimp only
    obtain ⟨c, hc⟩ : ∃ c, L[k] = c := ⟨_, rfl⟩
    rw [hc] at hvl HR HO hle ⊢
    obtain ⟨o, ho⟩ : ∃ o, offL L k = o := ⟨_, rfl⟩
    rw [ho] at jk HR HO hle ⊢
    have hz2 : o + c.size ≤ 1000000 := by omega
    clear hc ho hle h0 j0 hW0 h3 q3 hb0 g hW h1 h2
    gi_wp2
    gi_loopw [6] (fun _ wr => ∃ i : Nat, i ≤ c.size ∧ vld (c.data.toList.drop i) ∧ J (o + i) wr ∧ wr.heap[W2.heap.size]? = some (.stringIter c i) ∧ Kp T lo w.heap.size W0.heap.size W2 wr ∧ Boxed wr W.heap.size 71 (.func (.yield l) #[] #[]) ∧ Boxed wr b2 3 (.int .i64 0)) (fun _ wr => c.size - wr.iterPos W2.heap.size)
    case atStart =>
      refine ⟨0, Nat.zero_le _, by simpa using hvl, ?_, World.alloc_heap_new _ _, (Kp.refl _ _ _ _ _).alloc (by omega) _, p3.alloc _, p2.alloc _⟩
      exact hJ _ _ _ jk (by omega) ((Turns.refl _ _ _).alloc (by omega) _)
    case round =>
      obtain ⟨i, hi, hv, ji, hit, hkp, p3, p2⟩ := hrel
      by_cases hlt : i < c.size
      · have hnx0 := fun ty => next_at (P := Try.prog) hit ty hlt
        obtain ⟨r1, r2, r3, r4⟩ := HR.out i hlt hv
        obtain ⟨d, hd⟩ : ∃ d, Utf8.decode c i = d := ⟨_, rfl⟩
        obtain ⟨c1, n1⟩ := d
        rw [hd] at hnx0 r1 r2 r3 r4
        dsimp only at hnx0 r1 r2 r3 r4
        have hit3 : (wr.putObj W2.heap.size (.stringIter c (i + n1))).heap[W2.heap.size]? = some (.stringIter c (i + n1)) := World.putObj_heap_same (Array.getElem?_eq_some_iff.1 hit).1
        have e3 := p3.lt
        have p33 : Boxed (wr.putObj W2.heap.size (.stringIter c (i + n1))) W.heap.size 71 (.func (.yield l) #[] #[]) := (World.putObj_heap_other (by omega)).trans p3
        have p23 : Boxed (wr.putObj W2.heap.size (.stringIter c (i + n1))) b2 3 (.int .i64 0) := (World.putObj_heap_other (by omega)).trans p2
        have hk3 := hkp.putNew (l := W2.heap.size) (Nat.le_refl _) (by omega) (.stringIter c (i + n1))
        have hz3 := hkp.size
        have j3 := hJ _ _ _ ji (by omega) ((Turns.refl T W.heap.size wr).put hit (by omega) rfl (.stringIter c (i + n1)))
        have hz4 : W0.heap.size ≤ (wr.putObj W2.heap.size (.stringIter c (i + n1))).heap.size := by rw [World.putObj_size]; omega
        have hip : wr.iterPos W2.heap.size = i := by simp [World.iterPos, hit]
        obtain ⟨W3, hW3⟩ : ∃ W3, wr.putObj W2.heap.size (.stringIter c (i + n1)) = W3 := ⟨_, rfl⟩
        rw [hW3] at hnx0 hit3 p33 p23 hk3 j3 hz4
        have hy := hY _ _ _ _ r1 (by omega) j3
        obtain ⟨fn, tmps, assign, body, hyr, hR⟩ := yield_any hy
        dsimp only at hyr
        simp only [Int.natCast_add] at hyr
        have k3 := p33.cell
        have k2 := p23.cell
        have HR3 := Lib.hid hR; have HK := Lib.hid hk3; have HP3 := Lib.hid p33; have HP2 := Lib.hid p23; have HI := Lib.hid hit3; have HIP := Lib.hid hip
        have t1 : decide ((0 : Int) ≤ (o : Int) + (i : Int)) = true := decide_eq_true (by omega)
        have b9 : o + i ≤ 1000000 := by omega
        clear hy hR hk3 j3 r1 p33 p23 hit3 hd hvl ji hkp p3 p2 hit hip jk hJ hJx hY
        gi_wp2_with fail
        refine ⟨fun e => (by cases e), (HR3.out (some l') _).mono ?_⟩
        rintro e W4 (⟨rfl, hJ4, hk4⟩ | ⟨rfl, hx4, hk4⟩)
        · have HJ4 := Lib.hid hJ4; have HK4 := Lib.hid hk4
          clear hJ4 hk4 HR3
          gi_wp2
          go_roundw
          case rel =>
            exact ⟨i + n1, r3, r4, HJ4.out, HK4.out.far _ _ (by omega) HI.out (fun cs t z e => by cases e), HK.out.trans (HK4.out.later (by omega)), HK4.out.box HP3.out (Nat.le_refl _) hT, HK4.out.boxMid HP2.out l2 e2⟩
          case measure =>
            have h4 : W4.iterPos W2.heap.size = i + n1 := by
              have := HK4.out.far _ _ (by omega) HI.out (fun cs t z e => by cases e)
              simp [World.iterPos, this]
            rw [h4, HIP.out]; omega
        · have HX4 := Lib.hid hx4; have HK4 := Lib.hid (HK.out.trans (hk4.later (by omega)))
          clear hx4 hk4 HR3
          gi_wp2
          exact ⟨HK4.out, rfl, HX4.out⟩
      · have hnx0 := fun ty => next_end (P := Try.prog) hit ty hlt
        obtain rfl : i = c.size := by omega
        have ji' := ji
        rw [← HO.out] at ji'
        gi_wp2
        exact ⟨hkp, ji', p3, p2⟩
  case done =>
    rintro D' W3 hD hz3 hJ3 hK
    have j3 := hJ3.1
    rw [offL_all, hL] at j3
    gi_wp2
    exact leaves_mark hK (fun w' => results_none rfl _ _ _) ⟨⟨_, rfl⟩, .inl (hJ _ _ _ j3 (by omega) ((Turns.refl T _ W3).put hK (by omega) rfl _))⟩
  case stop =>
    rintro D' c W3 hD hz3 ⟨rfl, hx3⟩ hK
    gi_wp2
    exact leaves_mark hK (fun w' => results_none rfl _ _ _) ⟨⟨_, rfl⟩, .inr (hJx _ _ hx3 (by omega) ((Turns.refl T _ W3).put hK (by omega) rfl _))⟩
end Go.Proofs.Ytlmihooahmgmjaa
namespace Go.Proofs.Ytlmihooahmgmjaa
open Go.RowKit
set_option linter.unusedVariables false
set_option linter.unusedSimpArgs false
attribute [local go_sem] Oper.semAt_some

/-- Between two runes. -/
def RoJ (l W0 b2 : Nat) (s : ByteArray) (J : Nat → World → Prop) (p : Nat) (A : World) : Prop :=
  ∃ i b : Nat, J i A ∧ p ≤ s.size ∧ lines (s.data.toList.take p) = i ∧ StartP s.data.toList i b ∧ Boxed A W0 50 (.func (.yield l) #[] #[]) ∧ Boxed A (W0 + 1) 3 (.int .i64 i) ∧ Boxed A (W0 + 1 + 1) 3 (.int .i64 b) ∧ Boxed A b2 9 (.string s)

set_option maxRecDepth 100000 in
set_option maxHeartbeats 1600000 in
theorem wrows_goes {T : TypeId → Prop} (hT : ¬ T 50) (hTi : ¬ T 3) {s : ByteArray} {lo c1 c2 b1 b2 : Nat} {w : World} (hz : s.size ≤ 1000000)
    (g : Goes Try.prog T lo 41 #[.pointer (some ⟨c1, 0, none⟩), .pointer (some ⟨c2, 0, none⟩)] (fun x : Nat × Nat => #[.int .i64 x.1, .int .i32 x.2]) (YR s) 0 s.size w)
    (h1 : Boxed w b1 59 (.func (.func 41) #[] #[.pointer (some ⟨c1, 0, none⟩), .pointer (some ⟨c2, 0, none⟩)])) (h2 : Boxed w b2 9 (.string s)) (l2 : lo ≤ b2) :
    Goes Try.prog T lo 30 #[.pointer (some ⟨b1, 0, none⟩), .pointer (some ⟨b2, 0, none⟩)] (fun x : Nat × ByteArray => #[.int .i64 x.1, .string x.2]) (YW s) 0 (lines s.data.toList + 1) w := by
  have hmix : Try.prog.follows .mixedOrders = true := by kernel_rfl
  intro n l J Jx W hW hl0 hJ hJx hY h0
  have hsz := hW.size
  have e2 := h2.lt
  obtain ⟨W0, hW0⟩ : ∃ W0, ((W.alloc (.cells #[.func (.yield l) #[] #[]] 50)).alloc (.cells #[.int .i64 0] 3)).alloc (.cells #[.int .i64 0] 3) = W0 := ⟨_, rfl⟩
  have hs0 : W0.heap.size = W.heap.size + 3 := by rw [← hW0]; simp
  have hb : Below W.heap.size W W0 := by rw [← hW0]; exact (((Below.refl _ W).alloc (Nat.le_refl _) _).alloc (by simp) _).alloc (by simp; omega) _
  have hb0 : Below w.heap.size w W0 := hW.trans (hb.mono hsz)
  have q1 : Boxed W0 b1 59 (.func (.func 41) #[] #[.pointer (some ⟨c1, 0, none⟩), .pointer (some ⟨c2, 0, none⟩)]) := (hb0.block b1 h1.lt).trans h1
  have q2 : Boxed W0 b2 9 (.string s) := (hb0.block b2 h2.lt).trans h2
  have p3 : Boxed W0 W.heap.size 50 (.func (.yield l) #[] #[]) := by rw [← hW0]; exact ((Boxed.new W _ _).alloc _).alloc _
  have p4 : Boxed W0 (W.heap.size + 1) 3 (.int .i64 0) := by
    have := Boxed.new (W.alloc (.cells #[.func (.yield l) #[] #[]] 50)) 3 (.int .i64 0)
    rw [World.size_alloc] at this
    rw [← hW0]; exact this.alloc _
  have p5 : Boxed W0 (W.heap.size + 1 + 1) 3 (.int .i64 0) := by
    have := Boxed.new ((W.alloc (.cells #[.func (.yield l) #[] #[]] 50)).alloc (.cells #[.int .i64 0] 3)) 3 (.int .i64 0)
    rw [World.size_alloc, World.size_alloc] at this
    rw [← hW0]; exact this
  have j0 : J 0 W0 := hJ _ _ _ h0 (Nat.le_refl _) (.of_below hb (Nat.le_refl _))
  have d1 : (((W.alloc (.cells #[.func (.yield l) #[] #[]] 50)).alloc (.cells #[.int .i64 0] 3)).alloc (.cells #[.int .i64 0] 3)).cell? ⟨b1, 0, none⟩ = some (.func (.func 41) #[] #[.pointer (some ⟨c1, 0, none⟩), .pointer (some ⟨c2, 0, none⟩)]) := by rw [hW0]; exact q1.cell
  have HW0 := Lib.hid hW0
  clear hW0
  refine callsIn_of_wp_marks Try.func30 rfl trivial ?_ rfl
  simp only [Try.ntmps30, List.size_toArray, List.length_cons, List.length_nil, Nat.reduceAdd, Nat.reduceSub, Array.replicate_succ, Array.replicate_zero, List.push_toArray, List.append_toArray, List.nil_append, List.cons_append]
  gi_wp2
  rw [HW0.out]
  clear d1 hb q1 hW h0 HW0
  refine rangeFunc_goes (gf := 41) (lb := #[.pointer (some ⟨c1, 0, none⟩), .pointer (some ⟨c2, 0, none⟩)]) rfl (enters_of Try.func41 (by kernel_rfl) rfl) g hb0 (fun _ => rfl)
    (RoJ l W.heap.size b2 s J) (fun c A => c = .ret ∧ Jx A)
    (fun k A B ⟨i, b, x1, x2, x3, x4, x5, x6, x7, x8⟩ hA hT => ⟨i, b, hJ _ _ _ x1 (by omega) (hT.mono (by omega)), x2, x3, x4, hT.box x5 (by omega), hT.box x6 (by omega), hT.box x7 (by omega), hT.box x8 (by omega)⟩)
    (fun c A B hs hA hT => ⟨hs.1, hJx _ _ hs.2 (by omega) (hT.mono (by omega))⟩) ⟨0, 0, j0, Nat.zero_le _, rfl, .inl ⟨rfl, rfl⟩, p3, p4, p5, q2⟩
    (fun x => { tmps := #[.func (.yield l) #[] #[], .pointer (some ⟨b1, 0, none⟩), .pointer (some ⟨b2, 0, none⟩), .pointer (some ⟨W.heap.size, 0, none⟩), .pointer (some ⟨W.heap.size + 1, 0, none⟩), .pointer (some ⟨W.heap.size + 1 + 1, 0, none⟩), .int .i64 x.1, .int .i32 x.2, .func (.func 41) #[] #[.pointer (some ⟨c1, 0, none⟩), .pointer (some ⟨c2, 0, none⟩)], .int .i64 x.1, .int .i32 x.2, undef, undef, undef, undef, undef, undef, undef, undef, undef, undef, undef, undef, undef, undef, undef, undef, undef, undef, undef, undef], defers := [] }) ?assign ?body ?done ?stop
  case assign =>
    intro l x W K hK
    gi_wp2
    exact hK
  case body =>
    rintro l' p ⟨q, c⟩ p' W2 hWs hyr ⟨i, b, ji, hp, hi, hst, p3, p4, p5, q2⟩
    have hpq : q = p := by have := hyr.2.1; exact congrArg Prod.fst this
    subst hpq
    have hbp : b ≤ q := hst.le_iff.2 (by omega)
    by_cases hc : c = 10
    · obtain ⟨g1, g2, g3, g4, g5⟩ := rune_ten hyr hc
      subst hc
      rw [hi] at g3 g4 g5
      have hy := hY _ _ _ W2.drew (row_yields hst g5) (by show W.heap.size ≤ W2.heap.size; omega) (hJ _ _ _ ji (by omega) (Turns.refl _ _ _).drew)
      obtain ⟨fn, tmps, assign, body, hyr, hR⟩ := yield_any hy
      dsimp only at hyr
      have k3 := (boxed_drew p3).cell
      have k4 := (boxed_drew p4).cell
      have k5 := (boxed_drew p5).cell
      have k2 := (boxed_drew q2).cell
      have b1' : (b : Int) ≤ (q : Int) := by omega
      have b2' : (q : Int) ≤ (s.size : Int) := by omega
      have b3' : (0 : Int) ≤ (b : Int) := by omega
      have r1 : ((10 : Int) != 10) = false := rfl
      have HR := Lib.hid hR; have G2 := Lib.hid g2; have G3 := Lib.hid g3; have G4 := Lib.hid g4
      clear hy hR g2 g3 g4 g5
      gi_wp2_with fail
      refine region_round_goes 6 hmix (by kernel_rfl) (by kernel_rfl) ?_
      simp only [List.take_succ_cons, List.take_zero, List.drop_succ_cons, List.drop_zero]
      repeat still_step
      refine wpStill_nil ?_
      have hz3 : W2.drew.heap.size = W2.heap.size := rfl
      have hk3 : Kp T lo w.heap.size W0.heap.size W2 W2.drew := (Kp.refl _ _ _ _ _).drew
      have p33 := boxed_drew p3
      have p34 := boxed_drew p4
      have p35 := boxed_drew p5
      have q32 := boxed_drew q2
      obtain ⟨W3, hW3⟩ : ∃ W3, W2.drew = W3 := ⟨_, rfl⟩
      rw [hW3] at hyr HR hk3 p33 p34 p35 q32 hz3 ⊢
      have HK := Lib.hid hk3; have P3 := Lib.hid p33; have P4 := Lib.hid p34; have P5 := Lib.hid p35; have P2 := Lib.hid q32
      clear k2 k3 k4 k5 p3 p4 p5 q2 p33 p34 p35 q32 hW3 hk3
      gi_wp2_with fail
      refine ⟨fun e => (by cases e), (HR.out (some l') _).mono ?_⟩
      rintro e W4 (⟨rfl, hJ4, hk4⟩ | ⟨rfl, hx4, hk4⟩)
      · have p3 := hk4.box P3.out (Nat.le_refl _) hT
        have p4 := hk4.box P4.out (by omega) hTi
        have p5 := hk4.box P5.out (by omega) hTi
        have p2 := hk4.boxMid P2.out l2 e2
        have hz4 := hk4.size
        have kk := HK.out.trans (hk4.later (by omega))
        have n1 : W.heap.size + 1 ≠ W.heap.size + 1 + 1 := by omega
        have s4 := p4.set (.int .i64 ((i + 1 : Nat) : Int))
        have s5 := (p5.other (Ne.symm n1) (.int .i64 ((i + 1 : Nat) : Int)))
        have s55 := s5.set (.int .i64 ((q + 1 : Nat) : Int))
        have s44 := s4.other n1 (.int .i64 ((q + 1 : Nat) : Int))
        have s33 := (p3.other (show W.heap.size ≠ W.heap.size + 1 by omega) (.int .i64 ((i + 1 : Nat) : Int))).other (show W.heap.size ≠ W.heap.size + 1 + 1 by omega) (.int .i64 ((q + 1 : Nat) : Int))
        have s22 := (p2.other (show b2 ≠ W.heap.size + 1 by omega) (.int .i64 ((i + 1 : Nat) : Int))).other (show b2 ≠ W.heap.size + 1 + 1 by omega) (.int .i64 ((q + 1 : Nat) : Int))
        have j5 := hJ _ _ _ hJ4 (by omega) (((Turns.refl T W.heap.size W4).set p4 (by omega) hTi (.int .i64 ((i + 1 : Nat) : Int))).set s5 (by omega) hTi (.int .i64 ((q + 1 : Nat) : Int)))
        have k5 := (kk.set (b := W.heap.size + 1) (by omega) (by omega) (.int .i64 ((i + 1 : Nat) : Int))).set (b := W.heap.size + 1 + 1) (by omega) (by omega) (.int .i64 ((q + 1 : Nat) : Int))
        have k4 := p4.cell
        have f4 := p4.frozen
        have k5' := p5.cell
        have f5 := s5.frozen
        have f55 := p5.frozen
        have J5 := Lib.hid j5; have K5 := Lib.hid k5
        have S := Lib.hid (And.intro s33 (And.intro s44 (And.intro s55 s22)))
        clear j5 k5 s33 s44 s55 s22 s4 s5 p3 p4 p5 p2 kk hJ4 hk4 HR
        have b8 : (i : Int) + 1 ≤ 1000001 := by have := lines_le (s.data.toList.take q); rw [hi, List.length_take] at this; omega
        gi_wp2
        rw [show ((i : Int) + 1) = ((i + 1 : Nat) : Int) from rfl, show ((q : Int) + 1) = ((q + 1 : Nat) : Int) from rfl]
        obtain ⟨s33, s44, s55, s22⟩ := S.out
        exact ⟨K5.out, i + 1, q + 1, J5.out, G2.out, G3.out, G4.out, s33, s44, s55, s22⟩
      · have HX4 := Lib.hid hx4; have HK4 := Lib.hid (HK.out.trans (hk4.later (by omega)))
        clear hx4 hk4 HR
        gi_wp2
        exact ⟨HK4.out, rfl, HX4.out⟩
    · obtain ⟨g1, g2⟩ := rune_not_ten hyr hc
      have r1 : ((c : Int) != 10) = true := by simp; omega
      gi_wp2
      exact ⟨Kp.refl _ _ _ _ _, i, b, ji, g1, by rw [g2]; exact hi, hst, p3, p4, p5, q2⟩
  case done =>
    rintro D' W3 hD hz3 ⟨i, b, ji, hp, hi, hst, p3, p4, p5, q2⟩ hK
    have hil : i = lines s.data.toList := by rw [← hi, List.take_of_length_le (by simp)]
    have hbp : b ≤ s.size := by have := hst.lines.1; simpa using this
    have g5 := upto_end s
    rw [← hil] at g5
    have hy := hY _ _ _ W3.drew (row_yields hst g5) (by show W.heap.size ≤ W3.heap.size; omega) (hJ _ _ _ ji (by omega) (Turns.refl _ _ _).drew)
    rw [hil] at hy ji p4
    obtain ⟨fn, tmps, assign, body, hyr, hR⟩ := yield_any hy
    dsimp only at hyr
    rw [hil] at hst g5
    have k3 := (boxed_drew p3).cell
    have k4 := (boxed_drew p4).cell
    have k5 := (boxed_drew p5).cell
    have k2 := (boxed_drew q2).cell
    have hK3 : W3.drew.heap[D']? = some (.deferred (some [])) := hK
    have b1' : (b : Int) ≤ (s.size : Int) := by omega
    have b3' : (0 : Int) ≤ (b : Int) := by omega
    obtain ⟨N, hN⟩ : ∃ N, lines s.data.toList = N := ⟨_, rfl⟩
    rw [hN] at hyr hR k4
    have HR := Lib.hid hR; have HN := Lib.hid hN
    clear hy hR g5 ji hi hp hil hN hst p3 p4 p5 q2
    gi_wp2_with fail
    refine region_wide_goes 5 hmix (by kernel_rfl) (by kernel_rfl) ?_
    simp only [List.take_succ_cons, List.take_zero, List.drop_succ_cons, List.drop_zero]
    repeat still_step
    refine wpStill_nil ?_
    obtain ⟨W4, hW4⟩ : ∃ W4, W3.drew = W4 := ⟨_, rfl⟩
    have hz4 : W4.heap.size = W3.heap.size := by rw [← hW4]; rfl
    rw [hW4] at hyr HR hK3 ⊢
    have HK3 := Lib.hid hK3
    clear k2 k3 k4 k5 hW4 hK3
    gi_wp2_with fail
    refine ⟨fun e => (by cases e), (HR.out none _).mono ?_⟩
    rintro e W5 (⟨rfl, hJ5, hk5⟩ | ⟨rfl, hx5, hk5⟩)
    · have hK5 := hk5.far _ _ (by omega) HK3.out (fun cs t z e => by cases e)
      have hz5 := hk5.size
      rw [← HN.out] at hJ5
      gi_wp2
      exact leaves_mark hK5 (fun w' => results_none rfl _ _ _) ⟨⟨_, rfl⟩, .inl (hJ _ _ _ hJ5 (by omega) ((Turns.refl T _ W5).put hK5 (by omega) rfl _))⟩
    · have hK5 := hk5.far _ _ (by omega) HK3.out (fun cs t z e => by cases e)
      have hz5 := hk5.size
      gi_wp2
      exact leaves_mark hK5 (fun w' => results_none rfl _ _ _) ⟨⟨_, rfl⟩, .inr (hJx _ _ hx5 (by omega) ((Turns.refl T _ W5).put hK5 (by omega) rfl _))⟩
  case stop =>
    rintro D' c W3 hD hz3 ⟨rfl, hx3⟩ hK
    gi_wp2
    exact leaves_mark hK (fun w' => results_none rfl _ _ _) ⟨⟨_, rfl⟩, .inr (hJx _ _ hx3 (by omega) ((Turns.refl T _ W3).put hK (by omega) rfl _))⟩
end Go.Proofs.Ytlmihooahmgmjaa
namespace Go.Proofs.Ytlmihooahmgmjaa
open Go.RowKit
set_option linter.unusedVariables false
set_option linter.unusedSimpArgs false

/-- The chunks in a row of the call's own. -/
theorem Text.rows {w : World} {p : Option Addr} {L : List ByteArray} {s : ByteArray} (x : Text w p L s) : ∀ W, Below w.heap.size w W → Calls Try.prog 19 #[.pointer p] W fun e w' => ∃ a c, e = .returned (.slice a L.length c) ∧ Strs w' (fun b => W.heap.size ≤ b ∧ b < w'.heap.size) a L ∧ Below W.heap.size W w' := fun W hW => by
  have hl := x.len
  rcases x.cases with ⟨rfl, rfl⟩ | ⟨b, h, rfl, k, -, hh⟩
  · exact (chunks_bare (.inl ⟨rfl, rfl⟩)).mono fun e w' ⟨he, hb⟩ => ⟨none, 0, he, fun k hk => absurd hk (by simp), hb⟩
  · refine (chunks_any (k.on hW) (by omega) (by omega)).mono ?_
    rintro e w' ⟨v', rfl, ho, hb⟩
    obtain ⟨a, c, rfl, hs⟩ := own_strs ho
    exact ⟨a, c, rfl, hs, hb⟩

/-- What Chunks answers. -/
def SeqC (w : World) (L : List ByteArray) (e : Ending) (w' : World) : Prop :=
  ∃ b0, e = .returned (.func (.func 20) #[] #[.pointer (some ⟨b0, 0, none⟩)]) ∧ (∀ T, Goes Try.prog T w.heap.size 20 #[.pointer (some ⟨b0, 0, none⟩)] (fun x : Nat × ByteArray => #[.int .i64 x.1, .string x.2]) (YC L) 0 L.length w') ∧ Below w.heap.size w w'
set_option maxRecDepth 100000 in
set_option maxHeartbeats 800000 in
theorem wk_chunks {w : World} {r p : Option Addr} {L : List ByteArray} {s : ByteArray} (h : RopeW w r p L s) : Calls Try.prog 11 #[.pointer r] w (SeqC w L) := by
  have hl := h.x.len
  have hz := h.x.small
  have ht := h.x.txt
  have cr := ro_root h
  have cc := h.x.rows
  have CR := Lib.hid cr; have CC := Lib.hid cc
  clear cr cc h
  obtain ⟨N, hN⟩ : ∃ N, L.length = N := ⟨_, rfl⟩
  rw [hN] at CC
  have HN := Lib.hid hN
  clear hN
  go_enter Try.func11, Try.ntmps11
  go_wp2_with fail
  refine CR.out.mono ?_; rintro e w1 ⟨rfl, hb1⟩
  have HB1 := Lib.hid hb1
  clear hb1
  go_wp2_with fail
  refine (CC.out _ HB1.out).mono ?_; rintro e w2 ⟨a, c, rfl, hs, hb2⟩
  have HS := Lib.hid hs; have HB2 := Lib.hid hb2
  clear hs hb2
  go_wp2
  go_ret
  have hz1 := HB1.out.size
  have hz2 := HB2.out.size
  have hB := (HB1.out.trans (HB2.out.mono hz1)).alloc (show w.heap.size ≤ w2.heap.size by omega) (.cells #[.slice a N c] 28)
  refine ⟨_, rfl, fun T => ?_, hB⟩
  have hbx := Boxed.new w2 28 (.slice a N c)
  rw [← HN.out] at hbx ⊢
  refine wchunks_goes hbx (by omega) ?_ (by omega) (by rw [ht]; omega)
  exact (HS.out.below (fun _ h => h.2) ((Below.refl _ w2).alloc (Nat.le_refl _) _)).weak fun b hb => ⟨by omega, by simp; omega⟩

/-- What Runes answers. -/
def SeqR (w : World) (s : ByteArray) (e : Ending) (w' : World) : Prop :=
  ∃ b1 b2, e = .returned (.func (.func 41) #[] #[.pointer (some ⟨b1, 0, none⟩), .pointer (some ⟨b2, 0, none⟩)]) ∧ (∀ T, ¬ T 71 → Goes Try.prog T w.heap.size 41 #[.pointer (some ⟨b1, 0, none⟩), .pointer (some ⟨b2, 0, none⟩)] (fun x : Nat × Nat => #[.int .i64 x.1, .int .i32 x.2]) (YR s) 0 s.size w') ∧ Below w.heap.size w w'
set_option maxRecDepth 100000 in
set_option maxHeartbeats 800000 in
theorem wk_runes {w : World} {r p : Option Addr} {L : List ByteArray} {s : ByteArray} (h : RopeW w r p L s) : Calls Try.prog 29 #[.pointer r, .int .i64 0] w (SeqR w s) := by
  have hz := h.x.small
  have ht := h.x.txt
  have hf := tight_fits h.x.tight
  have hb0 : Below w.heap.size w (w.alloc (.cells #[.int .i64 0] 3)) := (Below.refl _ w).alloc (Nat.le_refl _) _
  have cc := wk_chunks (h.later hb0)
  have h2 := Boxed.new w 3 (.int .i64 0)
  have CC := Lib.hid cc; have H2 := Lib.hid h2; have HB0 := Lib.hid hb0
  clear cc h h2 hb0
  go_enter Try.func29, Try.ntmps29
  go_wp2_with fail
  refine CC.out.mono ?_; rintro e w2 ⟨b0, rfl, hg, hb⟩
  have HG := Lib.hid hg; have HB := Lib.hid hb
  clear hg hb CC
  go_wp2
  go_ret
  have hz2 := HB.out.size
  rw [World.size_alloc] at hz2
  have hB2 : Below w2.heap.size w2 (w2.alloc (.cells #[.func (.func 20) #[] #[.pointer (some ⟨b0, 0, none⟩)]] 37)) := (Below.refl _ w2).alloc (Nat.le_refl _) _
  refine ⟨_, _, rfl, fun T hT => ?_, HB0.out.trans ((HB.out.mono (by simp)).trans (hB2.mono (by omega)))⟩
  have q2 := (HB.out.block _ H2.out.lt).trans H2.out
  have q22 := (hB2.block _ (by omega)).trans q2
  refine wrunes_goes hT ht hf (by omega) ?_ (Boxed.new w2 _ _) q22 (by omega) (Nat.le_refl _)
  have g := (HG.out T).later hB2
  intro n l J Jx W hW hl hJ hJx hY h0
  refine g n l J Jx W hW hl hJ hJx (fun s x s' A y hA j => yield_mono (hY s x s' A y hA j) fun e B hp => ?_) h0
  rcases hp with ⟨a, b, c⟩ | ⟨a, b, c⟩
  · exact .inl ⟨a, b, c.part (by simp) (Nat.le_refl _)⟩
  · exact .inr ⟨a, b, c.part (by simp) (Nat.le_refl _)⟩

/-- What Rows answers. -/
def SeqW (w : World) (s : ByteArray) (e : Ending) (w' : World) : Prop :=
  ∃ b1 b2, e = .returned (.func (.func 30) #[] #[.pointer (some ⟨b1, 0, none⟩), .pointer (some ⟨b2, 0, none⟩)]) ∧ (∀ T, ¬ T 71 → ¬ T 50 → ¬ T 3 → Goes Try.prog T w.heap.size 30 #[.pointer (some ⟨b1, 0, none⟩), .pointer (some ⟨b2, 0, none⟩)] (fun x : Nat × ByteArray => #[.int .i64 x.1, .string x.2]) (YW s) 0 (lines s.data.toList + 1) w') ∧ Below w.heap.size w w'
set_option maxRecDepth 100000 in
set_option maxHeartbeats 800000 in
theorem wk_rows {w : World} {r p : Option Addr} {L : List ByteArray} {s : ByteArray} (h : RopeW w r p L s) : Calls Try.prog 16 #[.pointer r] w (SeqW w s) := by
  have hz := h.x.small
  have ct := ro_text h
  have cr := fun W (hW : Below w.heap.size w W) => wk_runes (h.later hW)
  have CT := Lib.hid ct; have CR := Lib.hid cr
  clear ct cr h
  go_enter Try.func16, Try.ntmps16
  go_wp2_with fail
  refine CT.out.mono ?_; rintro e w1 ⟨rfl, hb1⟩
  have HB1 := Lib.hid hb1
  clear hb1
  go_wp2_with fail
  refine (CR.out _ HB1.out).mono ?_; rintro e w2 ⟨b1, b2, rfl, hg, hb2⟩
  have HG := Lib.hid hg; have HB2 := Lib.hid hb2
  clear hg hb2 CR CT
  go_wp2
  go_ret
  have hz1 := HB1.out.size
  have hz2 := HB2.out.size
  obtain ⟨W, hW⟩ : ∃ W, (w2.alloc (.cells #[.string s] 9)).alloc (.cells #[.func (.func 41) #[] #[.pointer (some ⟨b1, 0, none⟩), .pointer (some ⟨b2, 0, none⟩)]] 59) = W := ⟨_, rfl⟩
  have hB2 : Below w2.heap.size w2 W := by rw [← hW]; exact ((Below.refl _ w2).alloc (Nat.le_refl _) _).alloc (by simp) _
  have p1 : Boxed W (w2.heap.size + 1) 59 (.func (.func 41) #[] #[.pointer (some ⟨b1, 0, none⟩), .pointer (some ⟨b2, 0, none⟩)]) := by
    have := Boxed.new (w2.alloc (.cells #[.string s] 9)) 59 (.func (.func 41) #[] #[.pointer (some ⟨b1, 0, none⟩), .pointer (some ⟨b2, 0, none⟩)])
    rw [World.size_alloc] at this
    rw [← hW]; exact this
  have p2 : Boxed W w2.heap.size 9 (.string s) := by rw [← hW]; exact (Boxed.new w2 _ _).alloc _
  rw [hW]
  refine ⟨_, _, rfl, fun T hT hT2 hT3 => ?_, HB1.out.trans ((HB2.out.mono hz1).trans (hB2.mono (by omega)))⟩
  refine wrows_goes hT2 hT3 (by omega) ?_ p1 p2 (by omega)
  have g := (HG.out T hT).later hB2
  intro n l J Jx W hW hl hJ hJx hY h0
  refine g n l J Jx W hW hl hJ hJx (fun s x s' A y hA j => yield_mono (hY s x s' A y hA j) fun e B hp => ?_) h0
  rcases hp with ⟨a, b, c⟩ | ⟨a, b, c⟩
  · exact .inl ⟨a, b, c.part (by omega) (Nat.le_refl _)⟩
  · exact .inr ⟨a, b, c.part (by omega) (Nat.le_refl _)⟩
end Go.Proofs.Ytlmihooahmgmjaa
namespace Go.Proofs.Ytlmihooahmgmjaa
open Go.RowKit
set_option linter.unusedVariables false
set_option linter.unusedSimpArgs false
attribute [local go_sem] Oper.semAt_some

theorem own_turns {T : TypeId → Prop} {B : Nat} {W W' : World} {base : Nat} {e : TypeId} {size : Nat} {v : Value} {n : Nat} {xs : List Value} (h : W.ownsRow base e size v n xs) (hT : Turns T B W W') (he : T e) : W'.ownsRow base e size v n xs := by
  refine ⟨h.1, ?_⟩
  rcases h.2 with h2 | ⟨g, cap, cur, hv, hg0, hg, hr⟩
  · exact .inl h2
  · exact .inr ⟨g, cap, cur, hv, hg0, hT.far g _ _ _ hg he, hr⟩
theorem Kp.grown {T : TypeId → Prop} {lo hi B : Nat} {X Y Z : World} {base : Nat} {e : TypeId} {size n : Nat} {v : Value} {xs : List Value} {tmp : Obj} (h : Kp T lo hi B X Y) (hg : (Y.alloc tmp).grownBy Z v.ownBlock) (hr : Y.ownsRow base e size v n xs) (hb : hi ≤ base) (hhi : hi ≤ Y.heap.size) (he : T e) : Kp T lo hi B X Z := by
  have h2 : Kp T lo hi B X (Y.alloc tmp) := h.alloc hhi tmp
  refine h2.trans ⟨hg.size, fun b h1 h2 => hg.block b (by simp; omega) (fun e' => ?_), fun b o hB ho ht => (hg.block b (Array.getElem?_eq_some_iff.1 ho).1 (fun e' => ?_)).trans ho⟩
  · rcases hr.2 with ⟨rfl, _⟩ | ⟨g, cap, cur, rfl, hgb, hg2, _⟩
    · simp [Value.ownBlock] at e'
    · obtain rfl : b = g := by simpa [Value.ownBlock] using e'
      omega
  · rcases (hr.alloc tmp).2 with ⟨rfl, _⟩ | ⟨g, cap, cur, rfl, hgb, hg2, _⟩
    · simp [Value.ownBlock] at e'
    · obtain rfl : b = g := by simpa [Value.ownBlock] using e'
      rw [hg2] at ho; cases ho
      exact ht _ _ _ rfl he

theorem own_blk {W : World} {base : Nat} {e : TypeId} {size : Nat} {v : Value} {n : Nat} {xs : List Value} (h : W.ownsRow base e size v n xs) {k : Nat} (hk : v.ownBlock = some k) : base ≤ k := by
  rcases h.2 with ⟨rfl, _⟩ | ⟨g, cap, cur, rfl, hb, _⟩
  · simp [Value.ownBlock] at hk
  · obtain rfl : g = k := by simpa [Value.ownBlock] using hk
    exact hb
/-- A closure is not nil. -/
theorem func_nil (f : Fn) (cap : Array Value) (w : World) : (binOp .eql 37 (.func f #[] cap) Value.nilFunc).run Try.prog w = .ok (.bool false) w := by kernel_rfl
theorem func_nil' (f : Fn) (cap : Array Value) (w : World) : (binOp .neq 37 (.func f #[] cap) Value.nilFunc).run Try.prog w = .ok (.bool true) w := by kernel_rfl
/-- Lines of a text, the first ones, without what ends them. -/
def RowsOk (s : ByteArray) (xs : List ByteArray) : Prop := ∀ (i : Nat) (h : i < xs.length) (p m : Nat), StartP s.data.toList i p → UptoP lines s.data.toList (i : Nat) m → xs[i] = s.extract p m
theorem RowsOk.snoc {s : ByteArray} {xs : List ByteArray} {x : Nat × ByteArray} {i' : Nat} (h : RowsOk s xs) (hy : YW s xs.length x i') : RowsOk s (xs ++ [x.2]) := by
  intro i hi p m h1 h2
  rw [List.length_append, List.length_singleton] at hi
  by_cases e : i < xs.length
  · rw [List.getElem_append_left e]; exact h i e p m h1 h2
  · obtain rfl : i = xs.length := by omega
    rw [List.getElem_append_right (Nat.le_refl _)]
    simp only [Nat.sub_self, List.getElem_cons_zero]
    exact hy.2.2.1 p m h1 h2

/-- What rowsOf holds between two lines. -/
structure RwI (w : World) (n0 B m : Nat) (xs : List ByteArray) (v : Value) (A : World) : Prop where
  b0 : Boxed A n0 3 (.int .i64 m)
  b1 : Boxed A (n0 + 1) 28 v
  b2 : Boxed A (n0 + 1 + 1) 4 (.bool true)
  row : A.ownsRow B 9 1 v xs.length (strVs xs)
  bel : Below n0 w A
theorem RwI.turns {w : World} {n0 B m : Nat} {xs : List ByteArray} {v : Value} {A A' : World} (h : RwI w n0 B m xs v A) (hB : n0 + 3 ≤ B) (hT : Turns (· = 9) B A A') : RwI w n0 B m xs v A' :=
  ⟨hT.box h.b0 (by omega), hT.box h.b1 (by omega), hT.box h.b2 (by omega), own_turns h.row hT rfl, h.bel.trans (hT.bel.mono (by omega))⟩
def RwJ (w : World) (B m : Nat) (s : ByteArray) (i : Nat) (A : World) : Prop := ∃ xs v, RwI w w.heap.size B m xs v A ∧ xs.length = i ∧ i ≤ m ∧ RowsOk s xs
def RwX (w : World) (B m : Nat) (s : ByteArray) (c : Code) (A : World) : Prop := c = .exit 0 ∧ ∃ xs v, RwI w w.heap.size B m xs v A ∧ xs.length = m ∧ RowsOk s xs ∧ m ≤ lines s.data.toList + 1
/-- What rowsOf answers. -/
def RetRows (w : World) (s : ByteArray) (m : Nat) (e : Ending) (w' : World) : Prop :=
  ∃ xs a c, RowsOk s xs ∧ xs.length = min (lines s.data.toList + 1) m ∧ e = .returned (.tuple #[.slice a xs.length c, .bool true]) ∧ StrsH w' a xs ∧ Below w.heap.size w w'
theorem ret_rows {w W : World} {s : ByteArray} {m B N D' q : Nat} {xs : List ByteArray} {a : Option Addr} {c : Nat} (h : RwI w w.heap.size B m xs (.slice a xs.length c) W) (hN : xs.length = N) (hok : RowsOk s xs) (hl : xs.length = min (lines s.data.toList + 1) m) (hD : B ≤ D') (hK : W.heap[D']? = some (.deferred (some []))) (hB : w.heap.size ≤ B) :
    RetRows w s m (.returned (.tuple #[.slice a N c, .bool true])) ((W.drewN q).putObj D' (.deferred none)) := by
  have hown := ownsRow_putObj (show (W.drewN q).ownsRow B 9 1 (.slice a xs.length c) xs.length (strVs xs) from h.row) (.deferred none) (show (W.drewN q).heap[D']? = _ from hK) rfl
  obtain ⟨a', c', e', hs⟩ := own_strs hown
  cases e'
  exact ⟨xs, a, c, hok, hl, by rw [hN], hs.weak fun b hb => hb.2, (drewN_below h.bel q).trans (belowK_b (w := w) (Nat.le_refl _) _ D' _ _ (by omega) (show (W.drewN q).heap[D']? = _ from hK) rfl rfl)⟩

set_option maxRecDepth 100000 in
set_option maxHeartbeats 1600000 in
theorem rowsOf_any {w : World} {r p : Option Addr} {L : List ByteArray} {s : ByteArray} (h : RopeW w r p L s) {m : Nat} (hm : m ≤ 1000000) : Calls Try.prog 8 #[.pointer r, .int .i64 m] w (RetRows w s m) := by
  obtain ⟨i0, hi, hz0, hz1, hz2⟩ := info_parts string_info
  have hsm := h.x.small
  obtain ⟨W1, hW1⟩ : ∃ W1, ((w.alloc (.cells #[.int .i64 m] 3)).alloc (.cells #[.slice none 0 0] 28)).alloc (.cells #[.bool true] 4) = W1 := ⟨_, rfl⟩
  have hs1 : W1.heap.size = w.heap.size + 3 := by rw [← hW1]; simp
  have hb1 : Below w.heap.size w W1 := by rw [← hW1]; exact (((Below.refl _ w).alloc (Nat.le_refl _) _).alloc (by simp) _).alloc (by simp; omega) _
  have p0 : Boxed W1 w.heap.size 3 (.int .i64 m) := by rw [← hW1]; exact ((Boxed.new w _ _).alloc _).alloc _
  have p1 : Boxed W1 (w.heap.size + 1) 28 (.slice none 0 0) := by
    have := Boxed.new (w.alloc (.cells #[.int .i64 m] 3)) 28 (.slice none 0 0)
    rw [World.size_alloc] at this
    rw [← hW1]; exact this.alloc _
  have p2 : Boxed W1 (w.heap.size + 1 + 1) 4 (.bool true) := by
    have := Boxed.new ((w.alloc (.cells #[.int .i64 m] 3)).alloc (.cells #[.slice none 0 0] 28)) 4 (.bool true)
    rw [World.size_alloc, World.size_alloc] at this
    rw [← hW1]; exact this
  have cr := wk_rows (h.later hb1)
  rw [← hW1] at cr
  have HW1 := Lib.hid hW1; have CR := Lib.hid cr; have HB1 := Lib.hid hb1; have P0 := Lib.hid p0; have P1 := Lib.hid p1; have P2 := Lib.hid p2
  clear hW1 cr h hb1 p0 p1 p2
  refine (callsIn_wide (n := 5)).1 ?_
  refine callsIn_of_wp_marks Try.func8 rfl trivial ?_ rfl
  simp only [Try.ntmps8, List.size_toArray, List.length_cons, List.length_nil, Nat.reduceAdd, Nat.reduceSub, Array.replicate_succ, Array.replicate_zero, List.push_toArray, List.append_toArray, List.nil_append, List.cons_append]
  gi_wp2_with fail
  refine ⟨trivial, (callsIn_wide.2 CR.out).mono ?_⟩
  rintro e w2 ⟨b1, b2, rfl, hg, hb2⟩
  rw [HW1.out] at hg hb2
  have HG := Lib.hid hg; have HB2 := Lib.hid hb2
  clear hg hb2 CR
  have fz := fun W => func_nil (.func 30) #[.pointer (some ⟨b1, 0, none⟩), .pointer (some ⟨b2, 0, none⟩)] W
  gi_wp2_with fail
  have hzw : W1.heap.size ≤ w2.heap.size := HB2.out.size
  have hlo : W1.heap.size = w.heap.size + 3 := hs1
  have g := HG.out (· = 9) (by decide) (by decide) (by decide)
  have q0 := (HB2.out.block _ P0.out.lt).trans P0.out
  have q1 := (HB2.out.block _ P1.out.lt).trans P1.out
  have q2 := (HB2.out.block _ P2.out.lt).trans P2.out
  have hbw := HB1.out.trans (HB2.out.mono (show w.heap.size ≤ W1.heap.size by omega))
  clear HG HB2 P0 P1 P2 HB1 HW1 fz
  refine rangeFunc_goes (gf := 30) (lb := #[.pointer (some ⟨b1, 0, none⟩), .pointer (some ⟨b2, 0, none⟩)]) rfl (enters_of Try.func30 (by kernel_rfl) rfl) g (Below.refl _ _) (fun _ => rfl)
    (RwJ w w2.heap.size m s) (RwX w w2.heap.size m s)
    (fun i A B ⟨xs, v, x1, x2, x3, x4⟩ hA hT => ⟨xs, v, x1.turns (by omega) hT, x2, x3, x4⟩)
    (fun c A B ⟨e, xs, v, x1, x2, x3, x4⟩ hA hT => ⟨e, xs, v, x1.turns (by omega) hT, x2, x3, x4⟩)
    ⟨[], _, ⟨q0, q1, q2, World.ownsRow_nil _ _ _ _, hbw⟩, rfl, Nat.zero_le _, fun i h => absurd h (by simp)⟩
    (fun x => { tmps := #[.pointer r, .int .i64 m, undef, .pointer (some ⟨w.heap.size, 0, none⟩), .slice none 0 0, .bool false, .pointer (some ⟨w.heap.size + 1, 0, none⟩), .pointer (some ⟨w.heap.size + 1 + 1, 0, none⟩), .func (.func 30) #[] #[.pointer (some ⟨b1, 0, none⟩), .pointer (some ⟨b2, 0, none⟩)], .int .i64 x.1, .string x.2, .pointer r, .func (.func 30) #[] #[.pointer (some ⟨b1, 0, none⟩), .pointer (some ⟨b2, 0, none⟩)], .func (.func 30) #[] #[.pointer (some ⟨b1, 0, none⟩), .pointer (some ⟨b2, 0, none⟩)], .bool false, .func (.func 30) #[] #[.pointer (some ⟨b1, 0, none⟩), .pointer (some ⟨b2, 0, none⟩)], .int .i64 x.1, .string x.2, undef, undef, undef, undef, undef, undef, undef, undef, undef, undef, undef, undef, undef, undef, undef, undef, undef], defers := [] }) ?assign ?body ?done ?stop
  case assign =>
    intro l x W K hK
    gi_wp2
    exact hK
  case body =>
    rintro l i ⟨i1, x⟩ i' W hWs hy ⟨xs, v, hI, rfl, hle, hok⟩
    have hi1 : i1 = xs.length := hy.2.1
    subst hi1
    have hi' : i' = xs.length + 1 := hy.2.2.2
    subst hi'
    have hk0 := Kp.refl (· = 9) W1.heap.size w2.heap.size w2.heap.size W
    obtain ⟨a, c, rfl, -⟩ := own_strs hI.row
    have c0 := hI.b0.cell
    have c1 := hI.b1.cell
    have c2 := hI.b2.cell
    have f2 := hI.b2.frozen
    by_cases hlt : xs.length < m
    · have hS := hI.b2.set (.bool true)
      have hv := hI.b1.other (show w.heap.size + 1 ≠ w.heap.size + 1 + 1 by omega) (.bool true)
      have hv0 := hI.b0.other (show w.heap.size ≠ w.heap.size + 1 + 1 by omega) (.bool true)
      have hrow : (W.setCell ⟨w.heap.size + 1 + 1, 0, none⟩ (.bool true)).ownsRow w2.heap.size 9 1 (.slice a xs.length c) xs.length (strVs xs) := own_turns (T := (· = 9)) hI.row ((Turns.refl _ 0 W).set hI.b2 (Nat.zero_le _) (by decide) _) rfl
      have hk1 := hk0.set (b := w.heap.size + 1 + 1) (by omega) (by omega) (.bool true)
      have hbel := hI.bel.setCell (p := ⟨w.heap.size + 1 + 1, 0, none⟩) (by show w.heap.size ≤ w.heap.size + 1 + 1; omega) (.bool true)
      have hwz : (W.setCell ⟨w.heap.size + 1 + 1, 0, none⟩ (.bool true)).heap.size = W.heap.size := World.size_setCell _ _ _
      have hok2 := hok.snoc hy
      have hnews := news_one (W.setCell ⟨w.heap.size + 1 + 1, 0, none⟩ (.bool true)) (.string x) 9
      rw [hwz] at hnews
      have hv1 := hv.cell
      obtain ⟨N, hN⟩ : ∃ N, xs.length = N := ⟨_, rfl⟩
      have HN := Lib.hid hN; have HOK := Lib.hid hok2; have HBEL := Lib.hid hbel; have HK1 := Lib.hid hk1; have HS := Lib.hid hS; have HV0 := Lib.hid hv0
      rw [hN] at hlt hv hrow c1 hv1 ⊢
      have hB : w2.heap.size ≤ (W.setCell ⟨w.heap.size + 1 + 1, 0, none⟩ (.bool true)).heap.size := by omega
      clear hy hok hok2 hI hN hbel hk0 hk1 hS hle hv0 hwz
      gi_wp2_with (gi_at_builtin; refine wpListIn_append_own _ rfl _ _ 28 rfl w2.heap.size 9 i0 (.string ByteArray.empty) 1 16 Try.underlying28 hi hz0 hz1 hz2 rfl (by decide) _ _ _ rfl (hrow.alloc _) ⟨W.heap.size, 0, none⟩ 1 1 [.string x] rfl rfl hnews (by simp [Value.oneCell']) (by unfold maxLen; omega) (by omega) (by simp; omega) ?_; intro v' w1 hown' hgrow _; obtain ⟨g', cap', rfl⟩ := ownsRow_succ hown'; have hv3 := (hv.alloc (.cells #[.string x] 9)).kept hgrow (hv.not_row (by decide) hrow); have hc3 := hv3.cell; have hf3 := hv3.frozen)
      replace hgrow : ((W.setCell ⟨w.heap.size + 1 + 1, 0, none⟩ (.bool true)).alloc (.cells #[.string x] 9)).grownBy w1 (Value.slice a N c).ownBlock := hgrow
      have HK2 := Lib.hid ((HK1.out.grown hgrow hrow (Nat.le_refl _) hB rfl).set (b := w.heap.size + 1) (by omega) (by omega) (.slice (some ⟨g', 0, none⟩) (N + 1) cap'))
      have e0 := ((HV0.out.alloc (.cells #[.string x] 9)).kept hgrow (HV0.out.not_row (by decide) hrow)).other (show w.heap.size ≠ w.heap.size + 1 by omega) (.slice (some ⟨g', 0, none⟩) (N + 1) cap')
      have e1 := hv3.set (.slice (some ⟨g', 0, none⟩) (N + 1) cap')
      have e2 := ((HS.out.alloc (.cells #[.string x] 9)).kept hgrow (HS.out.not_row (by decide) hrow)).other (show w.heap.size + 1 + 1 ≠ w.heap.size + 1 by omega) (.slice (some ⟨g', 0, none⟩) (N + 1) cap')
      have e3 := hown'.kept (grownBy_setCell' w1 (w.heap.size + 1) (.slice (some ⟨g', 0, none⟩) (N + 1) cap')) (.inr (hv3.not_row (by decide) hown').symm)
      have e4 := ((HBEL.out.alloc (by simp; omega) (.cells #[.string x] 9)).grown hgrow (by simp; omega) (fun k e => by have := own_blk hrow e; omega)).setCell (p := ⟨w.heap.size + 1, 0, none⟩) (by show w.heap.size ≤ w.heap.size + 1; omega) (.slice (some ⟨g', 0, none⟩) (N + 1) cap')
      have hl1 : (xs ++ [x]).length = N + 1 := by rw [List.length_append, HN.out]; rfl
      have E := Lib.hid (show RwI w w.heap.size w2.heap.size m (xs ++ [x]) (.slice (some ⟨g', 0, none⟩) (N + 1) cap') (w1.setCell ⟨w.heap.size + 1, 0, none⟩ (.slice (some ⟨g', 0, none⟩) (N + 1) cap')) from ⟨e0, e1, e2, by rw [hl1, strVs_one]; exact e3, e4⟩)
      refine ⟨by have := HK2.out; rw [hlo] at this; exact this, xs ++ [x], _, E.out, hl1, by omega, HOK.out⟩
    · obtain rfl : m = xs.length := by omega
      have HI := Lib.hid hI
      have b0 : xs.length ≤ lines s.data.toList := hy.1
      gi_wp2
      exact ⟨hk0, rfl, xs, _, HI.out, rfl, hok, by omega⟩
  case done =>
    rintro D' W hD hz3 ⟨xs, v, hI, hlen, hle, hok⟩ hK
    obtain ⟨a, c, rfl, -⟩ := own_strs hI.row
    have c1 := hI.b1.cell
    have c2 := hI.b2.cell
    have HI := Lib.hid hI; have HL := Lib.hid hlen; have HOK := Lib.hid hok
    obtain ⟨N, hN⟩ : ∃ N, xs.length = N := ⟨_, rfl⟩
    have HN := Lib.hid hN
    rw [hN] at c1
    clear hI hlen hok hN
    gi_wp2
    refine wpIn_wide.2 ?_
    go_quiet (fail)
    gi_wp2
    refine leaves_mark (w := W.drewN nq) hK (fun w' => results_tmp2 rfl _ _ _) ?_
    exact ret_rows HI.out HN.out HOK.out (by have := HL.out; omega) hD hK (by omega)
  case stop =>
    rintro D' c W hD hz3 ⟨rfl, xs, v, hI, hlen, hok, hle⟩ hK
    obtain ⟨a, c, rfl, -⟩ := own_strs hI.row
    have c1 := hI.b1.cell
    have c2 := hI.b2.cell
    have HI := Lib.hid hI; have HL := Lib.hid hlen; have HOK := Lib.hid hok
    obtain ⟨N, hN⟩ : ∃ N, xs.length = N := ⟨_, rfl⟩
    have HN := Lib.hid hN
    rw [hN] at c1
    clear hI hlen hok hN
    gi_wp2
    refine wpIn_wide.2 ?_
    go_quiet (fail)
    gi_wp2
    refine leaves_mark (w := W.drewN nq) hK (fun w' => results_tmp2 rfl _ _ _) ?_
    exact ret_rows HI.out HN.out HOK.out (by have := HL.out; omega) hD hK (by omega)
end Go.Proofs.Ytlmihooahmgmjaa
