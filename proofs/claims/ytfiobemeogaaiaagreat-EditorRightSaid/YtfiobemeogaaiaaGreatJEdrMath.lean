/-
  Joined: EdrMath, EdrMem, EdrNow, EdrDev, EdrMath2, EdrDev2, EdrDev3, EdrDev4, EdrMath3, EdrTurn.
-/
import Derived.Test.YtfiobemeogaaiaaGreatJStaRight
import Derived.Test.YtfiobemeogaaiaaGreatJWeldOf
import Derived.Test.YtfiobemeogaaiaaGreatJUtfRTake
import Derived.Test.YtfiobemeogaaiaaGreatJStkRef2
import Derived.Test.YtfiobemeogaaiaaGreatJKnotMap
import Derived.Test.YtfiobemeogaaiaaGreatJMarkDev3
import Derived.Test.YtfiobemeogaaiaaGreatJMarkCat
import Derived.Deep.RegionHeld3
import Derived.Test.YtfiobemeogaaiaaGreatSq
import Derived.Test.YtfiobemeogaaiaaGreatStepDev2
import Derived.Test.YtfiobemeogaaiaaGreatJEditCat
namespace Go.Proofs.YtfiobemeogaaiaaGreat
open Go.RowKit
set_option linter.unusedVariables false
set_option linter.unusedSimpArgs false
theorem invL_cons (x : Edt) (r : List Edt) : invL (x :: r) = invL r ++ [x.back] := by unfold invL; rw [List.map_cons, List.reverse_cons]
theorem invL_app (a b : List Edt) : invL (a ++ b) = invL b ++ invL a := by unfold invL; rw [List.map_append, List.reverse_append]
theorem invL_inv (l : List Edt) : invL (invL l) = l := by
  unfold invL
  rw [← List.map_reverse, List.reverse_reverse, List.map_map]
  have : (Edt.back ∘ Edt.back) = id := by funext x; rfl
  rw [this, List.map_id]
theorem invL_nil : invL [] = [] := rfl
theorem run_one {t s : ByteArray} {x : Edt} (h : appE t x.p x.o x.n = (s, 0)) : runE t [x] = (s, 0) := by rw [runE_ok h, runE_nil]
theorem run_parts {t s : ByteArray} {x : Edt} {r : List Edt} (h : runE t (x :: r) = (s, 0)) : ∃ u, appE t x.p x.o x.n = (u, 0) ∧ runE u r = (s, 0) := by
  obtain ⟨⟨u, e⟩, hu⟩ : ∃ y, appE t x.p x.o x.n = y := ⟨_, rfl⟩
  by_cases he : e = 0
  · subst he
    rw [runE_ok hu] at h
    exact ⟨u, hu, h⟩
  · rw [runE_no hu he] at h
    exact absurd (congrArg Prod.snd h) he
theorem run_pair {t : ByteArray} {l : List Edt} (h : (runE t l).2 = 0) : runE t l = ((runE t l).1, 0) := by rw [← h]
theorem run_back {t s : ByteArray} {l : List Edt} (hv : vldB t.data.toList = true) (ht : t.size ≤ 4096) (h : runE t l = (s, 0)) : vldB s.data.toList = true ∧ s.size ≤ 4096 ∧ runE s (invL l) = (t, 0) := by
  induction l generalizing t with
  | nil =>
    rw [runE_nil] at h
    obtain rfl : t = s := congrArg Prod.fst h
    exact ⟨hv, ht, runE_nil _⟩
  | cons x r ih =>
    obtain ⟨u, hu, hr⟩ := run_parts h
    obtain ⟨hb, huv⟩ := back_app hv ht hu
    obtain ⟨h1, h2, h3⟩ := ih huv (appE_size0 hu) hr
    refine ⟨h1, h2, ?_⟩
    rw [invL_cons, runE_app, h3, if_pos rfl]
    exact run_one (x := x.back) hb
theorem run_take {t s : ByteArray} {l : List Edt} (h : runE t l = (s, 0)) (k : Nat) : ∃ u, runE t (l.take k) = (u, 0) ∧ runE u (l.drop k) = (s, 0) := by
  have e := runE_app t (l.take k) (l.drop k)
  rw [List.take_append_drop, h] at e
  by_cases g : (runE t (l.take k)).2 = 0
  · rw [if_pos g] at e
    exact ⟨_, run_pair g, e.symm⟩
  · rw [if_neg g] at e
    exact absurd (congrArg Prod.snd e).symm g
theorem run_in {t s : ByteArray} {l : List Edt} (ht : t.size ≤ 4096) (h : runE t l = (s, 0)) : ∀ x ∈ l, 0 ≤ x.p ∧ x.p ≤ 4096 := by
  induction l generalizing t with
  | nil => exact fun x hx => absurd hx (by simp)
  | cons y r ih =>
    obtain ⟨u, hu, hr⟩ := run_parts h
    intro x hx
    rcases List.mem_cons.1 hx with rfl | hx
    · obtain ⟨k, e, hk, -⟩ := appE_zero hu
      omega
    · exact ih (appE_size0 hu) hr x hx
def shfL (m : List Mrk) (l : List Edt) : List Mrk := l.foldl (fun m x => shfM m (shiftI x.p x.o.size x.n.size)) m
theorem shfL_cons (m : List Mrk) (x : Edt) (l : List Edt) : shfL m (x :: l) = shfL (shfM m (shiftI x.p x.o.size x.n.size)) l := rfl
theorem shfL_next (m : List Mrk) (l : List Edt) (k : Nat) (hk : k < l.length) : shfL m (l.take (k + 1)) = shfM (shfL m (l.take k)) (shiftI (l[k]!).p (l[k]!).o.size (l[k]!).n.size) := by
  unfold shfL
  rw [List.take_add_one, List.getElem?_eq_getElem hk, ← eget hk, List.foldl_append]
  rfl
theorem shfL_len (m : List Mrk) (l : List Edt) : (shfL m l).length = m.length := by
  induction l generalizing m with
  | nil => rfl
  | cons x r ih => rw [shfL_cons, ih, shfM_len]
theorem okM_parts {t : ByteArray} {x : Mrk} (h : okM t x = true) : markB x.name.data.toList = true ∧ edgeB t.data.toList x.p = true := by
  unfold okM at h
  simpa using h
theorem edgeB_in {t : ByteArray} {p : Int} (h : edgeB t.data.toList p = true) : 0 ≤ p ∧ p ≤ t.size := by
  have := edge_at h
  have e : t.data.toList.length = t.size := by simp
  omega
theorem marks_in {l : List Mrk} {t : ByteArray} (h : rightM l t = true) : ∀ x ∈ l, 0 ≤ x.p ∧ x.p ≤ t.size := fun x hx => by
  obtain ⟨i, hi, rfl⟩ := List.getElem_of_mem hx
  have := ((rightM_iff l t).1 h).1 i hi
  rw [mget hi] at this
  exact edgeB_in (okM_parts this).2
theorem marks_shift {l : List Mrk} {t o n s : ByteArray} {p : Int} (hv : vldB t.data.toList = true) (h : appE t p o n = (s, 0)) (hr : rightM l t = true) : rightM (shfM l (shiftI p o.size n.size)) s = true := by
  obtain ⟨h1, h2, h3⟩ := (rightM_iff l t).1 hr
  rw [rightM_iff]
  refine ⟨fun i hi => ?_, by rw [shfM_len]; exact h2, by rw [shfM_rise]; exact h3⟩
  rw [shfM_len] at hi
  rw [shfM_get l _ i hi]
  have hk := okM_parts (h1 i hi)
  unfold okM
  rw [show markB (l[i]!).name.data.toList = true from hk.1, Bool.true_and]
  exact shift_edge hv h hk.2
theorem marks_run {l : List Edt} {m : List Mrk} {t s : ByteArray} (hv : vldB t.data.toList = true) (ht : t.size ≤ 4096) (h : runE t l = (s, 0)) (hr : rightM m t = true) : rightM (shfL m l) s = true := by
  induction l generalizing t m with
  | nil =>
    rw [runE_nil] at h
    obtain rfl : t = s := congrArg Prod.fst h
    exact hr
  | cons x r ih =>
    obtain ⟨u, hu, h2⟩ := run_parts h
    rw [shfL_cons]
    exact ih (back_app hv ht hu).2 (appE_size0 hu) h2 (marks_shift hv hu hr)
theorem goesE_take {f : List Edt → List Edt} {t : ByteArray} {L : List (List Edt)} (h : goesE f t L = true) (k : Nat) : goesE f t (L.take k) = true := by
  induction L generalizing t k with
  | nil => rw [List.take_nil]; rfl
  | cons x r ih =>
    cases k with
    | zero => rw [List.take_zero]; rfl
    | succ k =>
      rw [List.take_succ_cons]
      cases hx : rightS t (f x)
      · rw [goesE_no hx] at h; cases h
      · rw [goesE_ok hx] at h ⊢
        exact ih h k
theorem goes16_iff {f : List Edt → List Edt} {t : ByteArray} {L : List (List Edt)} : goes16 f t L = true ↔ goesE f t L.reverse = true ∧ L.length ≤ 16 := by unfold goes16; simp
theorem goes16_nil (f : List Edt → List Edt) (t : ByteArray) : goes16 f t [] = true := rfl
theorem goes16_push {f : List Edt → List Edt} {t t' : ByteArray} {L : List (List Edt)} {st : List Edt} (hs : rightS t' (f st) = true) (ht : (runE t' (f st)).1 = t) (h : goes16 f t L = true) : goes16 f t' (pushL L st) = true := by
  obtain ⟨h1, h2⟩ := goes16_iff.1 h
  rw [goes16_iff]
  refine ⟨?_, by rw [pushL_len]; omega⟩
  have e : (pushL L st).reverse = st :: (L.reverse.take (min L.length 15)) := by
    unfold pushL
    rw [List.reverse_drop, List.reverse_append, List.reverse_singleton, List.singleton_append, List.length_append, List.length_singleton, show L.length + 1 - (L.length + 1 - 16) = min L.length 15 + 1 by omega, List.take_succ_cons]
  rw [e, goesE_ok hs, ht]
  exact goesE_take h1 _
theorem goes16_last {f : List Edt → List Edt} {t : ByteArray} {L : List (List Edt)} {k : Nat} (hk : L.length = k + 1) (h : goes16 f t L = true) : rightS t (f L[k]!) = true ∧ goes16 f (runE t (f L[k]!)).1 (L.take k) = true := by
  obtain ⟨h1, h2⟩ := goes16_iff.1 h
  have e := rev_take L k (by omega)
  rw [← hk, List.take_length] at e
  rw [e] at h1
  cases hx : rightS t (f L[k]!)
  · rw [goesE_no hx] at h1; cases h1
  · rw [goesE_ok hx] at h1
    exact ⟨rfl, goes16_iff.2 ⟨h1, by rw [List.length_take]; omega⟩⟩
theorem rightS_iff {t : ByteArray} {l : List Edt} : rightS t l = true ↔ 1 ≤ l.length ∧ l.length ≤ 32 ∧ (runE t l).2 = 0 := by
  unfold rightS
  simp [and_assoc]
theorem push_mem {L : List (List Edt)} {st x : List Edt} (h : x ∈ pushL L st) : x ∈ L ∨ x = st := by
  unfold pushL at h
  have := List.mem_of_mem_drop h
  simpa using this
theorem get_mem {L : List (List Edt)} {k : Nat} (h : k < L.length) : L[k]! ∈ L := by rw [getElem!_pos L k h]; exact List.getElem_mem h
structure InvS (s : StaD) : Prop where
  v : vldB s.t.data.toList = true
  z : s.t.size ≤ 4096
  m : rightM s.m s.t = true
  r : goes16 id s.t s.r = true
  go : s.g = [] ∨ (s.o = true ∧ s.r = [])
  gl : s.g.length ≤ 32
  gr : (runE s.t (invL s.g)).2 = 0
  u : goes16 invL (runE s.t (invL s.g)).1 s.u = true
  ue : ∀ l ∈ s.u, ∀ x ∈ l, okE5 x = true
  re : ∀ l ∈ s.r, ∀ x ∈ l, okE5 x = true
  ge : ∀ x ∈ s.g, okE5 x = true
theorem smallE_iff {l : List EPc} : smallE l = true ↔ ∀ x ∈ lsP l, ∀ y ∈ x, okE5 y = true := by
  unfold smallE lsP
  simp only [List.all_eq_true, List.mem_map]
  exact ⟨fun h x ⟨y, hy, e⟩ z hz => h y hy z (by rw [e]; exact hz), fun h y hy z hz => h y.l ⟨y, hy, rfl⟩ z hz⟩
theorem inv_iff (s : Sta) : rightP s = true ↔ InvS s.d := by
  unfold rightP mayT lastB
  rw [small_rows]
  have hg : smallE [s.g] = true ↔ ∀ x ∈ s.g.l, okE5 x = true := by rw [smallE_iff]; simp [lsP]
  by_cases g0 : s.g.l.length = 0
  · have e : s.g.l = [] := List.eq_nil_of_length_eq_zero g0
    rw [if_pos g0]
    simp only [Bool.and_eq_true, decide_eq_true_eq, smallE_iff]
    constructor
    · rintro ⟨⟨h1, h2⟩, h3, h4, h5, h6, h7, h8⟩
      exact ⟨h2, h1, h3, h4, .inl e, by show s.g.l.length ≤ 32; omega, by show (runE s.t (invL s.g.l)).2 = 0; rw [e]; rfl, by show goes16 invL (runE s.t (invL s.g.l)).1 _ = true; rw [e]; exact h5, h6, h7, by show ∀ x ∈ s.g.l, _; rw [e]; simp⟩
    · intro h
      have hu : goes16 invL (runE s.t (invL s.g.l)).1 (lsP s.u.l) = true := h.u
      rw [e] at hu
      exact ⟨⟨h.z, h.v⟩, h.m, h.r, hu, h.ue, h.re, by simp [lsP, e]⟩
  · rw [if_neg g0]
    simp only [Bool.and_eq_true, decide_eq_true_eq, smallE_iff, rightS_iff, invL_len]
    have hg2 : (∀ x ∈ lsP [s.g], ∀ y ∈ x, okE5 y = true) ↔ ∀ x ∈ s.g.l, okE5 x = true := by simp [lsP]
    rw [hg2]
    constructor
    · rintro ⟨⟨h1, h2⟩, h3, h4, h5, h6, ⟨h7, h8, h9⟩, h10, h11, h12, h13⟩
      exact ⟨h2, h1, h3, h4, .inr ⟨h5, by show lsP s.r.l = []; rw [List.eq_nil_of_length_eq_zero h6]; rfl⟩, h8, h9, h10, h11, h12, h13⟩
    · intro h
      have hgo := h.go
      rcases hgo with hgo | ⟨h1, h2⟩
      · exact absurd (congrArg List.length hgo) g0
      · have h2 : lsP s.r.l = [] := h2
        have h2 := congrArg List.length h2
        rw [lsP_len] at h2
        exact ⟨⟨h.z, h.v⟩, h.m, h.r, h1, h2, ⟨by omega, h.gl, h.gr⟩, h.u, h.ue, h.re, h.ge⟩
def editD (s : StaD) (x : Edt) : StaD × Int :=
  if s.o = true ∧ 32 ≤ s.g.length then (s, 9)
  else (⟨(appE s.t x.p x.o x.n).1, shfM s.m (shiftI x.p x.o.size x.n.size), if s.o = true then s.u else pushL s.u [x], [], s.o, if s.o = true then s.g ++ [x] else s.g⟩, 0)
def insX (i : Int) (x : ByteArray) : Edt := ⟨i, ⟨#[]⟩, x⟩
def delX (t : ByteArray) (i n : Int) : Edt := ⟨i, t.extract i.toNat (i + n).toNat, ⟨#[]⟩⟩
def insD (s : StaD) (i : Int) (x : ByteArray) : StaD × Int :=
  if insE s.t i x ≠ 0 then (s, insE s.t i x) else if 512 < x.size then (s, 6) else if x.size = 0 then (s, 0) else editD s (insX i x)
def delD (s : StaD) (i n : Int) : StaD × Int :=
  if delE s.t i n ≠ 0 then (s, delE s.t i n) else if 512 < n then (s, 6) else if n = 0 then (s, 0) else editD s (delX s.t i n)
def withMk (s : StaD) (r : List Mrk × Int) : StaD × Int := (if r.2 = 0 then ⟨s.t, r.1, s.u, s.r, s.o, s.g⟩ else s, r.2)
def markD (s : StaD) (i : Int) (x : ByteArray) : StaD × Int :=
  if markB x.data.toList = false then (s, 7) else if i < 0 ∨ (s.t.size : Int) < i then (s, 3) else if edgeB s.t.data.toList i = false then (s, 4) else withMk s (setM s.m ⟨x, i⟩)
def unmarkD (s : StaD) (x : ByteArray) : StaD × Int := withMk s (drpM s.m x)
def undoD (s : StaD) : StaD × Int :=
  if s.o = true then (s, 11) else if s.u.length = 0 then (s, 10)
  else (⟨(runE s.t (invL s.u[s.u.length - 1]!)).1, shfL s.m (invL s.u[s.u.length - 1]!), s.u.take (s.u.length - 1), pushL s.r s.u[s.u.length - 1]!, s.o, s.g⟩, 0)
def redoD (s : StaD) : StaD × Int :=
  if s.o = true then (s, 11) else if s.r.length = 0 then (s, 10)
  else (⟨(runE s.t s.r[s.r.length - 1]!).1, shfL s.m s.r[s.r.length - 1]!, pushL s.u s.r[s.r.length - 1]!, s.r.take (s.r.length - 1), s.o, s.g⟩, 0)
def beginD (s : StaD) : StaD × Int := if s.o = true then (s, 11) else (⟨s.t, s.m, s.u, s.r, true, s.g⟩, 0)
def endD (s : StaD) : StaD × Int := if s.o = false then (s, 11) else (⟨s.t, s.m, if s.g.length = 0 then s.u else pushL s.u s.g, s.r, false, []⟩, 0)
def doD (s : StaD) (k i n : Int) (x : ByteArray) : StaD × Int :=
  if k = 1 then insD s i x else if k = 2 then delD s i n else if k = 3 then markD s i x else if k = 4 then unmarkD s x
  else if k = 5 then undoD s else if k = 6 then redoD s else if k = 7 then beginD s else if k = 8 then endD s else (s, 2)
theorem ins_app {t x : ByteArray} {i : Int} (h : insE t i x = 0) : appE t (insX i x).p (insX i x).o (insX i x).n = (insS t i x, 0) := by
  obtain ⟨h1, h2, h3, h4⟩ := insE_zero h
  obtain ⟨g1, -, g3⟩ := stand_iff.1 h1
  obtain ⟨k, rfl⟩ := Int.eq_ofNat_of_zero_le g1
  have hv : vldB (⟨#[]⟩ : ByteArray).data.toList = true := by decide
  show appE t k ⟨#[]⟩ x = _
  have hs : (⟨#[]⟩ : ByteArray).size = 0 := rfl
  rw [appE_ok (by omega) (by
    have : t.extract k (k + (⟨#[]⟩ : ByteArray).size) = ⟨#[]⟩ := by
      apply str_ext
      rw [extract_list, hs]
      simp
    exact this) h2 (by rw [hs]; exact h2) hv h3 (by rw [hs]; omega)]
  unfold insS
  rw [if_pos h, hs]
  rfl
theorem vld_mid {t : ByteArray} {a b : Nat} (hv : vldB t.data.toList = true) (hab : a ≤ b) (hb : b ≤ t.size) (ha : edgeB t.data.toList a = true) (hb2 : edgeB t.data.toList b = true) : vldB (t.extract a b).data.toList = true := by
  rw [vldB_iff] at hv ⊢
  rw [edgeB_iff] at ha hb2
  rw [extract_list]
  have h1 := (vld_edge _ b hv hb2).1
  have e : (t.data.toList.take b).drop a = (t.data.toList.drop a).take (b - a) := by rw [List.drop_take]
  rw [← e]
  refine (vld_edge _ a h1 ?_).2
  have hl : t.data.toList.length = t.size := by simp
  rcases Nat.lt_or_ge a b with g | g
  · rcases ha with h | h | ⟨h, hc⟩
    · exact .inl h
    · omega
    · refine .inr (.inr ⟨by rw [List.length_take]; omega, ?_⟩)
      have := bt_app_lt (t.data.toList.take b) (t.data.toList.drop b) a (by rw [List.length_take]; omega)
      rw [List.take_append_drop] at this
      rw [← this]
      exact hc
  · exact .inr (.inl (by rw [List.length_take]; omega))
theorem del_app {t : ByteArray} {i n : Int} (hv : vldB t.data.toList = true) (ht : t.size ≤ 4096) (h : delE t i n = 0) : appE t (delX t i n).p (delX t i n).o (delX t i n).n = (delS t i n, 0) ∧ ((delX t i n).o.size : Int) = n := by
  obtain ⟨h1, h2, h3⟩ := delE_zero h
  obtain ⟨g1, g2, g3⟩ := stand_iff.1 h1
  obtain ⟨k, rfl⟩ := Int.eq_ofNat_of_zero_le g1
  obtain ⟨m, rfl⟩ := Int.eq_ofNat_of_zero_le g2
  have e1 : ((k : Int) + (m : Int)).toNat = k + m := by omega
  have e3 : ((k : Int) + (m : Int)) = ((k + m : Nat) : Int) := by omega
  have hs : (t.extract k (k + m)).size = m := by rw [ByteArray.size_extract]; omega
  have hx : delX t k m = ⟨k, t.extract k (k + m), ⟨#[]⟩⟩ := by unfold delX; rw [e1, Int.toNat_natCast]
  rw [hx]
  rw [e3] at h3
  refine ⟨?_, by show ((t.extract k (k + m)).size : Int) = m; rw [hs]⟩
  show appE t k (t.extract k (k + m)) ⟨#[]⟩ = _
  rw [appE_ok (by omega) (by rw [hs]) h2 (by rw [hs]; exact h3) (vld_mid hv (by omega) (by omega) h2 h3) (by decide) (by rw [hs]; show ¬ 4096 + m < t.size + 0; omega), hs]
  unfold delS
  rw [if_pos h, e1]
  congr 1
  apply str_ext
  simp
theorem InvS.runs {s : StaD} (h : InvS s) {st : List Edt} (hr : rightS s.t st = true) : ∃ t', runE s.t st = (t', 0) ∧ vldB t'.data.toList = true ∧ t'.size ≤ 4096 ∧ rightS t' (invL st) = true ∧ (runE t' (invL st)).1 = s.t := by
  obtain ⟨h1, h2, h3⟩ := rightS_iff.1 hr
  obtain ⟨a, b, c⟩ := run_back h.v h.z (run_pair h3)
  exact ⟨_, run_pair h3, a, b, rightS_iff.2 ⟨by rw [invL_len]; exact h1, by rw [invL_len]; exact h2, by rw [c]⟩, by rw [c]⟩
theorem inv_edit {s : StaD} {x : Edt} {t' : ByteArray} (h : InvS s) (hx : appE s.t x.p x.o x.n = (t', 0)) (ho : okE5 x = true) : InvS (editD s x).1 := by
  unfold editD
  by_cases hc : s.o = true ∧ 32 ≤ s.g.length
  · rw [if_pos hc]; exact h
  rw [if_neg hc, hx]
  obtain ⟨hb, hv⟩ := back_app h.v h.z hx
  have hm := marks_shift h.v hx h.m
  by_cases hp : s.o = true
  · have hgr : runE t' (invL (s.g ++ [x])) = runE s.t (invL s.g) := by
      rw [invL_app]
      exact runE_ok (x := x.back) hb
    refine ⟨hv, appE_size0 hx, hm, goes16_nil _ _, .inr ⟨hp, rfl⟩, ?_, ?_, ?_, ?_, fun l hl => absurd hl (by simp), ?_⟩
    · show (if s.o = true then s.g ++ [x] else s.g).length ≤ 32
      rw [if_pos hp, List.length_append, List.length_singleton]
      have : ¬ 32 ≤ s.g.length := fun g => hc ⟨hp, g⟩
      omega
    · show (runE t' (invL (if s.o = true then s.g ++ [x] else s.g))).2 = 0
      rw [if_pos hp, hgr]
      exact h.gr
    · show goes16 invL (runE t' (invL (if s.o = true then s.g ++ [x] else s.g))).1 (if s.o = true then s.u else pushL s.u [x]) = true
      rw [if_pos hp, if_pos hp, hgr]
      exact h.u
    · show ∀ l ∈ (if s.o = true then s.u else pushL s.u [x]), _
      rw [if_pos hp]
      exact h.ue
    · show ∀ y ∈ (if s.o = true then s.g ++ [x] else s.g), _
      rw [if_pos hp]
      intro y hy
      rcases List.mem_append.1 hy with hy | hy
      · exact h.ge y hy
      · rw [List.mem_singleton.1 hy]; exact ho
  · have hg : s.g = [] := by
      rcases h.go with g | g
      · exact g
      · exact absurd g.1 hp
    have hu := h.u
    rw [hg] at hu
    refine ⟨hv, appE_size0 hx, hm, goes16_nil _ _, .inl (by show (if s.o = true then s.g ++ [x] else s.g) = []; rw [if_neg hp, hg]), ?_, ?_, ?_, ?_, fun l hl => absurd hl (by simp), ?_⟩
    · show (if s.o = true then s.g ++ [x] else s.g).length ≤ 32
      rw [if_neg hp]; exact h.gl
    · show (runE t' (invL (if s.o = true then s.g ++ [x] else s.g))).2 = 0
      rw [if_neg hp, hg]
      rfl
    · show goes16 invL (runE t' (invL (if s.o = true then s.g ++ [x] else s.g))).1 (if s.o = true then s.u else pushL s.u [x]) = true
      rw [if_neg hp, if_neg hp, hg]
      have hb1 : runE t' (invL [x]) = (s.t, 0) := run_one (x := x.back) hb
      exact goes16_push (t := s.t) (rightS_iff.2 ⟨by rw [invL_len]; exact Nat.le_refl _, by rw [invL_len]; simp, by show (runE t' (invL [x])).2 = 0; rw [hb1]⟩) (by show (runE t' (invL [x])).1 = s.t; rw [hb1]) hu
    · show ∀ l ∈ (if s.o = true then s.u else pushL s.u [x]), _
      rw [if_neg hp]
      intro l hl y hy
      rcases push_mem hl with g | g
      · exact h.ue l g y hy
      · rw [g] at hy; rw [List.mem_singleton.1 hy]; exact ho
    · show ∀ y ∈ (if s.o = true then s.g ++ [x] else s.g), _
      rw [if_neg hp]; exact h.ge
theorem inv_marks {s : StaD} (h : InvS s) {l : List Mrk} (hl : rightM l s.t = true) : InvS ⟨s.t, l, s.u, s.r, s.o, s.g⟩ := ⟨h.v, h.z, hl, h.r, h.go, h.gl, h.gr, h.u, h.ue, h.re, h.ge⟩
theorem inv_undo {s : StaD} (h : InvS s) : InvS (undoD s).1 := by
  unfold undoD
  by_cases ho : s.o = true
  · rw [if_pos ho]; exact h
  rw [if_neg ho]
  by_cases hl : s.u.length = 0
  · rw [if_pos hl]; exact h
  rw [if_neg hl]
  have hg : s.g = [] := by
    rcases h.go with g | g
    · exact g
    · exact absurd g.1 ho
  have hu := h.u
  rw [hg] at hu
  obtain ⟨k, hk⟩ : ∃ k, s.u.length = k + 1 := ⟨s.u.length - 1, by omega⟩
  rw [show s.u.length - 1 = k by omega]
  obtain ⟨hr, hrest⟩ := goes16_last hk hu
  obtain ⟨t', e, hv, hz, hb, hbt⟩ := h.runs hr
  rw [invL_inv] at hb hbt
  replace hrest : goes16 invL (runE s.t (invL s.u[k]!)).1 (s.u.take k) = true := hrest
  rw [e] at hrest ⊢
  have hm := h.ue _ (get_mem (L := s.u) (k := k) (by omega))
  refine ⟨hv, hz, marks_run h.v h.z e h.m, goes16_push (f := id) hb hbt h.r, .inl hg, h.gl, ?_, ?_, fun l hl => h.ue l (List.mem_of_mem_take hl), fun l hl => ?_, h.ge⟩
  · show (runE t' (invL s.g)).2 = 0
    rw [hg]; rfl
  · show goes16 invL (runE t' (invL s.g)).1 _ = true
    rw [hg]; exact hrest
  · rcases push_mem hl with g | g
    · exact h.re l g
    · rw [g]; exact hm
theorem inv_redo {s : StaD} (h : InvS s) : InvS (redoD s).1 := by
  unfold redoD
  by_cases ho : s.o = true
  · rw [if_pos ho]; exact h
  rw [if_neg ho]
  by_cases hl : s.r.length = 0
  · rw [if_pos hl]; exact h
  rw [if_neg hl]
  have hg : s.g = [] := by
    rcases h.go with g | g
    · exact g
    · exact absurd g.1 ho
  have hu := h.u
  rw [hg] at hu
  obtain ⟨k, hk⟩ : ∃ k, s.r.length = k + 1 := ⟨s.r.length - 1, by omega⟩
  rw [show s.r.length - 1 = k by omega]
  obtain ⟨hr, hrest⟩ := goes16_last hk h.r
  obtain ⟨t', e, hv, hz, hb, hbt⟩ := h.runs (st := s.r[k]!) hr
  replace hrest : goes16 id (runE s.t s.r[k]!).1 (s.r.take k) = true := hrest
  rw [e] at hrest ⊢
  have hm := h.re _ (get_mem (L := s.r) (k := k) (by omega))
  refine ⟨hv, hz, marks_run h.v h.z e h.m, hrest, .inl hg, h.gl, ?_, ?_, fun l hl => ?_, fun l hl => h.re l (List.mem_of_mem_take hl), h.ge⟩
  · show (runE t' (invL s.g)).2 = 0
    rw [hg]; rfl
  · show goes16 invL (runE t' (invL s.g)).1 _ = true
    rw [hg]; exact goes16_push (f := invL) hb hbt hu
  · rcases push_mem hl with g | g
    · exact h.ue l g
    · rw [g]; exact hm
theorem inv_begin {s : StaD} (h : InvS s) : InvS (beginD s).1 := by
  unfold beginD
  by_cases ho : s.o = true
  · rw [if_pos ho]; exact h
  rw [if_neg ho]
  have hg : s.g = [] := by
    rcases h.go with g | g
    · exact g
    · exact absurd g.1 ho
  exact ⟨h.v, h.z, h.m, h.r, .inl hg, h.gl, h.gr, h.u, h.ue, h.re, h.ge⟩
theorem inv_end {s : StaD} (h : InvS s) : InvS (endD s).1 := by
  unfold endD
  by_cases ho : s.o = false
  · rw [if_pos ho]; exact h
  rw [if_neg ho]
  refine ⟨h.v, h.z, h.m, h.r, .inl rfl, Nat.zero_le _, rfl, ?_, ?_, h.re, fun x hx => absurd hx (by simp)⟩
  · show goes16 invL s.t (if s.g.length = 0 then s.u else pushL s.u s.g) = true
    by_cases hg : s.g.length = 0
    · rw [if_pos hg]
      have e : s.g = [] := List.eq_nil_of_length_eq_zero hg
      have hu := h.u
      rw [e] at hu
      exact hu
    · rw [if_neg hg]
      exact goes16_push (f := invL) (rightS_iff.2 ⟨by rw [invL_len]; omega, by rw [invL_len]; exact h.gl, h.gr⟩) rfl h.u
  · show ∀ l ∈ (if s.g.length = 0 then s.u else pushL s.u s.g), _
    by_cases hg : s.g.length = 0
    · rw [if_pos hg]; exact h.ue
    · rw [if_neg hg]
      intro l hl
      rcases push_mem hl with g | g
      · exact h.ue l g
      · rw [g]; exact h.ge
theorem rise_pair {l : List Mrk} : riseM l = true ↔ l.Pairwise (fun a b => ltN a.name b.name) := by
  rw [List.pairwise_iff_getElem]
  constructor
  · intro h i j hi hj hij
    have := rise_lt h hij hj
    rwa [mget hi, mget hj] at this
  · intro h
    refine (riseM_iff l).2 fun i hi => (nleB_iff _ _).2 ?_
    rw [mget hi, mget (show i < l.length by omega)]
    exact h i (i + 1) (by omega) hi (Nat.lt_succ_self i)
theorem rightM_mem {l : List Mrk} {t : ByteArray} : rightM l t = true ↔ (∀ y ∈ l, okM t y = true) ∧ l.length ≤ 16 ∧ l.Pairwise (fun a b => ltN a.name b.name) := by
  rw [rightM_iff, rise_pair]
  constructor
  · rintro ⟨h1, h2, h3⟩
    refine ⟨fun y hy => ?_, h2, h3⟩
    obtain ⟨i, hi, rfl⟩ := List.getElem_of_mem hy
    have := h1 i hi
    rwa [mget hi] at this
  · rintro ⟨h1, h2, h3⟩
    exact ⟨fun i hi => by rw [mget hi]; exact h1 _ (List.getElem_mem hi), h2, h3⟩
theorem ltN_total {a b : ByteArray} (h : ¬ ltN b a) (hn : ¬ a = b) : ltN a b := by
  unfold ltN at h ⊢
  rcases Decidable.em (a.data.toList < b.data.toList) with g | g
  · exact g
  · refine absurd ?_ hn
    have := List.le_antisymm (List.not_lt.1 h) (List.not_lt.1 g)
    exact ByteArray.ext (Array.toList_inj.1 this)
theorem drop_right {l : List Mrk} {t : ByteArray} (h : rightM l t = true) (s : ByteArray) : rightM (dropM l s) t = true := by
  rw [rightM_mem] at h ⊢
  obtain ⟨h1, h2, h3⟩ := h
  exact ⟨fun y hy => h1 y (List.mem_filter.1 hy).1, Nat.le_trans (dropM_len l s) h2, h3.filter _⟩
theorem drp_right {l : List Mrk} {t : ByteArray} (h : rightM l t = true) (s : ByteArray) (ho : (drpM l s).2 = 0) : rightM (drpM l s).1 t = true := by
  unfold drpM at ho ⊢
  split
  · exact drop_right h s
  · rename_i hc
    rw [if_neg hc] at ho
    cases ho
theorem pair_mid {R : Mrk → Mrk → Prop} {a b : List Mrk} {x : Mrk} (h : (a ++ b).Pairwise R) (ha : ∀ y ∈ a, R y x) (hb : ∀ y ∈ b, R x y) : (a ++ [x] ++ b).Pairwise R := by
  rw [List.pairwise_append] at h
  rw [List.append_assoc, List.pairwise_append]
  refine ⟨h.1, ?_, ?_⟩
  · rw [List.singleton_append, List.pairwise_cons]
    exact ⟨hb, h.2.1⟩
  · intro y hy z hz
    rw [List.singleton_append] at hz
    rcases List.mem_cons.1 hz with rfl | hz
    · exact ha y hy
    · exact h.2.2 y hy z hz
theorem set_right {l : List Mrk} {x : Mrk} {t : ByteArray} (h : rightM l t = true) (hx : edgeB t.data.toList x.p = true) (ho : (setM l x).2 = 0) : rightM (setM l x).1 t = true := by
  have hri := ((rightM_iff l t).1 h).2.2
  obtain ⟨h1, h2, h3⟩ := rightM_mem.1 h
  unfold setM at ho ⊢
  by_cases c1 : markB x.name.data.toList = false
  · rw [if_pos c1] at ho; cases ho
  rw [if_neg c1] at ho ⊢
  have hok : okM t x = true := by
    unfold okM
    rw [bool_yes c1, hx]
    rfl
  by_cases c2 : l.findIdx (nmB x.name) < l.length
  · rw [if_pos c2]
    show rightM (withM (dropM l x.name) x) t = true
    rw [set_rise hri c2]
    obtain ⟨i, he⟩ : ∃ i, l.findIdx (nmB x.name) = i := ⟨_, rfl⟩
    have hn := idx_at c2
    rw [he] at c2 hn ⊢
    have hn' : (l[i]!).name = x.name := of_decide_eq_true hn
    rw [mget c2] at hn'
    have e : l = l.take i ++ l[i] :: l.drop (i + 1) := by simp
    rw [e, List.pairwise_append, List.pairwise_cons] at h3
    obtain ⟨p1, ⟨p2, p3⟩, p4⟩ := h3
    rw [rightM_mem]
    refine ⟨fun y hy => ?_, ?_, ?_⟩
    · rw [List.append_assoc, List.mem_append, List.singleton_append, List.mem_cons] at hy
      rcases hy with hy | rfl | hy
      · exact h1 y (List.mem_of_mem_take hy)
      · exact hok
      · exact h1 y (List.mem_of_mem_drop hy)
    · rw [List.length_append, List.length_append, List.length_take, List.length_drop, List.length_singleton]
      omega
    · refine pair_mid ?_ (fun y hy => ?_) (fun y hy => ?_)
      · rw [List.pairwise_append]
        exact ⟨p1, p3, fun y hy z hz => p4 y hy z (List.mem_cons_of_mem _ hz)⟩
      · have := p4 y hy l[i] (List.mem_cons_self ..)
        rwa [hn'] at this
      · have := p2 y hy
        rwa [hn'] at this
  · rw [if_neg c2] at ho ⊢
    by_cases c3 : 16 ≤ l.length
    · rw [if_pos c3] at ho; cases ho
    rw [if_neg c3]
    show rightM (withM l x) t = true
    unfold withM
    obtain ⟨i, he⟩ : ∃ i, l.findIdx (gtB x.name) = i := ⟨_, rfl⟩
    have hle := idx_le l (gtB x.name)
    have ha := fun j => idx_ahead (l := l) (f := gtB x.name) (j := j)
    have hat := idx_at (l := l) (f := gtB x.name)
    have hnn : ∀ j, j < l.length → ¬ (l[j]!).name = x.name := fun j hj g => by
      have h4 : l.findIdx (nmB x.name) = l.length := Nat.le_antisymm (idx_le _ _) (Nat.not_lt.1 c2)
      have := idx_ahead (l := l) (f := nmB x.name) (j := j) (by omega)
      unfold nmB at this
      exact of_decide_eq_false this g
    rw [he] at hle ha hat ⊢
    rw [rightM_mem]
    unfold putM
    have e : l = l.take i ++ l.drop i := (List.take_append_drop i l).symm
    refine ⟨fun y hy => ?_, ?_, ?_⟩
    · rw [List.append_assoc, List.mem_append, List.singleton_append, List.mem_cons] at hy
      rcases hy with hy | rfl | hy
      · exact h1 y (List.mem_of_mem_take hy)
      · exact hok
      · exact h1 y (List.mem_of_mem_drop hy)
    · rw [List.length_append, List.length_append, List.length_take, List.length_drop, List.length_singleton]
      omega
    · refine pair_mid (by rw [← e]; exact h3) (fun y hy => ?_) (fun y hy => ?_)
      · obtain ⟨j, hj, rfl⟩ := List.getElem_of_mem hy
        rw [List.length_take] at hj
        rw [List.getElem_take]
        have g1 := ha j (by omega)
        have g2 := hnn j (by omega)
        rw [mget (by omega)] at g1 g2
        exact ltN_total (fun g => by rw [(gtB_iff _ _).2 g] at g1; cases g1) g2
      · obtain ⟨j, hj, rfl⟩ := List.getElem_of_mem hy
        rw [List.length_drop] at hj
        rw [List.getElem_drop]
        have hil : i < l.length := by omega
        have g1 := (gtB_iff _ _).1 (hat hil)
        rcases Nat.eq_zero_or_pos j with rfl | hj0
        · rw [mget hil] at g1
          exact g1
        · have g2 := rise_lt hri (show i < i + j by omega) (by omega)
          rw [mget (show i + j < l.length by omega)] at g2
          exact ltN_trans g1 g2
def stD0 : StaD := ⟨⟨#[]⟩, [], [], [], false, []⟩
theorem inv_nil : InvS stD0 := ⟨by decide, Nat.zero_le _, by decide, goes16_nil _ _, .inl rfl, Nat.zero_le _, rfl, goes16_nil _ _, fun l hl => absurd hl (by simp [stD0]), fun l hl => absurd hl (by simp [stD0]), fun l hl => absurd hl (by simp [stD0])⟩
theorem edit_no {s : StaD} {x : Edt} (h : (editD s x).2 ≠ 0) : (editD s x).1 = s := by
  unfold editD at h ⊢
  split
  · rfl
  · rename_i c; rw [if_neg c] at h; exact absurd rfl h
theorem ins_no {s : StaD} {i : Int} {x : ByteArray} (h : (insD s i x).2 ≠ 0) : (insD s i x).1 = s := by
  unfold insD at h ⊢
  split
  · rfl
  split
  · rfl
  split
  · rfl
  rename_i a b c
  rw [if_neg a, if_neg b, if_neg c] at h
  exact edit_no h
theorem del_no {s : StaD} {i n : Int} (h : (delD s i n).2 ≠ 0) : (delD s i n).1 = s := by
  unfold delD at h ⊢
  split
  · rfl
  split
  · rfl
  split
  · rfl
  rename_i a b c
  rw [if_neg a, if_neg b, if_neg c] at h
  exact edit_no h
theorem with_no {s : StaD} {r : List Mrk × Int} (h : (withMk s r).2 ≠ 0) : (withMk s r).1 = s := by
  unfold withMk at h ⊢
  exact if_neg h
theorem mark_no {s : StaD} {i : Int} {x : ByteArray} (h : (markD s i x).2 ≠ 0) : (markD s i x).1 = s := by
  unfold markD at h ⊢
  split
  · rfl
  split
  · rfl
  split
  · rfl
  rename_i a b c
  rw [if_neg a, if_neg b, if_neg c] at h
  exact with_no h
theorem undo_no {s : StaD} (h : (undoD s).2 ≠ 0) : (undoD s).1 = s := by
  unfold undoD at h ⊢
  split
  · rfl
  split
  · rfl
  rename_i a b
  rw [if_neg a, if_neg b] at h
  exact absurd rfl h
theorem redo_no {s : StaD} (h : (redoD s).2 ≠ 0) : (redoD s).1 = s := by
  unfold redoD at h ⊢
  split
  · rfl
  split
  · rfl
  rename_i a b
  rw [if_neg a, if_neg b] at h
  exact absurd rfl h
theorem begin_no {s : StaD} (h : (beginD s).2 ≠ 0) : (beginD s).1 = s := by
  unfold beginD at h ⊢
  split
  · rfl
  rename_i a
  rw [if_neg a] at h
  exact absurd rfl h
theorem end_no {s : StaD} (h : (endD s).2 ≠ 0) : (endD s).1 = s := by
  unfold endD at h ⊢
  split
  · rfl
  rename_i a
  rw [if_neg a] at h
  exact absurd rfl h
theorem do_no {s : StaD} {k i n : Int} {x : ByteArray} (h : (doD s k i n x).2 ≠ 0) : (doD s k i n x).1 = s := by
  unfold doD at h ⊢
  by_cases c1 : k = 1
  · rw [if_pos c1] at h ⊢; exact ins_no h
  rw [if_neg c1] at h ⊢
  by_cases c2 : k = 2
  · rw [if_pos c2] at h ⊢; exact del_no h
  rw [if_neg c2] at h ⊢
  by_cases c3 : k = 3
  · rw [if_pos c3] at h ⊢; exact mark_no h
  rw [if_neg c3] at h ⊢
  by_cases c4 : k = 4
  · rw [if_pos c4] at h ⊢; exact with_no h
  rw [if_neg c4] at h ⊢
  by_cases c5 : k = 5
  · rw [if_pos c5] at h ⊢; exact undo_no h
  rw [if_neg c5] at h ⊢
  by_cases c6 : k = 6
  · rw [if_pos c6] at h ⊢; exact redo_no h
  rw [if_neg c6] at h ⊢
  by_cases c7 : k = 7
  · rw [if_pos c7] at h ⊢; exact begin_no h
  rw [if_neg c7] at h ⊢
  by_cases c8 : k = 8
  · rw [if_pos c8] at h ⊢; exact end_no h
  rw [if_neg c8]
theorem goesE_len {f : List Edt → List Edt} (hf : ∀ l, (f l).length = l.length) {t : ByteArray} {L : List (List Edt)} (h : goesE f t L = true) : ∀ l ∈ L, 1 ≤ l.length ∧ l.length ≤ 32 := by
  induction L generalizing t with
  | nil => exact fun l hl => absurd hl (by simp)
  | cons x r ih =>
    cases hx : rightS t (f x)
    · rw [goesE_no hx] at h; cases h
    · rw [goesE_ok hx] at h
      intro l hl
      rcases List.mem_cons.1 hl with rfl | hl
      · have := rightS_iff.1 hx
        rw [hf] at this
        exact ⟨this.1, this.2.1⟩
      · exact ih h l hl
theorem InvS.ul {s : StaD} (h : InvS s) : s.u.length ≤ 16 ∧ ∀ l ∈ s.u, 1 ≤ l.length ∧ l.length ≤ 32 := by
  obtain ⟨h1, h2⟩ := goes16_iff.1 h.u
  exact ⟨h2, fun l hl => goesE_len invL_len h1 l (List.mem_reverse.2 hl)⟩
theorem InvS.rl {s : StaD} (h : InvS s) : s.r.length ≤ 16 ∧ ∀ l ∈ s.r, 1 ≤ l.length ∧ l.length ≤ 32 := by
  obtain ⟨h1, h2⟩ := goes16_iff.1 h.r
  exact ⟨h2, fun l hl => goesE_len (f := id) (fun _ => rfl) h1 l (List.mem_reverse.2 hl)⟩
theorem InvS.ml {s : StaD} (h : InvS s) : s.m.length ≤ 16 := ((rightM_iff _ _).1 h.m).2.1
theorem lsP_all {l : List EPc} {P : List Edt → Prop} (h : ∀ x ∈ lsP l, P x) : ∀ x ∈ l, P x.l := fun x hx => h _ (List.mem_map.2 ⟨x, hx, rfl⟩)
end Go.Proofs.YtfiobemeogaaiaaGreat
namespace Go.Proofs.YtfiobemeogaaiaaGreat
open Go.RowKit
set_option linter.unusedVariables false
set_option linter.unusedSimpArgs false
structure EPo (S : List Nat) (w : World) (x : EPc) : Prop where
  row : Edts w (Off S w) x.a x.l
  nil : x.a = none → x.c = 0
structure KPo (S : List Nat) (w : World) (x : KPc) : Prop where
  row : Mrks w (Off S w) x.a x.l
  nil : x.a = none → x.c = 0
structure SPo (S : List Nat) (w : World) (x : SPc) : Prop where
  row : Scs w (Off S w) x.a x.l
  all : ∀ y ∈ x.l, EPo S w y
  nil : x.a = none → x.c = 0
  le : x.l.length ≤ x.c
  cap : x.c ≤ maxLen
structure StaO (S : List Nat) (w : World) (s : Sta) : Prop where
  m : KPo S w s.m
  u : SPo S w s.u
  r : SPo S w s.r
  g : EPo S w s.g
theorem off_wide {S S' : List Nat} {w : World} (hS : ∀ i ∈ S', i ∈ S ∨ w.heap.size ≤ i) {b : Nat} (hb : Off S w b) : Off S' w b := ⟨hb.1, fun g => by
  have h1 := hb.1
  rcases hS b g with g | g
  · exact hb.2 g
  · omega⟩
theorem EPo.in {S : List Nat} {w : World} {x : EPc} (h : EPo S w x) : EPcs w x := ⟨h.row.more fun _ hb => hb.1, h.nil⟩
theorem EPo.apart {S : List Nat} {w w' : World} {x : EPc} (h : EPo S w x) (ha : Apart S w w') : EPo S w' x := ⟨(h.row.keep fun p hp => ha.cell hp.1 hp.2).more fun b hb => hb.on ha.size, h.nil⟩
theorem EPo.wide {S S' : List Nat} {w : World} {x : EPc} (h : EPo S w x) (hS : ∀ i ∈ S', i ∈ S ∨ w.heap.size ≤ i) : EPo S' w x := ⟨h.row.more fun b hb => off_wide hS hb, h.nil⟩
theorem EPo.later {S : List Nat} {w w' : World} {x : EPc} (h : EPo S w x) (hb : Below w.heap.size w w') : EPo S w' x := h.apart (.of_below hb)
theorem EPcs.bare {w : World} {x : EPc} (h : EPcs w x) : EPo [] w x := ⟨h.row.more fun b hb => ⟨hb, by simp⟩, h.nil⟩
theorem ERow.off {S : List Nat} {w : World} {base : Nat} {x : EPc} (h : ERow w base x) (hS : ∀ i ∈ S, i < base) : EPo S w x := ⟨h.row.more fun b hb => ⟨hb.2, fun g => by have := hS b g; have := hb.1; omega⟩, h.nil⟩
theorem KPo.in {S : List Nat} {w : World} {x : KPc} (h : KPo S w x) : KPcs w x := ⟨h.row.more fun _ hb => hb.1, h.nil⟩
theorem KPo.pcs {S : List Nat} {w : World} {a : Option Addr} {l : List Mrk} {c : Nat} (h : KPo S w ⟨a, l, c⟩) : Pcs w ⟨a, l, c⟩ := ⟨h.row.more fun _ hb => hb.1, h.nil⟩
theorem KPo.apart {S : List Nat} {w w' : World} {x : KPc} (h : KPo S w x) (ha : Apart S w w') : KPo S w' x := ⟨(h.row.keep fun p hp => ha.cell hp.1 hp.2).more fun b hb => hb.on ha.size, h.nil⟩
theorem KPo.wide {S S' : List Nat} {w : World} {x : KPc} (h : KPo S w x) (hS : ∀ i ∈ S', i ∈ S ∨ w.heap.size ≤ i) : KPo S' w x := ⟨h.row.more fun b hb => off_wide hS hb, h.nil⟩
theorem KPo.later {S : List Nat} {w w' : World} {x : KPc} (h : KPo S w x) (hb : Below w.heap.size w w') : KPo S w' x := h.apart (.of_below hb)
theorem KPcs.bare {w : World} {x : KPc} (h : KPcs w x) : KPo [] w x := ⟨h.row.more fun b hb => ⟨hb, by simp⟩, h.nil⟩
theorem MrkR.off {S : List Nat} {w : World} {base : Nat} {a : Option Addr} {l : List Mrk} {c : Nat} (h : MrkR w base a l c) (hS : ∀ i ∈ S, i < base) : KPo S w ⟨a, l, c⟩ := ⟨h.row.more fun b hb => ⟨hb.2, fun g => by have := hS b g; have := hb.1; omega⟩, h.nil⟩
theorem SPo.in {S : List Nat} {w : World} {x : SPc} (h : SPo S w x) : SPcs w x := ⟨h.row.more fun _ hb => hb.1, fun y hy => (h.all y hy).in, h.nil, h.le, h.cap⟩
theorem SPo.apart {S : List Nat} {w w' : World} {x : SPc} (h : SPo S w x) (ha : Apart S w w') : SPo S w' x := ⟨(h.row.keep fun p hp => ha.cell hp.1 hp.2).more fun b hb => hb.on ha.size, fun y hy => (h.all y hy).apart ha, h.nil, h.le, h.cap⟩
theorem SPo.wide {S S' : List Nat} {w : World} {x : SPc} (h : SPo S w x) (hS : ∀ i ∈ S', i ∈ S ∨ w.heap.size ≤ i) : SPo S' w x := ⟨h.row.more fun b hb => off_wide hS hb, fun y hy => (h.all y hy).wide hS, h.nil, h.le, h.cap⟩
theorem SPo.later {S : List Nat} {w w' : World} {x : SPc} (h : SPo S w x) (hb : Below w.heap.size w w') : SPo S w' x := h.apart (.of_below hb)
theorem SPcs.bare {w : World} {x : SPc} (h : SPcs w x) : SPo [] w x := ⟨h.row.more fun b hb => ⟨hb, by simp⟩, fun y hy => (h.all y hy).bare, h.nil, h.le, h.cap⟩
theorem SRow.off {S : List Nat} {w : World} {base : Nat} {x : SPc} (h : SRow w base x) (hS : ∀ i ∈ S, i < base) (ha : ∀ y ∈ x.l, EPo S w y) : SPo S w x := ⟨h.row.more fun b hb => ⟨hb.2, fun g => by have := hS b g; have := hb.1; omega⟩, ha, h.nil, h.le, h.cap⟩
theorem SPo.empty (S : List Nat) (w : World) : SPo S w ⟨none, [], 0⟩ := ⟨fun k hk => absurd hk (by simp), fun x hx => absurd hx (by simp), fun _ => rfl, Nat.le_refl _, Nat.zero_le _⟩
theorem EPo.empty (S : List Nat) (w : World) : EPo S w ⟨none, [], 0⟩ := ⟨fun k hk => absurd hk (by simp), fun _ => rfl⟩
theorem KPo.empty (S : List Nat) (w : World) : KPo S w ⟨none, [], 0⟩ := ⟨fun k hk => absurd hk (by simp), fun _ => rfl⟩
theorem StaO.in {S : List Nat} {w : World} {s : Sta} (h : StaO S w s) : StaIn w s := ⟨h.m.in, h.u.in, h.r.in, h.g.in⟩
theorem StaO.apart {S : List Nat} {w w' : World} {s : Sta} (h : StaO S w s) (ha : Apart S w w') : StaO S w' s := ⟨h.m.apart ha, h.u.apart ha, h.r.apart ha, h.g.apart ha⟩
theorem StaO.wide {S S' : List Nat} {w : World} {s : Sta} (h : StaO S w s) (hS : ∀ i ∈ S', i ∈ S ∨ w.heap.size ≤ i) : StaO S' w s := ⟨h.m.wide hS, h.u.wide hS, h.r.wide hS, h.g.wide hS⟩
theorem StaO.later {S : List Nat} {w w' : World} {s : Sta} (h : StaO S w s) (hb : Below w.heap.size w w') : StaO S w' s := h.apart (.of_below hb)
theorem StaIn.bare {w : World} {s : Sta} (h : StaIn w s) : StaO [] w s := ⟨h.m.bare, h.u.bare, h.r.bare, h.g.bare⟩
theorem SPo.take {S : List Nat} {w : World} {a : Option Addr} {l : List EPc} {c : Nat} (h : SPo S w ⟨a, l, c⟩) (n : Nat) : SPo S w ⟨a, l.take n, c⟩ :=
  ⟨Scs.take h.row n, fun x hx => h.all x (List.mem_of_mem_take hx), h.nil, by have := h.le; show (l.take n).length ≤ c; rw [List.length_take]; have h2 : l.length ≤ c := this; omega, h.cap⟩
theorem ret_stk_off {S : List Nat} {w w' : World} {L : List (List Edt)} {e : Ending} (h : RetStk w L e w') (hS : ∀ i ∈ S, i < w.heap.size) : ∃ x : SPc, e = .returned (.slice x.a x.l.length x.c) ∧ lsP x.l = L ∧ SPo S w' x ∧ Below w.heap.size w w' := by
  obtain ⟨a, c, l, rfl, hl, hr, ⟨g, rfl, hg, ha⟩, -, hb⟩ := h
  exact ⟨⟨_, l, c⟩, rfl, hl, hr.off hS fun y hy => (ha y hy).off fun i hi => by have := hS i hi; omega, hb⟩
theorem ret_pop_off {S : List Nat} {w w' : World} {L : List (List Edt)} {s : List Edt} {e : Ending} (h : RetPop w L s e w') (hS : ∀ i ∈ S, i < w.heap.size) : ∃ (x : SPc) (a2 : Option Addr) (c2 : Nat), e = .returned (.tuple #[.slice x.a x.l.length x.c, stpV a2 s.length c2, .int .i64 0]) ∧ lsP x.l = L ∧ SPo S w' x ∧ EPo S w' ⟨a2, s, c2⟩ ∧ Below w.heap.size w w' := by
  obtain ⟨a, c, l, a2, c2, rfl, hl, hr, ha, h2, hb⟩ := h
  exact ⟨⟨a, l, c⟩, a2, c2, rfl, hl, hr.off hS fun y hy => (ha y hy).off hS, h2.off hS, hb⟩
theorem KnotW.offb {w : World} {B : Nat → Prop} {b : Nat} {cs : Array Value} (hb : Blk w b cs 54) {m : Bool} (h0 : cs[0]? = some (.bool m)) : ∀ {h k : Nat} {L : List ByteArray}, KnotW w B h k L → KnotW w (fun i => B i ∧ i ≠ b) h k L
  | 0, k, L, ⟨hk, s, e, hf, hB⟩ => ⟨⟨hk, fun g => by
      subst g
      have := hB.symm.trans hb
      cases this⟩, s, e, hf, hB⟩
  | h + 1, k, L, ⟨hk, K, g, c, h2, h3, h4, h5, e, h6, h7, h8⟩ => ⟨⟨hk, fun g => by
      subst g
      have := h8.symm.trans hb
      cases this⟩, K, g, c, h2, h3, h4, fun x hx => (h5 x hx).offb hb h0, e, ⟨h6, fun q => by
      subst q
      have h9 := h7.2 0 (by rw [ptrs_len]; omega)
      have h10 := hb.cell 0 _ h0
      rw [Nat.zero_add] at h9
      have h11 := h10.symm.trans h9
      simp [ptrs] at h11⟩, h7, h8⟩
theorem RopeW.apart {w w' : World} {r p : Option Addr} {L : List ByteArray} {s : ByteArray} (h : RopeW w r p L s) {b : Nat} {cs : Array Value} (hb : Blk w b cs 54) {m : Bool} (h0 : cs[0]? = some (.bool m)) (ha : Apart [b] w w') : RopeW w' r p L s := by
  have hn : ∀ i, i < w.heap.size → i ≠ b → w'.heap[i]? = w.heap[i]? := fun i hi hne => ha.block i hi (by simpa using hne)
  refine ⟨⟨?_, h.x.tight, h.x.txt, h.x.small⟩, ?_⟩
  · rcases h.x.t with t | ⟨k, hh, e, hk⟩
    · exact .inl t
    · exact .inr ⟨k, hh, e, (((hk.offb hb h0).keep ha.size fun i hi => hn i hi.1.1 hi.2).weak fun i hi => hi.1.on ha.size)⟩
  · rcases h.at' with t | ⟨k, e, hl, hc⟩
    · exact .inl t
    · refine .inr ⟨k, e, Nat.lt_of_lt_of_le hl ha.size, ?_⟩
      have hne : k ≠ b := fun g => by
        subst g
        have := (hb.cell 0 _ h0).symm.trans hc
        cases this
      exact (World.cell?_of_block (w := w) (hn k hl hne)).trans hc
abbrev edC (made : Bool) (r : Option Addr) (t : ByteArray) (m : KPc) (u ro : SPc) (o : Bool) (g : EPc) : Array Value := #[.bool made, .pointer r, .string t, .slice m.a m.l.length m.c, .slice u.a u.l.length u.c, .slice ro.a ro.l.length ro.c, .bool o, .slice g.a g.l.length g.c]
structure IsEd (w : World) (b : Nat) (s : Sta) (rb : Nat) (p : Option Addr) (L : List ByteArray) : Prop where
  blk : Blk w b (edC true (some ⟨rb, 0, none⟩) ⟨#[]⟩ s.m s.u s.r s.o s.g) 54
  rope : RopeW w (some ⟨rb, 0, none⟩) p L s.t
  rows : StaO [b] w s
  ml : s.m.l.length ≤ s.m.c
  mc : s.m.c ≤ maxLen
  inv : InvS s.d
theorem IsEd.lt {w : World} {b : Nat} {s : Sta} {rb : Nat} {p : Option Addr} {L : List ByteArray} (h : IsEd w b s rb p L) : b < w.heap.size := h.blk.lt
theorem IsEd.later {w w' : World} {b : Nat} {s : Sta} {rb : Nat} {p : Option Addr} {L : List ByteArray} (h : IsEd w b s rb p L) (hb : Below w.heap.size w w') : IsEd w' b s rb p L := ⟨h.blk.onto hb, h.rope.later hb, h.rows.later hb, h.ml, h.mc, h.inv⟩
def RetEd (w : World) (b : Nat) (r : StaD × Int) (e : Ending) (w' : World) : Prop := ∃ (s' : Sta) (rb' : Nat) (p' : Option Addr) (L' : List ByteArray), e = .returned (.int .i64 r.2) ∧ IsEd w' b s' rb' p' L' ∧ s'.d = r.1 ∧ Apart [b] w w'
theorem Blk.eight {w : World} {b : Nat} {x0 x1 x2 x3 x4 x5 x6 x7 : Value} {t : TypeId} (h : Blk w b #[x0, x1, x2, x3, x4, x5, x6, x7] t) :
    w.cell? ⟨b, 0, none⟩ = some x0 ∧ w.cell? ⟨b, 1, none⟩ = some x1 ∧ w.cell? ⟨b, 2, none⟩ = some x2 ∧ w.cell? ⟨b, 3, none⟩ = some x3 ∧ w.cell? ⟨b, 4, none⟩ = some x4 ∧ w.cell? ⟨b, 5, none⟩ = some x5 ∧ w.cell? ⟨b, 6, none⟩ = some x6 ∧ w.cell? ⟨b, 7, none⟩ = some x7 :=
  ⟨h.cell 0 _ rfl, h.cell 1 _ rfl, h.cell 2 _ rfl, h.cell 3 _ rfl, h.cell 4 _ rfl, h.cell 5 _ rfl, h.cell 6 _ rfl, h.cell 7 _ rfl⟩
theorem Blk.all8 {w : World} {b : Nat} {x0 x1 x2 x3 x4 x5 x6 x7 : Value} {t : TypeId} (h : Blk w b #[x0, x1, x2, x3, x4, x5, x6, x7] t) :
    w.cell? ⟨b, 0, none⟩ = some x0 ∧ w.cell? ⟨b, 1, none⟩ = some x1 ∧ w.cell? ⟨b, 2, none⟩ = some x2 ∧ w.cell? ⟨b, 3, none⟩ = some x3 ∧ w.cell? ⟨b, 4, none⟩ = some x4 ∧ w.cell? ⟨b, 5, none⟩ = some x5 ∧ w.cell? ⟨b, 6, none⟩ = some x6 ∧ w.cell? ⟨b, 7, none⟩ = some x7 ∧
    w.frozen? ⟨b, 0, none⟩ = false ∧ w.frozen? ⟨b, 1, none⟩ = false ∧ w.frozen? ⟨b, 2, none⟩ = false ∧ w.frozen? ⟨b, 3, none⟩ = false ∧ w.frozen? ⟨b, 4, none⟩ = false ∧ w.frozen? ⟨b, 5, none⟩ = false ∧ w.frozen? ⟨b, 6, none⟩ = false ∧ w.frozen? ⟨b, 7, none⟩ = false :=
  ⟨h.cell 0 _ rfl, h.cell 1 _ rfl, h.cell 2 _ rfl, h.cell 3 _ rfl, h.cell 4 _ rfl, h.cell 5 _ rfl, h.cell 6 _ rfl, h.cell 7 _ rfl, h.free 0, h.free 1, h.free 2, h.free 3, h.free 4, h.free 5, h.free 6, h.free 7⟩
theorem Blk.all6 {w : World} {b : Nat} {x0 x1 x2 x3 x4 x5 : Value} {t : TypeId} (h : Blk w b #[x0, x1, x2, x3, x4, x5] t) :
    w.cell? ⟨b, 0, none⟩ = some x0 ∧ w.cell? ⟨b, 1, none⟩ = some x1 ∧ w.cell? ⟨b, 2, none⟩ = some x2 ∧ w.cell? ⟨b, 3, none⟩ = some x3 ∧ w.cell? ⟨b, 4, none⟩ = some x4 ∧ w.cell? ⟨b, 5, none⟩ = some x5 ∧
    w.frozen? ⟨b, 0, none⟩ = false ∧ w.frozen? ⟨b, 1, none⟩ = false ∧ w.frozen? ⟨b, 2, none⟩ = false ∧ w.frozen? ⟨b, 3, none⟩ = false ∧ w.frozen? ⟨b, 4, none⟩ = false ∧ w.frozen? ⟨b, 5, none⟩ = false :=
  ⟨h.cell 0 _ rfl, h.cell 1 _ rfl, h.cell 2 _ rfl, h.cell 3 _ rfl, h.cell 4 _ rfl, h.cell 5 _ rfl, h.free 0, h.free 1, h.free 2, h.free 3, h.free 4, h.free 5⟩
theorem Blk.all4 {w : World} {b : Nat} {x0 x1 x2 x3 : Value} {t : TypeId} (h : Blk w b #[x0, x1, x2, x3] t) :
    w.cell? ⟨b, 0, none⟩ = some x0 ∧ w.cell? ⟨b, 1, none⟩ = some x1 ∧ w.cell? ⟨b, 2, none⟩ = some x2 ∧ w.cell? ⟨b, 3, none⟩ = some x3 ∧
    w.frozen? ⟨b, 0, none⟩ = false ∧ w.frozen? ⟨b, 1, none⟩ = false ∧ w.frozen? ⟨b, 2, none⟩ = false ∧ w.frozen? ⟨b, 3, none⟩ = false :=
  ⟨h.cell 0 _ rfl, h.cell 1 _ rfl, h.cell 2 _ rfl, h.cell 3 _ rfl, h.free 0, h.free 1, h.free 2, h.free 3⟩
theorem Blk.all3 {w : World} {b : Nat} {x0 x1 x2 : Value} {t : TypeId} (h : Blk w b #[x0, x1, x2] t) :
    w.cell? ⟨b, 0, none⟩ = some x0 ∧ w.cell? ⟨b, 1, none⟩ = some x1 ∧ w.cell? ⟨b, 2, none⟩ = some x2 ∧
    w.frozen? ⟨b, 0, none⟩ = false ∧ w.frozen? ⟨b, 1, none⟩ = false ∧ w.frozen? ⟨b, 2, none⟩ = false :=
  ⟨h.cell 0 _ rfl, h.cell 1 _ rfl, h.cell 2 _ rfl, h.free 0, h.free 1, h.free 2⟩
theorem Blk.all1 {w : World} {b : Nat} {x0 : Value} {t : TypeId} (h : Blk w b #[x0] t) :
    w.cell? ⟨b, 0, none⟩ = some x0 ∧
    w.frozen? ⟨b, 0, none⟩ = false :=
  ⟨h.cell 0 _ rfl, h.free 0⟩
theorem box2 (w : World) (A B : Array Value) (ta tb : TypeId) : ∃ W, (w.alloc (.cells A ta)).alloc (.cells B tb) = W ∧ Blk W w.heap.size A ta ∧ Blk W (w.heap.size + 1) B tb ∧ Below w.heap.size w W ∧ W.heap.size = w.heap.size + 1 + 1 := by
  have h2 := Blk.new (w.alloc (.cells A ta)) B tb
  rw [World.size_alloc] at h2
  exact ⟨_, rfl, (Blk.new w A ta).alloc _, h2, below2 w _ _, by simp⟩
theorem box1 (w : World) (A : Array Value) (ta : TypeId) : ∃ W, w.alloc (.cells A ta) = W ∧ Blk W w.heap.size A ta ∧ Below w.heap.size w W ∧ W.heap.size = w.heap.size + 1 := ⟨_, rfl, Blk.new w A ta, below1 w _, by simp⟩
end Go.Proofs.YtfiobemeogaaiaaGreat
namespace Go.Proofs.YtfiobemeogaaiaaGreat
open Lib (hid)
open Go.RowKit
set_option linter.unusedVariables false
set_option linter.unusedSimpArgs false
section
variable (made : Bool) (r : Option Addr) (t : ByteArray) (ma : Option Addr) (mn mc : Nat) (ua : Option Addr) (un uc : Nat) (ra : Option Addr) (rn rc : Nat) (o : Bool) (ga : Option Addr) (gn gc : Nat)
abbrev edN : Value := .agg #[.bool made, .pointer r, .string t, .slice ma mn mc, .slice ua un uc, .slice ra rn rc, .bool o, .slice ga gn gc]
theorem edr_f0 (w : World) : (Instr.field 54 (edN made r t ma mn mc ua un uc ra rn rc o ga gn gc) 0).run Tryz.prog w = .ok (.bool made) w := by kernel_rfl
theorem edr_f1 (w : World) : (Instr.field 54 (edN made r t ma mn mc ua un uc ra rn rc o ga gn gc) 1).run Tryz.prog w = .ok (.pointer r) w := by kernel_rfl
theorem edr_f2 (w : World) : (Instr.field 54 (edN made r t ma mn mc ua un uc ra rn rc o ga gn gc) 2).run Tryz.prog w = .ok (.agg #[.string t, .slice ma mn mc, .slice ua un uc, .slice ra rn rc, .bool o, .slice ga gn gc]) w := by kernel_rfl
theorem edr_s1 (w : World) : (Instr.field 31 (.agg #[.string t, .slice ma mn mc, .slice ua un uc, .slice ra rn rc, .bool o, .slice ga gn gc]) 1).run Tryz.prog w = .ok (.slice ma mn mc) w := by kernel_rfl
end
structure Nw (w : World) (e : Option Addr) (v : Value) : Prop where
  out : ∀ W, Below w.heap.size w W → Calls Tryz.prog 31 #[.pointer e] W fun x W' => x = .returned v ∧ Below W.heap.size W W'
theorem Nw.later {w W : World} {e : Option Addr} {v : Value} (h : Nw w e v) (hb : Below w.heap.size w W) : Nw W e v := ⟨fun W' hW' => h.out W' (hb.trans (hW'.mono hb.size))⟩
set_option maxRecDepth 100000 in
set_option maxHeartbeats 800000 in
theorem now_some {w : World} {b : Nat} {made : Bool} {r : Option Addr} {t : ByteArray} {ma : Option Addr} {mn mc : Nat} {ua : Option Addr} {un uc : Nat} {ra : Option Addr} {rn rc : Nat} {o : Bool} {ga : Option Addr} {gn gc : Nat}
    (h : Blk w b #[.bool made, .pointer r, .string t, .slice ma mn mc, .slice ua un uc, .slice ra rn rc, .bool o, .slice ga gn gc] 54) :
    Calls Tryz.prog 31 #[.pointer (some ⟨b, 0, none⟩)] w fun x w' => x = .returned (edN made r t ma mn mc ua un uc ra rn rc o ga gn gc) ∧ Below w.heap.size w w' := by
  obtain ⟨p0, p1, p2, p3, p4, p5, p6, p7⟩ := h.alloc (.cells #[.bool false, .pointer none, .string ⟨#[]⟩, .slice none 0 0, .slice none 0 0, .slice none 0 0, .bool false, .slice none 0 0] 54) |>.eight
  clear h
  go_enter Tryz.func31, Tryz.ntmps31
  go_wp2
  refine bodyPost_ret (results_cell_row (P := Tryz.prog) (fn := Tryz.f31) (p := 2) (ty := 54) rfl _ _ w.heap.size 54 _ (0, 0) _ rfl (Blk.new _ _ _) Tryz.underlying54 rfl (by kernel_rfl)) rfl ?_
  exact ⟨rfl, below1 _ _⟩
set_option maxRecDepth 100000 in
set_option maxHeartbeats 800000 in
theorem now_none (w : World) :
    Calls Tryz.prog 31 #[.pointer none] w fun x w' => x = .returned (edN false none ⟨#[]⟩ none 0 0 none 0 0 none 0 0 false none 0 0) ∧ Below w.heap.size w w' := by
  go_enter Tryz.func31, Tryz.ntmps31
  go_wp2
  refine bodyPost_ret (results_cell_row (P := Tryz.prog) (fn := Tryz.f31) (p := 2) (ty := 54) rfl _ _ w.heap.size 54 _ (0, 0) _ rfl (Blk.new _ _ _) Tryz.underlying54 rfl (by kernel_rfl)) rfl ?_
  exact ⟨rfl, below1 _ _⟩
theorem Nw.some {w : World} {b : Nat} {made : Bool} {r : Option Addr} {t : ByteArray} {ma : Option Addr} {mn mc : Nat} {ua : Option Addr} {un uc : Nat} {ra : Option Addr} {rn rc : Nat} {o : Bool} {ga : Option Addr} {gn gc : Nat}
    (h : Blk w b #[.bool made, .pointer r, .string t, .slice ma mn mc, .slice ua un uc, .slice ra rn rc, .bool o, .slice ga gn gc] 54) : Nw w (.some ⟨b, 0, none⟩) (edN made r t ma mn mc ua un uc ra rn rc o ga gn gc) := ⟨fun W hW => now_some (h.onto hW)⟩
theorem Nw.none (w : World) : Nw w .none (edN false .none ⟨#[]⟩ .none 0 0 .none 0 0 .none 0 0 false .none 0 0) := ⟨fun W _ => now_none W⟩
section
variable {w : World} {e : Option Addr} {made : Bool} {r : Option Addr} {t : ByteArray} {ma : Option Addr} {mn mc : Nat} {ua : Option Addr} {un uc : Nat} {ra : Option Addr} {rn rc : Nat} {o : Bool} {ga : Option Addr} {gn gc : Nat}
set_option maxRecDepth 100000 in
set_option maxHeartbeats 800000 in
theorem ed_rope (h : Nw w e (edN made r t ma mn mc ua un uc ra rn rc o ga gn gc)) :
    Calls Tryz.prog 18 #[.pointer e] w fun x w' => x = .returned (.pointer r) ∧ Below w.heap.size w w' := by
  have cn := h.out w (Below.refl _ _)
  have cf := edr_f1 made r t ma mn mc ua un uc ra rn rc o ga gn gc
  have CN := hid cn
  clear cn h
  go_enter Tryz.func18, Tryz.ntmps18
  go_wp2_with fail
  refine CN.out.mono ?_; rintro x w1 ⟨rfl, hb1⟩
  go_wp2
  go_ret
  exact ⟨rfl, hb1⟩
set_option maxRecDepth 100000 in
set_option maxHeartbeats 800000 in
theorem ed_len (h : Nw w e (edN made r t ma mn mc ua un uc ra rn rc o ga gn gc)) {p : Option Addr} {L : List ByteArray} {s : ByteArray} (hr : RopeW w r p L s) :
    Calls Tryz.prog 13 #[.pointer e] w fun x w' => x = .returned (.int .i64 s.size) ∧ Below w.heap.size w w' := by
  have cn := ed_rope h
  have cl := fun W (hW : Below w.heap.size w W) => ro_len (hr.later hW)
  have CN := hid cn; have CL := hid cl
  clear cn cl h hr
  go_enter Tryz.func13, Tryz.ntmps13
  go_wp2_with fail
  refine CN.out.mono ?_; rintro x w1 ⟨rfl, hb1⟩
  have HB1 := hid hb1
  clear hb1
  go_wp2_with fail
  refine (onward HB1.out (CL.out _ HB1.out)).mono ?_; rintro x w2 ⟨rfl, hb2⟩
  go_wp2
  go_ret
  exact ⟨rfl, hb2⟩
set_option maxRecDepth 100000 in
set_option maxHeartbeats 800000 in
theorem ed_find {l : List Mrk} (h : Nw w e (edN made r t ma l.length mc ua un uc ra rn rc o ga gn gc)) (hm : Mrks w (· < w.heap.size) ma l) (hl : l.length ≤ 1000000) (s : ByteArray) :
    Calls Tryz.prog 14 #[.pointer e, .string s] w fun x w' => x = .returned (.tuple #[.int .i64 (fndM l s).1, .bool (fndM l s).2]) ∧ Below w.heap.size w w' := by
  have cn := h.out w (Below.refl _ _)
  have cf := edr_f2 made r t ma l.length mc ua un uc ra rn rc o ga gn gc
  have cs := edr_s1 t ma l.length mc ua un uc ra rn rc o ga gn gc
  have cm := fun W (hW : Below w.heap.size w W) => mfound_any ma l mc s _ W ((hm.below (fun _ h => h) hW).more fun b hb => Nat.lt_of_lt_of_le hb hW.size) (fun _ h => h) hl
  obtain ⟨n, hn⟩ : ∃ n, l.length = n := ⟨_, rfl⟩
  obtain ⟨⟨fi, fb⟩, hf⟩ : ∃ x, fndM l s = x := ⟨_, rfl⟩
  rw [hn] at cn cf cs cm
  rw [hf] at cm ⊢
  have CN := hid cn; have CM := hid cm
  clear cn cm h hm hl hn hf
  go_enter Tryz.func14, Tryz.ntmps14
  go_wp2_with fail
  refine CN.out.mono ?_; rintro x w1 ⟨rfl, hb1⟩
  have HB1 := hid hb1
  clear hb1
  go_wp2_with fail
  refine (onward HB1.out (CM.out _ HB1.out)).mono ?_; rintro x w2 ⟨rfl, hb2⟩
  go_wp2
  go_ret2
  exact ⟨rfl, hb2⟩
end
end Go.Proofs.YtfiobemeogaaiaaGreat
namespace Go.Proofs.YtfiobemeogaaiaaGreat
open Lib (hid)
open Go.RowKit
set_option linter.unusedVariables false
set_option linter.unusedSimpArgs false
set_option maxRecDepth 100000 in
set_option maxHeartbeats 1600000 in
theorem ed_push {w : World} {b : Nat} {made : Bool} {r : Option Addr} {t : ByteArray} {m : KPc} {u ro : SPc} {o : Bool} {g : EPc} (hk : Blk w b (edC made r t m u ro o g) 54) (hu : SPo [b] w u) (y : EPc) (hy : EPo [b] w y) (hl : u.l.length ≤ 900) (hb : ∀ x ∈ u.l, x.l.length ≤ 1000000) (hb2 : y.l.length ≤ 1000000) :
    Calls Tryz.prog 109 #[.pointer (some ⟨b, 0, none⟩), stpV y.a y.l.length y.c] w fun e w' => e = .returned (.tuple #[]) ∧ ∃ u' : SPc, lsP u'.l = pushL (lsP u.l) y.l ∧ Blk w' b (edC made r t m u' ro o g) 54 ∧ SPo [b] w' u' ∧ Apart [b] w w' := by
  have hbl : b < w.heap.size := hk.lt
  obtain ⟨ya, yl, yc⟩ := y
  obtain ⟨n, hn⟩ : ∃ n, yl.length = n := ⟨_, rfl⟩
  dsimp only at hb2 ⊢
  rw [hn]
  obtain ⟨wX, hwX, kS, hb0, hz⟩ := box1 w #[.slice ya n yc] 69
  have KO0 := hid (hk.onto hb0)
  have KS0 := hid (kS)
  have HB0 := hid ((Apart.of_below hb0 : Apart [b] w wX))
  have HG0 := hid (Nat.le_refl wX.heap.size)
  have hlt2 : ∀ W : World, wX.heap.size ≤ W.heap.size → ∀ i ∈ [b, w.heap.size], i < W.heap.size := fun W h i hi => by simp only [List.mem_cons, List.not_mem_nil, or_false] at hi; rcases hi with rfl | rfl <;> omega
  have cP := fun W (hW : Below wX.heap.size wX W) => (stk_push_any u.a u.l u.c ⟨ya, yl, yc⟩ W ((hu.later hb0).later hW).in ((hy.later hb0).later hW).in hl hb hb2).mono fun e w' h => ret_stk_off (S := [b, w.heap.size]) h (hlt2 W hW.size)
  simp only [hn] at cP
  have HN := hid hn; have CP := hid cP
  clear hk kS hu hy hl hb hb2 cP hb0 hz hlt2
  obtain ⟨zO0_0, zO0_1, zO0_2, zO0_3, zO0_4, zO0_5, zO0_6, zO0_7, fO0_0, fO0_1, fO0_2, fO0_3, fO0_4, fO0_5, fO0_6, fO0_7⟩ := KO0.out.all8
  obtain ⟨zS0_0, fS0_0⟩ := KS0.out.all1
  have q4 : wX.drew.cell? ⟨b, 4, none⟩ = some (.slice u.a u.l.length u.c) := zO0_4
  go_enter Tryz.func109, Tryz.ntmps109
  go_wp2_with fail
  clear zO0_0 zO0_1 zO0_2 zO0_3 zO0_4 zO0_5 zO0_6 zO0_7 fO0_0 fO0_1 fO0_2 fO0_3 fO0_4 fO0_5 fO0_6 fO0_7 zS0_0 fS0_0
  refine wp_region_held_drew (S := (fun W : World => W.cell? ⟨w.heap.size, 0, none⟩ = some (.slice ya n yc))) (by kernel_rfl) (KS0.out.cell 0 _ rfl) (fun hHeld => ?_)
  refine sqt 0 ?_
  try simp only [Act.put, sqp]
  refine sqt 1 ?_
  try simp only [Act.put, sqp]
  refine sqt 2 ?_
  try simp only [Act.put, sqp]
  refine sqt 3 ?_
  try simp only [Act.put, sqp]
  refine sqt 4 ?_
  try simp only [Act.put, sqp]
  refine sqt 6 ?_
  try simp only [Act.put, sqp]
  refine wpAnyH_ready (rs := [5]) (by kernel_rfl) (by simp) ?_
  refine AllReadyH.cons (by simp only [sqg]; rfl) (fun K hK => ?_) AllReadyH.nil
  go_simp
  skip
  try go_wp2_with fail
  refine hK.out _ _ ?_ (fun hHeld => ?_)
  · exact hHeld
  clear hK K
  try simp only [Act.put, sqp]
  refine wpAnyH_ready (rs := [7]) (by kernel_rfl) (by simp) ?_
  refine AllReadyH.cons (by simp only [sqg]; rfl) (fun K hK => ?_) AllReadyH.nil
  go_simp
  (go_at_call 139; refine (CP.out _ (Below.refl _ _).drew).mono ?_; rintro e w1 ⟨⟨xa, xl, xc⟩, rfl, hl1, hp1, hb1⟩; have hb1' : Below wX.heap.size wX w1 := (Below.refl _ _).drew.trans hb1)
  try go_wp2_with fail
  refine hK.out _ _ ?_ (fun hHeld => ?_)
  · exact (hb1'.cell (p := ⟨w.heap.size, 0, none⟩) KS0.out.lt).trans (KS0.out.cell 0 _ rfl)
  clear hK K
  try simp only [Act.put, sqp]
  clear q4 hb1 hwX CP
  have KO1 := hid (KO0.out.onto hb1')
  have KS1 := hid (KS0.out.onto hb1')
  have HB1 := hid (HB0.out.trans (S' := []) (.of_below hb1') (by simp))
  have HG1 := hid (Nat.le_trans HG0.out hb1'.size)
  have HL := hid hl1; have RP1 := hid hp1
  clear hl1 hp1 hb1'
  obtain ⟨zO1_0, zO1_1, zO1_2, zO1_3, zO1_4, zO1_5, zO1_6, zO1_7, fO1_0, fO1_1, fO1_2, fO1_3, fO1_4, fO1_5, fO1_6, fO1_7⟩ := KO1.out.all8
  obtain ⟨zS1_0, fS1_0⟩ := KS1.out.all1
  refine sqt 8 ?_
  try simp only [Act.put, sqp]
  refine sqt 9 ?_
  try simp only [Act.put, sqp]
  refine sqt 10 ?_
  try simp only [Act.put, sqp]
  refine wpAnyH_ready (rs := [11]) (by kernel_rfl) (by simp) ?_
  refine AllReadyH.cons (by simp only [sqg]; rfl) (fun K hK => ?_) AllReadyH.nil
  go_simp
  skip
  try go_wp2_with fail
  refine hK.out _ _ ?_ (fun hHeld => ?_)
  · exact (KS1.out.other ⟨b, 4, none⟩ (by show b ≠ w.heap.size; omega) _).cell 0 _ rfl
  clear hK K
  try simp only [Act.put, sqp]
  refine wpAnyH_done (by kernel_rfl) ?_ _
  have kO : Blk (w1.setCell ⟨b, 4, none⟩ (.slice xa xl.length xc)) (b) #[.bool made, .pointer r, .string t, .slice m.a m.l.length m.c, .slice xa xl.length xc, .slice ro.a ro.l.length ro.c, .bool o, .slice g.a g.l.length g.c] 54 := (KO1.out.set 4 _)
  have kS : Blk (w1.setCell ⟨b, 4, none⟩ (.slice xa xl.length xc)) (w.heap.size) #[.slice ya n yc] 69 := (KS1.out.other ⟨b, 4, none⟩ (by show b ≠ w.heap.size; omega) _)
  have ap : Apart [b, w.heap.size] w1 (w1.setCell ⟨b, 4, none⟩ (.slice xa xl.length xc)) := (Apart.refl [b, w.heap.size] w1).setCell (p := ⟨b, 4, none⟩) (.inl (by simp)) _
  have rP := RP1.out.apart ap
  have hB := ((HB1.out.setCell (p := ⟨b, 4, none⟩) (by simp) _) : Apart [b] w (w1.setCell ⟨b, 4, none⟩ (.slice xa xl.length xc)))
  have hz : (w1.setCell ⟨b, 4, none⟩ (.slice xa xl.length xc)).heap.size = w1.heap.size := by simp
  obtain ⟨v2, hv2⟩ : ∃ V, (w1.setCell ⟨b, 4, none⟩ (.slice xa xl.length xc)) = V := ⟨_, rfl⟩
  rw [hv2] at kO kS rP hB hz
  rw [hv2]
  have KO2 := hid kO
  have KS2 := hid kS
  have RP2 := hid rP
  have HB2 := hid hB
  have HG2 := hid (Nat.le_trans HG1.out (Nat.le_of_eq hz.symm))
  clear kO kS rP hB hz ap KO1 KS1 RP1 HB1 HG1
  obtain ⟨zO2_0, zO2_1, zO2_2, zO2_3, zO2_4, zO2_5, zO2_6, zO2_7, fO2_0, fO2_1, fO2_2, fO2_3, fO2_4, fO2_5, fO2_6, fO2_7⟩ := KO2.out.all8
  obtain ⟨zS2_0, fS2_0⟩ := KS2.out.all1
  go_wp2
  go_end0
  exact ⟨rfl, ⟨xa, xl, xc⟩, HL.out, KO2.out, RP2.out.wide (S' := [b]) (fun i hi => .inl (List.mem_cons.2 (.inl (List.mem_singleton.1 hi)))), HB2.out⟩
set_option maxRecDepth 100000 in
set_option maxHeartbeats 800000 in
theorem ed_keep {w : World} {b : Nat} {made : Bool} {r : Option Addr} {t : ByteArray} {m : KPc} {u ro : SPc} {o : Bool} {g : EPc} (hk : Blk w b (edC made r t m u ro o g) 54) (a : Option Addr) (n c : Nat) :
    Calls Tryz.prog 104 #[.pointer (some ⟨b, 0, none⟩), .slice a n c, .int .i64 0] w fun e w' => e = .returned (.int .i64 0) ∧ Blk w' b #[.bool made, .pointer r, .string t, .slice a n c, .slice u.a u.l.length u.c, .slice ro.a ro.l.length ro.c, .bool o, .slice g.a g.l.length g.c] 54 ∧ Apart [b] w w' := by
  have hbl : b < w.heap.size := hk.lt
  have KO0 := hid (hk)
  have HB0 := hid ((Apart.refl [b] w))
  have HG0 := hid (Nat.le_refl w.heap.size)
  clear hk
  obtain ⟨zO0_0, zO0_1, zO0_2, zO0_3, zO0_4, zO0_5, zO0_6, zO0_7, fO0_0, fO0_1, fO0_2, fO0_3, fO0_4, fO0_5, fO0_6, fO0_7⟩ := KO0.out.all8
  go_enter Tryz.func104, Tryz.ntmps104
  have kO : Blk (w.setCell ⟨b, 3, none⟩ (.slice a n c)) (b) #[.bool made, .pointer r, .string t, .slice a n c, .slice u.a u.l.length u.c, .slice ro.a ro.l.length ro.c, .bool o, .slice g.a g.l.length g.c] 54 := (KO0.out.set 3 _)
  have hB := ((HB0.out.setCell (p := ⟨b, 3, none⟩) (by simp) _) : Apart [b] w (w.setCell ⟨b, 3, none⟩ (.slice a n c)))
  have hz : (w.setCell ⟨b, 3, none⟩ (.slice a n c)).heap.size = w.heap.size := by simp
  obtain ⟨v1, hv1⟩ : ∃ V, (w.setCell ⟨b, 3, none⟩ (.slice a n c)) = V := ⟨_, rfl⟩
  rw [hv1] at kO hB hz
  have KO1 := hid kO
  have HB1 := hid hB
  have HG1 := hid (Nat.le_trans HG0.out (Nat.le_of_eq hz.symm))
  clear kO hB hz KO0 HB0 HG0
  obtain ⟨zO1_0, zO1_1, zO1_2, zO1_3, zO1_4, zO1_5, zO1_6, zO1_7, fO1_0, fO1_1, fO1_2, fO1_3, fO1_4, fO1_5, fO1_6, fO1_7⟩ := KO1.out.all8
  go_wp2
  go_ret
  exact ⟨rfl, KO1.out, HB1.out⟩
set_option maxRecDepth 100000 in
set_option maxHeartbeats 800000 in
theorem ed_keep_no (w : World) (p : Option Addr) (v : Value) (E : Int) (hE : E ≠ 0) :
    Calls Tryz.prog 104 #[.pointer p, v, .int .i64 E] w fun e w' => e = .returned (.int .i64 E) ∧ w = w' := by
  have h0 : (E == 0) = false := beq_eq_false_iff_ne.2 hE
  go_enter Tryz.func104, Tryz.ntmps104
  go_wp2
  go_ret
  exact ⟨rfl, rfl⟩
set_option maxRecDepth 100000 in
set_option maxHeartbeats 1600000 in
theorem ed_show {w : World} {b : Nat} {made : Bool} {r : Option Addr} {t : ByteArray} {m : KPc} {u ro : SPc} {o : Bool} {g : EPc} (hk : Blk w b (edC made r t m u ro o g) 54) (hm : KPo [b] w m) (hml : m.l.length ≤ 1000000) (hmc : m.l.length ≤ m.c ∧ m.c ≤ maxLen) (r' : Option Addr) (x : EPc) (hx : EPo [b] w x) (hxl : x.l.length ≤ 100000) (hz : Edtz x.l 4294967296) (hp : ∀ y ∈ x.l, 0 ≤ y.p ∧ y.p ≤ 4096)
    (hms : ∀ k, k ≤ x.l.length → ∀ y ∈ shfL m.l (x.l.take k), -2305843009213693952 ≤ y.p ∧ y.p ≤ 2305843009213693952) :
    Calls Tryz.prog 133 #[.pointer (some ⟨b, 0, none⟩), .pointer r', .slice x.a x.l.length x.c] w fun e w' => e = .returned (.tuple #[]) ∧ ∃ m' : KPc, m'.l = shfL m.l x.l ∧ (m'.l.length ≤ m'.c ∧ m'.c ≤ maxLen) ∧ Blk w' b (edC made r' t m' u ro o g) 54 ∧ KPo [b] w' m' ∧ Apart [b] w w' := by
  have hbl : b < w.heap.size := hk.lt
  obtain ⟨xa, l, xc⟩ := x
  dsimp only at hxl hz hp hms ⊢
  obtain ⟨n, hn⟩ : ∃ n, l.length = n := ⟨_, rfl⟩
  rw [hn] at hxl hms ⊢
  have KO0 := hid (hk)
  have HB0 := hid ((Apart.refl [b] w))
  have HG0 := hid (Nat.le_refl w.heap.size)
  clear hk
  obtain ⟨zO0_0, zO0_1, zO0_2, zO0_3, zO0_4, zO0_5, zO0_6, zO0_7, fO0_0, fO0_1, fO0_2, fO0_3, fO0_4, fO0_5, fO0_6, fO0_7⟩ := KO0.out.all8
  have HX := hid hx; have HM := hid hm; have HZ := hid hz; have HP := hid hp; have HMS := hid hms; have HML := hid hml; have HMC := hid hmc; have HN := hid hn
  clear hx hm hz hp hms hml hmc hn
  go_enter Tryz.func133, Tryz.ntmps133
  have kO : Blk (w.setCell ⟨b, 1, none⟩ (.pointer r')) (b) #[.bool made, .pointer r', .string t, .slice m.a m.l.length m.c, .slice u.a u.l.length u.c, .slice ro.a ro.l.length ro.c, .bool o, .slice g.a g.l.length g.c] 54 := (KO0.out.set 1 _)
  have hB := ((HB0.out.setCell (p := ⟨b, 1, none⟩) (by simp) _) : Apart [b] w (w.setCell ⟨b, 1, none⟩ (.pointer r')))
  have hz : (w.setCell ⟨b, 1, none⟩ (.pointer r')).heap.size = w.heap.size := by simp
  obtain ⟨v1, hv1⟩ : ∃ V, (w.setCell ⟨b, 1, none⟩ (.pointer r')) = V := ⟨_, rfl⟩
  rw [hv1] at kO hB hz
  have KO1 := hid kO
  have HB1 := hid hB
  have HG1 := hid (Nat.le_trans HG0.out (Nat.le_of_eq hz.symm))
  clear kO hB hz KO0 HB0 HG0
  obtain ⟨zO1_0, zO1_1, zO1_2, zO1_3, zO1_4, zO1_5, zO1_6, zO1_7, fO1_0, fO1_1, fO1_2, fO1_3, fO1_4, fO1_5, fO1_6, fO1_7⟩ := KO1.out.all8
  go_wp2
  clear zO0_0 zO0_1 zO0_2 zO0_3 zO0_4 zO0_5 zO0_6 zO0_7 fO0_0 fO0_1 fO0_2 fO0_3 fO0_4 fO0_5 fO0_6 fO0_7 hv1 zO1_0 zO1_1 zO1_2 zO1_3 zO1_4 zO1_5 zO1_6 zO1_7 fO1_0 fO1_1 fO1_2 fO1_3 fO1_4 fO1_5 fO1_6 fO1_7
  go_loopw [14] (fun i wr => ∃ (k : Nat) (m' : KPc), k ≤ n ∧ i = .int .i64 k ∧ m'.l = shfL m.l (l.take k) ∧ (m'.l.length ≤ m'.c ∧ m'.c ≤ maxLen) ∧ Blk wr b #[.bool made, .pointer r', .string t, .slice m'.a m'.l.length m'.c, .slice u.a u.l.length u.c, .slice ro.a ro.l.length ro.c, .bool o, .slice g.a g.l.length g.c] 54 ∧ KPo [b] wr m' ∧ EPo [b] wr ⟨xa, l, xc⟩ ∧ Apart [b] w wr) (fun i _ => n - (intOf i).toNat)
  case atStart => exact ⟨0, m, Nat.zero_le _, rfl, rfl, HMC.out, KO1.out, HM.out.apart HB1.out, HX.out.apart HB1.out, HB1.out⟩
  case round =>
    obtain ⟨k, ⟨ma, ml, mc⟩, hk, rfl, hml, hmc, hblk, hkm, hkx, hap⟩ := hrel
    dsimp only at hml hmc hblk
    by_cases hlt : k < n
    · have hkl : k < l.length := by rw [HN.out]; exact hlt
      obtain ⟨ad, rfl, hab, q0, q1, q2⟩ := hkx.in.row.at k hkl
      obtain ⟨s1, s2⟩ := HZ.out.at k hkl
      have sp := HP.out (l[k]!) (by rw [eget hkl]; exact List.getElem_mem hkl)
      have sn := shfL_next m.l l k hkl
      have sm := HMS.out k hk
      rw [← hml] at sn sm
      obtain ⟨x, hx⟩ : ∃ x, l[k]! = x := ⟨_, rfl⟩
      rw [hx] at q0 q1 q2 s1 s2 sp sn
      obtain ⟨p, eo, en⟩ := x
      simp only at q0 q1 q2 s1 s2 sp sn
      have hbl2 : b < wr.heap.size := hblk.lt
      have mle : ml.length ≤ 1000000 := by rw [hml, shfL_len]; exact HML.out
      obtain ⟨wE, hwE, kE, hb, hz⟩ := box1 wr #[.int .i64 p, .string eo, .string en] 87
      have q3 : wr.cell? ⟨b, 3, none⟩ = some (.slice ma ml.length mc) := hblk.cell 3 _ rfl
      have KO0 := hid (hblk.onto hb)
      have KE0 := hid (kE)
      have RX0 := hid ((hkx.wide (S' := [b, wr.heap.size]) (fun i hi => by simp only [List.mem_cons, List.not_mem_nil, or_false] at hi; rcases hi with rfl | rfl; exact .inl (by simp); exact .inr (Nat.le_refl _))).later hb)
      have HB0 := hid (hap.trans (S' := []) (.of_below hb) (by simp))
      have HG0 := hid (Nat.le_refl wE.heap.size)
      have hlt2 : ∀ W : World, wE.heap.size ≤ W.heap.size → ∀ i ∈ [b, wr.heap.size], i < W.heap.size := fun W h i hi => by simp only [List.mem_cons, List.not_mem_nil, or_false] at hi; rcases hi with rfl | rfl <;> omega
      have cs := fun W (hW : Below wE.heap.size wE W) => mshift_anyR ma ml mc p eo en W (KPo.pcs ((hkm.later hb).later hW)) mle s1 s2 (by omega) sm
      have CS := hid cs; have SN := hid sn; have HLT := hid hlt2; have HHA := hid hap
      have b0 : (0 : Int) ≤ (k : Int) := by omega
      have b1 : (k : Int) < (n : Int) := by omega
      clear cs sn hlt2 hkx hkm hblk hap hb hz kE hx s1 s2 sp sm hml mle hab hkl
      obtain ⟨zO0_0, zO0_1, zO0_2, zO0_3, zO0_4, zO0_5, zO0_6, zO0_7, fO0_0, fO0_1, fO0_2, fO0_3, fO0_4, fO0_5, fO0_6, fO0_7⟩ := KO0.out.all8
      obtain ⟨zE0_0, zE0_1, zE0_2, fE0_0, fE0_1, fE0_2⟩ := KE0.out.all3
      have q5 : wE.drew.cell? ⟨b, 3, none⟩ = some (.slice ma ml.length mc) := zO0_3
      go_wp2_with fail
      clear zO0_0 zO0_1 zO0_2 zO0_3 zO0_4 zO0_5 zO0_6 zO0_7 fO0_0 fO0_1 fO0_2 fO0_3 fO0_4 fO0_5 fO0_6 fO0_7 zE0_0 zE0_1 zE0_2 fE0_0 fE0_1 fE0_2
      refine wp_region_held_drew (S := (fun W : World => W.cell? ⟨wr.heap.size, 0, none⟩ = some (.int .i64 p) ∧ W.cell? ⟨wr.heap.size, 1, none⟩ = some (.string eo) ∧ W.cell? ⟨wr.heap.size, 2, none⟩ = some (.string en))) (by kernel_rfl) ⟨KE0.out.cell 0 _ rfl, KE0.out.cell 1 _ rfl, KE0.out.cell 2 _ rfl⟩ (fun hHeld => ?_)
      refine sqt 0 ?_
      try simp only [Act.put, sqp]
      refine sqt 1 ?_
      try simp only [Act.put, sqp]
      refine sqt 2 ?_
      try simp only [Act.put, sqp]
      refine sqt 3 ?_
      try simp only [Act.put, sqp]
      refine sqt 4 ?_
      try simp only [Act.put, sqp]
      refine sqt 6 ?_
      try simp only [Act.put, sqp]
      clear q0 q1 q2 q3
      refine wpAnyH_ready (rs := [5]) (by kernel_rfl) (by simp) ?_
      refine AllReadyH.cons (by simp only [sqg]; rfl) (fun K hK => ?_) AllReadyH.nil
      go_simp
      skip
      try go_wp2_with fail
      refine hK.out _ _ ?_ (fun hHeld => ?_)
      · exact hHeld
      clear hK K
      try simp only [Act.put, sqp]
      refine wpAnyH_ready (rs := [7]) (by kernel_rfl) (by simp) ?_
      refine AllReadyH.cons (by simp only [sqg]; rfl) (fun K hK => ?_) AllReadyH.nil
      go_simp
      (go_at_call 156; refine (CS.out _ (Below.refl _ _).drew).mono ?_; rintro e w1 ⟨a3, c3, rfl, hm3, hb1⟩; have hb1' : Below wE.heap.size wE w1 := (Below.refl _ _).drew.trans hb1)
      try go_wp2_with fail
      refine hK.out _ _ ?_ (fun hHeld => ?_)
      · exact (by have h := KE0.out.onto hb1'; exact ⟨h.cell 0 _ rfl, h.cell 1 _ rfl, h.cell 2 _ rfl⟩)
      clear hK K
      try simp only [Act.put, sqp]
      clear q5 hb1 hwE CS
      have KO1 := hid (KO0.out.onto hb1')
      have KE1 := hid (KE0.out.onto hb1')
      have RX1 := hid (RX0.out.later hb1')
      have HB1 := hid (HB0.out.trans (S' := []) (.of_below hb1') (by simp))
      have HG1 := hid (Nat.le_trans HG0.out hb1'.size)
      have RM1 := hid (hm3.off (S := [b, wr.heap.size]) (HLT.out _ (Nat.le_refl _)))
      have HM3 := hid (And.intro hm3.le hm3.cap)
      clear hm3 hb1'
      obtain ⟨q, hq⟩ : ∃ q, shfM ml (shiftI p eo.size en.size) = q := ⟨_, rfl⟩
      have HQ := hid hq
      rw [hq] at RM1 HM3 ⊢
      clear hq
      obtain ⟨zO1_0, zO1_1, zO1_2, zO1_3, zO1_4, zO1_5, zO1_6, zO1_7, fO1_0, fO1_1, fO1_2, fO1_3, fO1_4, fO1_5, fO1_6, fO1_7⟩ := KO1.out.all8
      obtain ⟨zE1_0, zE1_1, zE1_2, fE1_0, fE1_1, fE1_2⟩ := KE1.out.all3
      refine sqt 8 ?_
      try simp only [Act.put, sqp]
      refine sqt 9 ?_
      try simp only [Act.put, sqp]
      refine sqt 10 ?_
      try simp only [Act.put, sqp]
      refine wpAnyH_ready (rs := [11]) (by kernel_rfl) (by simp) ?_
      refine AllReadyH.cons (by simp only [sqg]; rfl) (fun K hK => ?_) AllReadyH.nil
      go_simp
      skip
      try go_wp2_with fail
      refine hK.out _ _ ?_ (fun hHeld => ?_)
      · exact (by have h := KE1.out.other ⟨b, 3, none⟩ (by show b ≠ wr.heap.size; omega) (.slice a3 q.length c3); exact ⟨h.cell 0 _ rfl, h.cell 1 _ rfl, h.cell 2 _ rfl⟩)
      clear hK K
      try simp only [Act.put, sqp]
      refine wpAnyH_done (by kernel_rfl) ?_ _
      have kO : Blk (w1.setCell ⟨b, 3, none⟩ (.slice a3 q.length c3)) (b) #[.bool made, .pointer r', .string t, .slice a3 q.length c3, .slice u.a u.l.length u.c, .slice ro.a ro.l.length ro.c, .bool o, .slice g.a g.l.length g.c] 54 := (KO1.out.set 3 _)
      have kE : Blk (w1.setCell ⟨b, 3, none⟩ (.slice a3 q.length c3)) (wr.heap.size) #[.int .i64 p, .string eo, .string en] 87 := (KE1.out.other ⟨b, 3, none⟩ (by show b ≠ wr.heap.size; omega) _)
      have ap : Apart [b, wr.heap.size] w1 (w1.setCell ⟨b, 3, none⟩ (.slice a3 q.length c3)) := (Apart.refl [b, wr.heap.size] w1).setCell (p := ⟨b, 3, none⟩) (.inl (by simp)) _
      have rX := RX1.out.apart ap
      have rM := RM1.out.apart ap
      have hB := ((HB1.out.setCell (p := ⟨b, 3, none⟩) (by simp) _) : Apart [b] w (w1.setCell ⟨b, 3, none⟩ (.slice a3 q.length c3)))
      have hz : (w1.setCell ⟨b, 3, none⟩ (.slice a3 q.length c3)).heap.size = w1.heap.size := by simp
      obtain ⟨v2, hv2⟩ : ∃ V, (w1.setCell ⟨b, 3, none⟩ (.slice a3 q.length c3)) = V := ⟨_, rfl⟩
      rw [hv2] at kO kE rX rM hB hz
      rw [hv2]
      have KO2 := hid kO
      have KE2 := hid kE
      have RX2 := hid rX
      have RM2 := hid rM
      have HB2 := hid hB
      have HG2 := hid (Nat.le_trans HG1.out (Nat.le_of_eq hz.symm))
      clear kO kE rX rM hB hz ap KO1 KE1 RX1 RM1 HB1 HG1
      obtain ⟨zO2_0, zO2_1, zO2_2, zO2_3, zO2_4, zO2_5, zO2_6, zO2_7, fO2_0, fO2_1, fO2_2, fO2_3, fO2_4, fO2_5, fO2_6, fO2_7⟩ := KO2.out.all8
      obtain ⟨zE2_0, zE2_1, zE2_2, fE2_0, fE2_1, fE2_2⟩ := KE2.out.all3
      go_wp2
      go_roundw
      case rel => exact ⟨k + 1, ⟨a3, q, c3⟩, by omega, by go_num, by show q = _; rw [SN.out, HQ.out], HM3.out, KO2.out, RM2.out.wide (S' := [b]) (fun i hi => .inl (List.mem_cons.2 (.inl (List.mem_singleton.1 hi)))), RX2.out.wide (S' := [b]) (fun i hi => .inl (List.mem_cons.2 (.inl (List.mem_singleton.1 hi)))), HB2.out⟩
      case measure => simp [intOf]; omega
    · obtain rfl : k = n := by omega
      rw [← HN.out, List.take_length] at hml
      have HR := hid (And.intro hml (And.intro hmc (And.intro hblk (And.intro hkm hap))))
      clear hml hmc hblk hkm hkx hap
      go_wp2
      go_end0
      exact ⟨rfl, ⟨ma, ml, mc⟩, HR.out.1, HR.out.2.1, HR.out.2.2.1, HR.out.2.2.2.1, HR.out.2.2.2.2⟩
end Go.Proofs.YtfiobemeogaaiaaGreat
namespace Go.Proofs.YtfiobemeogaaiaaGreat
open Go.RowKit
set_option linter.unusedVariables false
set_option linter.unusedSimpArgs false
theorem InvS.shown {s : StaD} (h : InvS s) {l : List Edt} {t' : ByteArray} (hr : runE s.t l = (t', 0)) : ∀ k, k ≤ l.length → ∀ y ∈ shfL s.m (l.take k), -2305843009213693952 ≤ y.p ∧ y.p ≤ 2305843009213693952 := fun k hk y hy => by
  obtain ⟨u, hu, -⟩ := run_take hr k
  have hm := marks_run h.v h.z hu h.m
  have hz := (run_back h.v h.z hu).2.1
  have := marks_in hm y hy
  omega
theorem InvS.edz {s : StaD} (h : InvS s) {l : List Edt} (hl : ∀ x ∈ l, okE5 x = true) : Edtz l 4294967296 := fun x hx => by
  have := (okE5_iff x).1 (hl x hx)
  omega
theorem InvS.marks {s : StaD} (h : InvS s) : ∀ y ∈ s.m, -2305843009213693952 ≤ y.p ∧ y.p ≤ 2305843009213693952 := fun y hy => by
  have := marks_in h.m y hy
  have := h.z
  omega
theorem okE5_inv {l : List Edt} (h : ∀ x ∈ l, okE5 x = true) : ∀ x ∈ invL l, okE5 x = true := fun x hx => by
  unfold invL at hx
  obtain ⟨y, hy, rfl⟩ := List.mem_map.1 (List.mem_reverse.1 hx)
  have := (okE5_iff y).1 (h y hy)
  exact (okE5_iff _).2 ⟨this.2.1, this.1, this.2.2.elim .inr .inl⟩
theorem Blk.apart {S : List Nat} {w w' : World} {b : Nat} {cs : Array Value} {t : TypeId} (h : Blk w b cs t) (ha : Apart S w w') (hb : b ∉ S) : Blk w' b cs t := (ha.block b h.lt hb).trans h
theorem down1 {b : Nat} {S : List Nat} {w : World} : ∀ i ∈ [b], i ∈ (b :: S) ∨ w.heap.size ≤ i := fun i hi => .inl (by rw [List.mem_singleton.1 hi]; simp)
theorem eone {w : World} {B : Nat → Prop} {b : Nat} {p : Int} {o n : ByteArray} {t : TypeId} (h : Blk w b #[.int .i64 p, .string o, .string n] t) (hB : B b) : Edts w B (some ⟨b, 0, none⟩) [⟨p, o, n⟩] := fun k hk => by
  obtain rfl : k = 0 := by simpa using hk
  exact ⟨⟨b, 0, none⟩, rfl, hB, h.cell 0 _ rfl, h.cell 1 _ rfl, h.cell 2 _ rfl⟩
end Go.Proofs.YtfiobemeogaaiaaGreat
namespace Go.Proofs.YtfiobemeogaaiaaGreat
open Lib (hid)
open Go.RowKit
set_option linter.unusedVariables false
set_option linter.unusedSimpArgs false
set_option maxRecDepth 100000 in
set_option maxHeartbeats 800000 in
theorem ed_edit_long {so : Bool} {w : World} {b : Nat} {t : ByteArray} {m : KPc} {u ro : SPc} {g : EPc} {rb : Nat} {p : Option Addr} {L : List ByteArray} (h : IsEd w b ⟨t, m, u, ro, so, g⟩ rb p L) (r' : Option Addr) (x : Int) (eo en : ByteArray) (ho : eo.size ≤ 4294967296) (hn : en.size ≤ 4294967296) (hx : 512 < eo.size + en.size) : Calls Tryz.prog 99 #[.pointer (some ⟨b, 0, none⟩), .pointer r', edV x eo en] w (RetEd w b ((Sta.d ⟨t, m, u, ro, so, g⟩), 6)) := by
  have hbl : b < w.heap.size := h.lt
  obtain ⟨wX, hwX, kE, hb0, hz⟩ := box1 w #[.int .i64 x, .string eo, .string en] 87
  have KO0 := hid (show Blk wX b #[.bool true, .pointer (some ⟨rb, 0, none⟩), .string ⟨#[]⟩, .slice m.a m.l.length m.c, .slice u.a u.l.length u.c, .slice ro.a ro.l.length ro.c, .bool so, .slice g.a g.l.length g.c] 54 from h.blk.onto hb0)
  have KE0 := hid (kE)
  have RS0 := hid ((h.rows.wide (S' := [b, w.heap.size]) (fun i hi => by simp only [List.mem_cons, List.not_mem_nil, or_false] at hi; rcases hi with rfl | rfl; exact .inl (by simp); exact .inr (Nat.le_refl _))).later hb0)
  have HB0 := hid ((Apart.of_below hb0 : Apart [b] w wX))
  have HG0 := hid (Nat.le_refl wX.heap.size)
  have hlt2 : ∀ W : World, wX.heap.size ≤ W.heap.size → ∀ i ∈ [b, w.heap.size], i < W.heap.size := fun W h i hi => by simp only [List.mem_cons, List.not_mem_nil, or_false] at hi; rcases hi with rfl | rfl <;> omega
  have HLT := hid hlt2; have H := hid h; have HB := hid hb0
  clear hlt2 kE
  obtain ⟨zO0_0, zO0_1, zO0_2, zO0_3, zO0_4, zO0_5, zO0_6, zO0_7, fO0_0, fO0_1, fO0_2, fO0_3, fO0_4, fO0_5, fO0_6, fO0_7⟩ := KO0.out.all8
  obtain ⟨zE0_0, zE0_1, zE0_2, fE0_0, fE0_1, fE0_2⟩ := KE0.out.all3
  have gz : (512 : Int) < (eo.size : Int) + (en.size : Int) := by omega
  clear h hb0 hz
  go_enter Tryz.func99, Tryz.ntmps99
  go_wp2
  go_ret
  exact ⟨⟨t, m, u, ro, so, g⟩, rb, p, L, rfl, H.out.later (by rw [← hwX]; exact below1 _ _), rfl, HB0.out⟩
set_option maxRecDepth 100000 in
set_option maxHeartbeats 800000 in
theorem ed_edit_none {so : Bool} {w : World} {b : Nat} {t : ByteArray} {m : KPc} {u ro : SPc} {g : EPc} {rb : Nat} {p : Option Addr} {L : List ByteArray} (h : IsEd w b ⟨t, m, u, ro, so, g⟩ rb p L) (r' : Option Addr) (x : Int) (eo en : ByteArray) (ho : eo.size ≤ 4294967296) (hn : en.size ≤ 4294967296) (hx : eo.size + en.size = 0) : Calls Tryz.prog 99 #[.pointer (some ⟨b, 0, none⟩), .pointer r', edV x eo en] w (RetEd w b ((Sta.d ⟨t, m, u, ro, so, g⟩), 0)) := by
  have hbl : b < w.heap.size := h.lt
  obtain ⟨wX, hwX, kE, hb0, hz⟩ := box1 w #[.int .i64 x, .string eo, .string en] 87
  have KO0 := hid (show Blk wX b #[.bool true, .pointer (some ⟨rb, 0, none⟩), .string ⟨#[]⟩, .slice m.a m.l.length m.c, .slice u.a u.l.length u.c, .slice ro.a ro.l.length ro.c, .bool so, .slice g.a g.l.length g.c] 54 from h.blk.onto hb0)
  have KE0 := hid (kE)
  have RS0 := hid ((h.rows.wide (S' := [b, w.heap.size]) (fun i hi => by simp only [List.mem_cons, List.not_mem_nil, or_false] at hi; rcases hi with rfl | rfl; exact .inl (by simp); exact .inr (Nat.le_refl _))).later hb0)
  have HB0 := hid ((Apart.of_below hb0 : Apart [b] w wX))
  have HG0 := hid (Nat.le_refl wX.heap.size)
  have hlt2 : ∀ W : World, wX.heap.size ≤ W.heap.size → ∀ i ∈ [b, w.heap.size], i < W.heap.size := fun W h i hi => by simp only [List.mem_cons, List.not_mem_nil, or_false] at hi; rcases hi with rfl | rfl <;> omega
  have HLT := hid hlt2; have H := hid h; have HB := hid hb0
  clear hlt2 kE
  obtain ⟨zO0_0, zO0_1, zO0_2, zO0_3, zO0_4, zO0_5, zO0_6, zO0_7, fO0_0, fO0_1, fO0_2, fO0_3, fO0_4, fO0_5, fO0_6, fO0_7⟩ := KO0.out.all8
  obtain ⟨zE0_0, zE0_1, zE0_2, fE0_0, fE0_1, fE0_2⟩ := KE0.out.all3
  have gz : (eo.size : Int) + (en.size : Int) ≤ 512 := by omega
  have gy : (eo.size : Int) + (en.size : Int) = 0 := by omega
  clear h hb0 hz
  go_enter Tryz.func99, Tryz.ntmps99
  go_wp2
  go_ret
  exact ⟨⟨t, m, u, ro, so, g⟩, rb, p, L, rfl, H.out.later (by rw [← hwX]; exact below1 _ _), rfl, HB0.out⟩
set_option maxRecDepth 100000 in
set_option maxHeartbeats 1600000 in
theorem ed_edit_many {w : World} {b : Nat} {t : ByteArray} {m : KPc} {u ro : SPc} {g : EPc} {rb : Nat} {p : Option Addr} {L : List ByteArray} (h : IsEd w b ⟨t, m, u, ro, true, g⟩ rb p L) (r' : Option Addr) (x : Int) (eo en : ByteArray) (ho : eo.size ≤ 4294967296) (hn : en.size ≤ 4294967296) (hx : eo.size + en.size ≤ 512) (hy : 1 ≤ eo.size + en.size) (h2 : 32 ≤ g.l.length) : Calls Tryz.prog 99 #[.pointer (some ⟨b, 0, none⟩), .pointer r', edV x eo en] w (RetEd w b ((Sta.d ⟨t, m, u, ro, true, g⟩), 9)) := by
  have hbl : b < w.heap.size := h.lt
  have hgl : g.l.length ≤ 32 := h.inv.gl
  have hadd : addS g.l ⟨x, eo, en⟩ = ([], 9) := by unfold addS; rw [if_pos h2]
  obtain ⟨wX, hwX, kE, hb0, hz⟩ := box1 w #[.int .i64 x, .string eo, .string en] 87
  have KO0 := hid (show Blk wX b #[.bool true, .pointer (some ⟨rb, 0, none⟩), .string ⟨#[]⟩, .slice m.a m.l.length m.c, .slice u.a u.l.length u.c, .slice ro.a ro.l.length ro.c, .bool true, .slice g.a g.l.length g.c] 54 from h.blk.onto hb0)
  have KE0 := hid (kE)
  have RS0 := hid ((h.rows.wide (S' := [b, w.heap.size]) (fun i hi => by simp only [List.mem_cons, List.not_mem_nil, or_false] at hi; rcases hi with rfl | rfl; exact .inl (by simp); exact .inr (Nat.le_refl _))).later hb0)
  have HB0 := hid ((Apart.of_below hb0 : Apart [b] w wX))
  have HG0 := hid (Nat.le_refl wX.heap.size)
  have hlt2 : ∀ W : World, wX.heap.size ≤ W.heap.size → ∀ i ∈ [b, w.heap.size], i < W.heap.size := fun W h i hi => by simp only [List.mem_cons, List.not_mem_nil, or_false] at hi; rcases hi with rfl | rfl <;> omega
  have HLT := hid hlt2; have H := hid h; have HB := hid hb0
  clear hlt2 kE
  obtain ⟨zO0_0, zO0_1, zO0_2, zO0_3, zO0_4, zO0_5, zO0_6, zO0_7, fO0_0, fO0_1, fO0_2, fO0_3, fO0_4, fO0_5, fO0_6, fO0_7⟩ := KO0.out.all8
  obtain ⟨zE0_0, zE0_1, zE0_2, fE0_0, fE0_1, fE0_2⟩ := KE0.out.all3
  have ca := fun W (hW : Below wX.heap.size wX W) => sadd_any g.a g.l g.c ⟨x, eo, en⟩ W ((h.rows.g.later hb0).later hW).in (by omega)
  rw [hadd] at ca
  have CA := hid ca
  have hzl : w.heap.size < wX.heap.size := by omega
  clear h hb0 hz ca hadd
  have gz : (eo.size : Int) + (en.size : Int) ≤ 512 := by omega
  have gy : ¬ (eo.size : Int) + (en.size : Int) = 0 := by omega
  go_enter Tryz.func99, Tryz.ntmps99
  have hfs : ∀ W, Below wX.heap.size wX W → W.cell? ⟨b, 7, none⟩ = some (.slice g.a g.l.length g.c) ∧ W.cell? ⟨w.heap.size, 0, none⟩ = some (.int .i64 x) ∧ W.cell? ⟨w.heap.size, 1, none⟩ = some (.string eo) ∧ W.cell? ⟨w.heap.size, 2, none⟩ = some (.string en) := fun W h => ⟨(KO0.out.onto h).cell 7 _ rfl, (KE0.out.onto h).cell 0 _ rfl, (KE0.out.onto h).cell 1 _ rfl, (KE0.out.onto h).cell 2 _ rfl⟩
  have FS := hid hfs
  clear hfs
  go_wp2_with fail
  clear zO0_0 zO0_1 zO0_2 zO0_3 zO0_4 zO0_5 zO0_6 zO0_7 fO0_0 fO0_1 fO0_2 fO0_3 fO0_4 fO0_5 fO0_6 fO0_7 zE0_0 zE0_1 zE0_2 fE0_0 fE0_1 fE0_2
  refine wp_region_held_drew (S := (fun W : World => W.cell? ⟨b, 7, none⟩ = some (.slice g.a g.l.length g.c) ∧ W.cell? ⟨w.heap.size, 0, none⟩ = some (.int .i64 x) ∧ W.cell? ⟨w.heap.size, 1, none⟩ = some (.string eo) ∧ W.cell? ⟨w.heap.size, 2, none⟩ = some (.string en))) (by kernel_rfl) (FS.out _ (Below.refl _ _).drew) (fun hHeld => ?_)
  refine sqt 0 ?_
  try simp only [Act.put, sqp]
  refine sqt 1 ?_
  try simp only [Act.put, sqp]
  refine sqt 2 ?_
  try simp only [Act.put, sqp]
  refine sqt 3 ?_
  try simp only [Act.put, sqp]
  refine sqt 4 ?_
  try simp only [Act.put, sqp]
  refine sqt 5 ?_
  try simp only [Act.put, sqp]
  refine sqt 6 ?_
  try simp only [Act.put, sqp]
  clear hwX
  refine wpAnyH_ready (rs := [7, 11]) (by kernel_rfl) (by simp) ?_
  refine AllReadyH.cons (by simp only [sqg]; rfl) (fun K hK => ?_) (AllReadyH.cons (by simp only [sqg]; rfl) (fun K hK => ?_) AllReadyH.nil)
  · go_simp
    (go_at_call 132; refine (CA.out _ (Below.refl _ _).drew).mono ?_; rintro e w1 ⟨a4, c4, rfl, hr4, hb4⟩; have hb4' : Below wX.heap.size wX w1 := (Below.refl _ _).drew.trans hb4)
    try go_wp2_with fail
    refine hK.out _ _ ?_ (fun hHeld => ?_)
    · exact FS.out _ hb4'
    clear hK K
    try simp only [Act.put, sqp]
    have KO1 := hid (KO0.out.onto hb4')
    have KE1 := hid (KE0.out.onto hb4')
    have RS1 := hid (RS0.out.later hb4')
    have HB1 := hid (HB0.out.trans (S' := []) (.of_below hb4') (by simp))
    have HG1 := hid (Nat.le_trans HG0.out hb4'.size)
    have RG1 := hid (hr4.off (S := [b, w.heap.size]) (HLT.out _ (Nat.le_refl _)))
    clear hr4 hb4 CA
    refine sqt 8 ?_
    try simp only [Act.put, sqp]
    refine sqt 9 ?_
    try simp only [Act.put, sqp]
    refine sqt 10 ?_
    try simp only [Act.put, sqp]
    refine wpAnyH_ready (rs := [11]) (by kernel_rfl) (by simp) ?_
    refine AllReadyH.cons (by simp only [sqg]; rfl) (fun K hK => ?_) AllReadyH.nil
    go_simp
    skip
    try go_wp2_with fail
    refine hK.out _ _ ?_ (fun hHeld => ?_)
    · exact FS.out _ (hb4'.alloc hb4'.size _)
    clear hK K
    try simp only [Act.put, sqp]
    refine wpAnyH_ready (rs := [12]) (by kernel_rfl) (by simp) ?_
    refine AllReadyH.cons (by simp only [sqg]; rfl) (fun K hK => ?_) AllReadyH.nil
    go_simp
    skip
    try go_wp2_with fail
    refine hK.out _ _ ?_ (fun hHeld => ?_)
    · exact FS.out _ (hb4'.alloc hb4'.size _)
    clear hK K
    try simp only [Act.put, sqp]
    refine sqt 13 ?_
    try simp only [Act.put, sqp]
    refine wpAnyH_done (by kernel_rfl) ?_ _
    have hx1 : wX.heap.size ≤ w1.heap.size := hb4'.size
    clear hb4'
    obtain ⟨wA1, hwA1, kA, hbA, hzA⟩ := box1 w1 #[.slice a4 0 c4] 69
    have KO2 := hid (KO1.out.onto hbA)
    have KE2 := hid (KE1.out.onto hbA)
    have RS2 := hid (RS1.out.later hbA)
    have RG2 := hid (RG1.out.later hbA)
    have HB2 := hid (HB1.out.trans (S' := []) (.of_below hbA) (by simp))
    have HG2 := hid (Nat.le_trans HG1.out hbA.size)
    have KT2 := hid kA
    have hzz1 : w1.heap.size < wA1.heap.size := by omega
    have HZT := hid hzz1
    clear kA hbA hzA hzz1 KO1 KE1 RS1 RG1 HB1 HG1
    obtain ⟨zO2_0, zO2_1, zO2_2, zO2_3, zO2_4, zO2_5, zO2_6, zO2_7, fO2_0, fO2_1, fO2_2, fO2_3, fO2_4, fO2_5, fO2_6, fO2_7⟩ := KO2.out.all8
    obtain ⟨zE2_0, zE2_1, zE2_2, fE2_0, fE2_1, fE2_2⟩ := KE2.out.all3
    obtain ⟨zT2_0, fT2_0⟩ := KT2.out.all1
    rw [hwA1]
    replace RS2 := hid (RS2.out.wide (S' := [b]) (down1))
    replace RG2 := hid (RG2.out.wide (S' := [b]) (down1))
    go_wp2
    go_ret
    exact ⟨⟨t, m, u, ro, true, g⟩, rb, p, L, rfl, ⟨KO2.out, H.out.rope.apart H.out.blk rfl HB2.out, RS2.out, H.out.ml, H.out.mc, H.out.inv⟩, rfl, HB2.out⟩
  · go_simp
    have BSA := hid ((Below.refl wX.heap.size wX).drew.alloc (Nat.le_refl _) (.cells #[.slice none 0 0] 69)); have KSA := hid (Blk.new wX.drew #[.slice none 0 0] 69)
    try go_wp2_with fail
    refine hK.out _ _ ?_ (fun hHeld => ?_)
    · exact FS.out _ BSA.out
    clear hK K
    try simp only [Act.put, sqp]
    refine wpAnyH_ready (rs := [7]) (by kernel_rfl) (by simp) ?_
    refine AllReadyH.cons (by simp only [sqg]; rfl) (fun K hK => ?_) AllReadyH.nil
    go_simp
    (go_at_call 132; refine (CA.out _ BSA.out).mono ?_; rintro e w1 ⟨a4, c4, rfl, hr4, hb4⟩; have hb4' : Below wX.heap.size wX w1 := BSA.out.trans (hb4.mono BSA.out.size))
    try go_wp2_with fail
    refine hK.out _ _ ?_ (fun hHeld => ?_)
    · exact FS.out _ hb4'
    clear hK K
    try simp only [Act.put, sqp]
    have KO1 := hid (KO0.out.onto hb4')
    have KE1 := hid (KE0.out.onto hb4')
    have RS1 := hid (RS0.out.later hb4')
    have HB1 := hid (HB0.out.trans (S' := []) (.of_below hb4') (by simp))
    have HG1 := hid (Nat.le_trans HG0.out hb4'.size)
    have KT1 := hid (show Blk w1 wX.heap.size #[.slice none 0 0] 69 from KSA.out.onto hb4)
    have RG1 := hid (hr4.off (S := [b, w.heap.size, wX.heap.size]) (fun i hi => by
      have hs : wX.heap.size + 1 ≤ (World.alloc wX.drew (.cells #[.slice none 0 0] 69)).heap.size := by simp
      simp only [List.mem_cons, List.not_mem_nil, or_false] at hi
      have hs2 : (World.alloc wX.drew (.cells #[.slice none 0 0] 69)).heap.size = (World.alloc wX (.cells #[.slice none 0 0] 69)).heap.size := by simp
      rcases hi with rfl | rfl | rfl
      · exact Nat.lt_of_lt_of_le (by omega) hs
      · exact Nat.lt_of_lt_of_le (by omega) hs
      · exact hs))
    replace RS1 := hid (((RS0.out.wide (S' := [b, w.heap.size, wX.heap.size]) (fun i hi => by simp only [List.mem_cons, List.not_mem_nil, or_false] at hi; rcases hi with rfl | rfl | rfl; exact .inl (by simp); exact .inl (by simp); exact .inr (Nat.le_refl _))).later hb4'))
    clear hr4 hb4 CA KSA
    refine sqt 8 ?_
    try simp only [Act.put, sqp]
    refine sqt 9 ?_
    try simp only [Act.put, sqp]
    refine sqt 10 ?_
    try simp only [Act.put, sqp]
    obtain ⟨zO1_0, zO1_1, zO1_2, zO1_3, zO1_4, zO1_5, zO1_6, zO1_7, fO1_0, fO1_1, fO1_2, fO1_3, fO1_4, fO1_5, fO1_6, fO1_7⟩ := KO1.out.all8
    obtain ⟨zE1_0, zE1_1, zE1_2, fE1_0, fE1_1, fE1_2⟩ := KE1.out.all3
    obtain ⟨zT1_0, fT1_0⟩ := KT1.out.all1
    have hs12 : w1.cell? ⟨b, 7, none⟩ = some (.slice g.a g.l.length g.c) := KO1.out.cell 7 _ rfl
    refine wpAnyH_ready (rs := [12]) (by kernel_rfl) (by simp) ?_
    refine AllReadyH.cons (by simp only [sqg]; rfl) (fun K hK => ?_) AllReadyH.nil
    go_simp
    skip
    try go_wp2_with fail
    refine hK.out _ _ ?_ (fun hHeld => ?_)
    · exact ⟨(KO1.out.other ⟨wX.heap.size, 0, none⟩ (by show wX.heap.size ≠ b; omega) _).cell 7 _ rfl, (KE1.out.other ⟨wX.heap.size, 0, none⟩ (by show wX.heap.size ≠ w.heap.size; omega) _).cell 0 _ rfl, (KE1.out.other ⟨wX.heap.size, 0, none⟩ (by show wX.heap.size ≠ w.heap.size; omega) _).cell 1 _ rfl, (KE1.out.other ⟨wX.heap.size, 0, none⟩ (by show wX.heap.size ≠ w.heap.size; omega) _).cell 2 _ rfl⟩
    clear hK K
    try simp only [Act.put, sqp]
    refine sqt 13 ?_
    try simp only [Act.put, sqp]
    refine wpAnyH_done (by kernel_rfl) ?_ _
    clear hb4' hs12 BSA
    have kT : Blk (w1.setCell ⟨wX.heap.size, 0, none⟩ (.slice a4 0 c4)) (wX.heap.size) #[.slice a4 0 c4] 69 := (KT1.out.set 0 _)
    have kO : Blk (w1.setCell ⟨wX.heap.size, 0, none⟩ (.slice a4 0 c4)) (b) #[.bool true, .pointer (some ⟨rb, 0, none⟩), .string ⟨#[]⟩, .slice m.a m.l.length m.c, .slice u.a u.l.length u.c, .slice ro.a ro.l.length ro.c, .bool true, .slice g.a g.l.length g.c] 54 := (KO1.out.other ⟨wX.heap.size, 0, none⟩ (by show wX.heap.size ≠ b; omega) _)
    have kE : Blk (w1.setCell ⟨wX.heap.size, 0, none⟩ (.slice a4 0 c4)) (w.heap.size) #[.int .i64 x, .string eo, .string en] 87 := (KE1.out.other ⟨wX.heap.size, 0, none⟩ (by show wX.heap.size ≠ w.heap.size; omega) _)
    have ap : Apart [b, w.heap.size, wX.heap.size] w1 (w1.setCell ⟨wX.heap.size, 0, none⟩ (.slice a4 0 c4)) := (Apart.refl [b, w.heap.size, wX.heap.size] w1).setCell (p := ⟨wX.heap.size, 0, none⟩) (.inl (by simp)) _
    have rS := RS1.out.apart ap
    have rG := RG1.out.apart ap
    have hB := ((HB1.out.setCell (p := ⟨wX.heap.size, 0, none⟩) (by right; show w.heap.size ≤ wX.heap.size; omega) _) : Apart [b] w (w1.setCell ⟨wX.heap.size, 0, none⟩ (.slice a4 0 c4)))
    have hz : (w1.setCell ⟨wX.heap.size, 0, none⟩ (.slice a4 0 c4)).heap.size = w1.heap.size := by simp
    obtain ⟨v2, hv2⟩ : ∃ V, (w1.setCell ⟨wX.heap.size, 0, none⟩ (.slice a4 0 c4)) = V := ⟨_, rfl⟩
    rw [hv2] at kO kE kT rS rG hB hz
    rw [hv2]
    have KO2 := hid kO
    have KE2 := hid kE
    have KT2 := hid kT
    have RS2 := hid rS
    have RG2 := hid rG
    have HB2 := hid hB
    have HG2 := hid (Nat.le_trans HG1.out (Nat.le_of_eq hz.symm))
    clear kO kE kT rS rG hB hz ap KO1 KE1 KT1 RS1 RG1 HB1 HG1
    obtain ⟨zO2_0, zO2_1, zO2_2, zO2_3, zO2_4, zO2_5, zO2_6, zO2_7, fO2_0, fO2_1, fO2_2, fO2_3, fO2_4, fO2_5, fO2_6, fO2_7⟩ := KO2.out.all8
    obtain ⟨zE2_0, zE2_1, zE2_2, fE2_0, fE2_1, fE2_2⟩ := KE2.out.all3
    obtain ⟨zT2_0, fT2_0⟩ := KT2.out.all1
    replace RS2 := hid (RS2.out.wide (S' := [b]) (down1))
    replace RG2 := hid (RG2.out.wide (S' := [b]) (down1))
    go_wp2
    go_ret
    exact ⟨⟨t, m, u, ro, true, g⟩, rb, p, L, rfl, ⟨KO2.out, H.out.rope.apart H.out.blk rfl HB2.out, RS2.out, H.out.ml, H.out.mc, H.out.inv⟩, rfl, HB2.out⟩
set_option maxRecDepth 100000 in
set_option maxHeartbeats 3200000 in
theorem ed_edit_open {w : World} {b : Nat} {t : ByteArray} {m : KPc} {u ro : SPc} {g : EPc} {rb : Nat} {p : Option Addr} {L : List ByteArray} (h : IsEd w b ⟨t, m, u, ro, true, g⟩ rb p L) (x : Int) (eo en : ByteArray) (ho : eo.size ≤ 4294967296) (hn : en.size ≤ 4294967296) (hx : eo.size + en.size ≤ 512) (hy : 1 ≤ eo.size + en.size) {t' : ByteArray} {rb' : Nat} {p' : Option Addr} {L' : List ByteArray} (hap : appE t x eo en = (t', 0)) (hr : RopeW w (some ⟨rb', 0, none⟩) p' L' t') (h2 : g.l.length < 32) : Calls Tryz.prog 99 #[.pointer (some ⟨b, 0, none⟩), .pointer (some ⟨rb', 0, none⟩), edV x eo en] w (RetEd w b (editD (Sta.d ⟨t, m, u, ro, true, g⟩) ⟨x, eo, en⟩)) := by
  have hbl : b < w.heap.size := h.lt
  have hadd : addS g.l ⟨x, eo, en⟩ = (g.l ++ [⟨x, eo, en⟩], 0) := by unfold addS; rw [if_neg (by omega)]
  have hok : okE5 ⟨x, eo, en⟩ = true := (okE5_iff _).2 ⟨by show eo.size ≤ 512; omega, by show en.size ≤ 512; omega, by show 1 ≤ eo.size ∨ 1 ≤ en.size; omega⟩
  have hrun : runE t [⟨x, eo, en⟩] = (t', 0) := run_one hap
  have hmx := h.inv.shown hrun
  have hpx := run_in h.inv.z hrun
  have hzx := h.inv.edz (l := [⟨x, eo, en⟩]) (fun y hy => by rw [List.mem_singleton.1 hy]; exact hok)
  have hie := inv_edit (x := ⟨x, eo, en⟩) (t' := t') h.inv hap hok
  have hml : m.l.length ≤ 1000000 := Nat.le_trans h.inv.ml (by decide)
  have hmc : m.l.length ≤ m.c ∧ m.c ≤ maxLen := ⟨h.ml, h.mc⟩
  obtain ⟨l, hl⟩ : ∃ l, g.l ++ [(⟨x, eo, en⟩ : Edt)] = l := ⟨_, rfl⟩
  have HZ1 := hid hzx; have HP1 := hid hpx; have HM1 := hid hmx; have HML := hid hml; have HMC := hid hmc; have HI := hid hie; have HR := hid hr; have HL := hid hl
  rw [hl] at hadd
  have he : editD (Sta.d ⟨t, m, u, ro, true, g⟩) ⟨x, eo, en⟩ = (⟨t', shfM m.l (shiftI x eo.size en.size), lsP u.l, [], true, l⟩, 0) := by unfold editD; rw [if_neg (fun h => by have := h.2; have : 32 ≤ g.l.length := this; omega)]; simp only [hap, ← hl]; simp only [Sta.d, hap]; rfl
  have HE := hid he
  rw [he]
  clear he hmx hpx hzx hie hml hmc hap hr hrun hok hl
  obtain ⟨wX, hwX, kE, hb0, hz⟩ := box1 w #[.int .i64 x, .string eo, .string en] 87
  have KO0 := hid (show Blk wX b #[.bool true, .pointer (some ⟨rb, 0, none⟩), .string ⟨#[]⟩, .slice m.a m.l.length m.c, .slice u.a u.l.length u.c, .slice ro.a ro.l.length ro.c, .bool true, .slice g.a g.l.length g.c] 54 from h.blk.onto hb0)
  have KE0 := hid (kE)
  have RS0 := hid ((h.rows.wide (S' := [b, w.heap.size]) (fun i hi => by simp only [List.mem_cons, List.not_mem_nil, or_false] at hi; rcases hi with rfl | rfl; exact .inl (by simp); exact .inr (Nat.le_refl _))).later hb0)
  have HB0 := hid ((Apart.of_below hb0 : Apart [b] w wX))
  have HG0 := hid (Nat.le_refl wX.heap.size)
  have hlt2 : ∀ W : World, wX.heap.size ≤ W.heap.size → ∀ i ∈ [b, w.heap.size], i < W.heap.size := fun W h i hi => by simp only [List.mem_cons, List.not_mem_nil, or_false] at hi; rcases hi with rfl | rfl <;> omega
  have HLT := hid hlt2; have H := hid h; have HB := hid hb0
  clear hlt2 kE
  obtain ⟨zO0_0, zO0_1, zO0_2, zO0_3, zO0_4, zO0_5, zO0_6, zO0_7, fO0_0, fO0_1, fO0_2, fO0_3, fO0_4, fO0_5, fO0_6, fO0_7⟩ := KO0.out.all8
  obtain ⟨zE0_0, zE0_1, zE0_2, fE0_0, fE0_1, fE0_2⟩ := KE0.out.all3
  have ca := fun W (hW : Below wX.heap.size wX W) => sadd_any g.a g.l g.c ⟨x, eo, en⟩ W ((h.rows.g.later hb0).later hW).in (by omega)
  rw [hadd] at ca
  have CA := hid ca
  have hzl : w.heap.size < wX.heap.size := by omega
  clear h hb0 hz ca hadd
  have gz : (eo.size : Int) + (en.size : Int) ≤ 512 := by omega
  have gy : ¬ (eo.size : Int) + (en.size : Int) = 0 := by omega
  go_enter Tryz.func99, Tryz.ntmps99
  have hfs : ∀ W, Below wX.heap.size wX W → W.cell? ⟨b, 7, none⟩ = some (.slice g.a g.l.length g.c) ∧ W.cell? ⟨w.heap.size, 0, none⟩ = some (.int .i64 x) ∧ W.cell? ⟨w.heap.size, 1, none⟩ = some (.string eo) ∧ W.cell? ⟨w.heap.size, 2, none⟩ = some (.string en) := fun W h => ⟨(KO0.out.onto h).cell 7 _ rfl, (KE0.out.onto h).cell 0 _ rfl, (KE0.out.onto h).cell 1 _ rfl, (KE0.out.onto h).cell 2 _ rfl⟩
  have FS := hid hfs
  clear hfs
  go_wp2_with fail
  clear zO0_0 zO0_1 zO0_2 zO0_3 zO0_4 zO0_5 zO0_6 zO0_7 fO0_0 fO0_1 fO0_2 fO0_3 fO0_4 fO0_5 fO0_6 fO0_7 zE0_0 zE0_1 zE0_2 fE0_0 fE0_1 fE0_2
  refine wp_region_held_drew (S := (fun W : World => W.cell? ⟨b, 7, none⟩ = some (.slice g.a g.l.length g.c) ∧ W.cell? ⟨w.heap.size, 0, none⟩ = some (.int .i64 x) ∧ W.cell? ⟨w.heap.size, 1, none⟩ = some (.string eo) ∧ W.cell? ⟨w.heap.size, 2, none⟩ = some (.string en))) (by kernel_rfl) (FS.out _ (Below.refl _ _).drew) (fun hHeld => ?_)
  refine sqt 0 ?_
  try simp only [Act.put, sqp]
  refine sqt 1 ?_
  try simp only [Act.put, sqp]
  refine sqt 2 ?_
  try simp only [Act.put, sqp]
  refine sqt 3 ?_
  try simp only [Act.put, sqp]
  refine sqt 4 ?_
  try simp only [Act.put, sqp]
  refine sqt 5 ?_
  try simp only [Act.put, sqp]
  refine sqt 6 ?_
  try simp only [Act.put, sqp]
  clear hwX
  refine wpAnyH_ready (rs := [7, 11]) (by kernel_rfl) (by simp) ?_
  refine AllReadyH.cons (by simp only [sqg]; rfl) (fun K hK => ?_) (AllReadyH.cons (by simp only [sqg]; rfl) (fun K hK => ?_) AllReadyH.nil)
  · go_simp
    (go_at_call 132; refine (CA.out _ (Below.refl _ _).drew).mono ?_; rintro e w1 ⟨a4, c4, rfl, hr4, hb4⟩; have hb4' : Below wX.heap.size wX w1 := (Below.refl _ _).drew.trans hb4)
    try go_wp2_with fail
    refine hK.out _ _ ?_ (fun hHeld => ?_)
    · exact FS.out _ hb4'
    clear hK K
    try simp only [Act.put, sqp]
    have KO1 := hid (KO0.out.onto hb4')
    have KE1 := hid (KE0.out.onto hb4')
    have RS1 := hid (RS0.out.later hb4')
    have HB1 := hid (HB0.out.trans (S' := []) (.of_below hb4') (by simp))
    have HG1 := hid (Nat.le_trans HG0.out hb4'.size)
    have RG1 := hid (hr4.off (S := [b, w.heap.size]) (HLT.out _ (Nat.le_refl _)))
    clear hr4 hb4 CA
    refine sqt 8 ?_
    try simp only [Act.put, sqp]
    refine sqt 9 ?_
    try simp only [Act.put, sqp]
    refine sqt 10 ?_
    try simp only [Act.put, sqp]
    refine wpAnyH_ready (rs := [11]) (by kernel_rfl) (by simp) ?_
    refine AllReadyH.cons (by simp only [sqg]; rfl) (fun K hK => ?_) AllReadyH.nil
    go_simp
    skip
    try go_wp2_with fail
    refine hK.out _ _ ?_ (fun hHeld => ?_)
    · exact FS.out _ (hb4'.alloc hb4'.size _)
    clear hK K
    try simp only [Act.put, sqp]
    refine wpAnyH_ready (rs := [12]) (by kernel_rfl) (by simp) ?_
    refine AllReadyH.cons (by simp only [sqg]; rfl) (fun K hK => ?_) AllReadyH.nil
    go_simp
    skip
    try go_wp2_with fail
    refine hK.out _ _ ?_ (fun hHeld => ?_)
    · exact FS.out _ (hb4'.alloc hb4'.size _)
    clear hK K
    try simp only [Act.put, sqp]
    refine sqt 13 ?_
    try simp only [Act.put, sqp]
    refine wpAnyH_done (by kernel_rfl) ?_ _
    have hx1 : wX.heap.size ≤ w1.heap.size := hb4'.size
    clear hb4'
    obtain ⟨wA1, hwA1, kA, hbA, hzA⟩ := box1 w1 #[.slice a4 l.length c4] 69
    have KO2 := hid (KO1.out.onto hbA)
    have KE2 := hid (KE1.out.onto hbA)
    have RS2 := hid (RS1.out.later hbA)
    have RG2 := hid (RG1.out.later hbA)
    have HB2 := hid (HB1.out.trans (S' := []) (.of_below hbA) (by simp))
    have HG2 := hid (Nat.le_trans HG1.out hbA.size)
    have KT2 := hid kA
    have hzz1 : w1.heap.size < wA1.heap.size := by omega
    have HZT := hid hzz1
    clear kA hbA hzA hzz1 KO1 KE1 RS1 RG1 HB1 HG1
    obtain ⟨zO2_0, zO2_1, zO2_2, zO2_3, zO2_4, zO2_5, zO2_6, zO2_7, fO2_0, fO2_1, fO2_2, fO2_3, fO2_4, fO2_5, fO2_6, fO2_7⟩ := KO2.out.all8
    obtain ⟨zE2_0, zE2_1, zE2_2, fE2_0, fE2_1, fE2_2⟩ := KE2.out.all3
    obtain ⟨zT2_0, fT2_0⟩ := KT2.out.all1
    rw [hwA1]
    replace RS2 := hid (RS2.out.wide (S' := [b]) (down1))
    replace RG2 := hid (RG2.out.wide (S' := [b]) (down1))
    have kO : Blk (wA1.setCell ⟨b, 7, none⟩ (.slice a4 l.length c4)) (b) #[.bool true, .pointer (some ⟨rb, 0, none⟩), .string ⟨#[]⟩, .slice m.a m.l.length m.c, .slice u.a u.l.length u.c, .slice ro.a ro.l.length ro.c, .bool true, .slice a4 l.length c4] 54 := (KO2.out.set 7 _)
    have kE : Blk (wA1.setCell ⟨b, 7, none⟩ (.slice a4 l.length c4)) (w.heap.size) #[.int .i64 x, .string eo, .string en] 87 := (KE2.out.other ⟨b, 7, none⟩ (by show b ≠ w.heap.size; omega) _)
    have kT : Blk (wA1.setCell ⟨b, 7, none⟩ (.slice a4 l.length c4)) (w1.heap.size) #[.slice a4 l.length c4] 69 := (KT2.out.other ⟨b, 7, none⟩ (by show b ≠ w1.heap.size; omega) _)
    have ap : Apart [b] wA1 (wA1.setCell ⟨b, 7, none⟩ (.slice a4 l.length c4)) := (Apart.refl [b] wA1).setCell (p := ⟨b, 7, none⟩) (.inl (by simp)) _
    have rS := RS2.out.apart ap
    have rG := RG2.out.apart ap
    have hB := ((HB2.out.setCell (p := ⟨b, 7, none⟩) (by simp) _) : Apart [b] w (wA1.setCell ⟨b, 7, none⟩ (.slice a4 l.length c4)))
    have hz : (wA1.setCell ⟨b, 7, none⟩ (.slice a4 l.length c4)).heap.size = wA1.heap.size := by simp
    obtain ⟨v3, hv3⟩ : ∃ V, (wA1.setCell ⟨b, 7, none⟩ (.slice a4 l.length c4)) = V := ⟨_, rfl⟩
    rw [hv3] at kO kE kT rS rG hB hz
    have KO3 := hid kO
    have KE3 := hid kE
    have KT3 := hid kT
    have RS3 := hid rS
    have RG3 := hid rG
    have HB3 := hid hB
    have HG3 := hid (Nat.le_trans HG2.out (Nat.le_of_eq hz.symm))
    clear kO kE kT rS rG hB hz ap KO2 KE2 KT2 RS2 RG2 HB2 HG2
    obtain ⟨zO3_0, zO3_1, zO3_2, zO3_3, zO3_4, zO3_5, zO3_6, zO3_7, fO3_0, fO3_1, fO3_2, fO3_3, fO3_4, fO3_5, fO3_6, fO3_7⟩ := KO3.out.all8
    obtain ⟨zE3_0, zE3_1, zE3_2, fE3_0, fE3_1, fE3_2⟩ := KE3.out.all3
    obtain ⟨zT3_0, fT3_0⟩ := KT3.out.all1
    have kO : Blk (v3.setCell ⟨b, 5, none⟩ (.slice none 0 0)) (b) #[.bool true, .pointer (some ⟨rb, 0, none⟩), .string ⟨#[]⟩, .slice m.a m.l.length m.c, .slice u.a u.l.length u.c, .slice none 0 0, .bool true, .slice a4 l.length c4] 54 := (KO3.out.set 5 _)
    have kE : Blk (v3.setCell ⟨b, 5, none⟩ (.slice none 0 0)) (w.heap.size) #[.int .i64 x, .string eo, .string en] 87 := (KE3.out.other ⟨b, 5, none⟩ (by show b ≠ w.heap.size; omega) _)
    have kT : Blk (v3.setCell ⟨b, 5, none⟩ (.slice none 0 0)) (w1.heap.size) #[.slice a4 l.length c4] 69 := (KT3.out.other ⟨b, 5, none⟩ (by show b ≠ w1.heap.size; omega) _)
    have ap : Apart [b] v3 (v3.setCell ⟨b, 5, none⟩ (.slice none 0 0)) := (Apart.refl [b] v3).setCell (p := ⟨b, 5, none⟩) (.inl (by simp)) _
    have rS := RS3.out.apart ap
    have rG := RG3.out.apart ap
    have hB := ((HB3.out.setCell (p := ⟨b, 5, none⟩) (by simp) _) : Apart [b] w (v3.setCell ⟨b, 5, none⟩ (.slice none 0 0)))
    have hz : (v3.setCell ⟨b, 5, none⟩ (.slice none 0 0)).heap.size = v3.heap.size := by simp
    obtain ⟨v4, hv4⟩ : ∃ V, (v3.setCell ⟨b, 5, none⟩ (.slice none 0 0)) = V := ⟨_, rfl⟩
    rw [hv4] at kO kE kT rS rG hB hz
    have KO4 := hid kO
    have KE4 := hid kE
    have KT4 := hid kT
    have RS4 := hid rS
    have RG4 := hid rG
    have HB4 := hid hB
    have HG4 := hid (Nat.le_trans HG3.out (Nat.le_of_eq hz.symm))
    clear kO kE kT rS rG hB hz ap KO3 KE3 KT3 RS3 RG3 HB3 HG3
    obtain ⟨zO4_0, zO4_1, zO4_2, zO4_3, zO4_4, zO4_5, zO4_6, zO4_7, fO4_0, fO4_1, fO4_2, fO4_3, fO4_4, fO4_5, fO4_6, fO4_7⟩ := KO4.out.all8
    obtain ⟨zE4_0, zE4_1, zE4_2, fE4_0, fE4_1, fE4_2⟩ := KE4.out.all3
    obtain ⟨zT4_0, fT4_0⟩ := KT4.out.all1
    have HGV := hid (show b < v4.heap.size from KO4.out.lt)
    obtain ⟨wA4, hwA4, kA, hbA, hzA⟩ := box1 v4 #[.int .i64 x, .string eo, .string en] 87
    have KO5 := hid (KO4.out.onto hbA)
    have KE5 := hid (KE4.out.onto hbA)
    have KT5 := hid (KT4.out.onto hbA)
    have RS5 := hid (RS4.out.later hbA)
    have RG5 := hid (RG4.out.later hbA)
    have HB5 := hid (HB4.out.trans (S' := []) (.of_below hbA) (by simp))
    have HG5 := hid (Nat.le_trans HG4.out hbA.size)
    have KR5 := hid kA
    have hzz4 : v4.heap.size < wA4.heap.size := by omega
    have HZR := hid hzz4
    clear kA hbA hzA hzz4 KO4 KE4 KT4 RS4 RG4 HB4 HG4
    obtain ⟨zO5_0, zO5_1, zO5_2, zO5_3, zO5_4, zO5_5, zO5_6, zO5_7, fO5_0, fO5_1, fO5_2, fO5_3, fO5_4, fO5_5, fO5_6, fO5_7⟩ := KO5.out.all8
    obtain ⟨zE5_0, zE5_1, zE5_2, fE5_0, fE5_1, fE5_2⟩ := KE5.out.all3
    obtain ⟨zT5_0, fT5_0⟩ := KT5.out.all1
    obtain ⟨zR5_0, zR5_1, zR5_2, fR5_0, fR5_1, fR5_2⟩ := KR5.out.all3
    have hbv : b ≠ v4.heap.size := by have h1 := HGV.out; omega
    have csh := ed_show (made := true) (r := some ⟨rb, 0, none⟩) (t := ⟨#[]⟩) (m := m) (u := u) (ro := ⟨none, [], 0⟩) (o := true) (g := ⟨a4, l, c4⟩) KO5.out RS5.out.m HML.out HMC.out (some ⟨rb', 0, none⟩) ⟨some ⟨v4.heap.size, 0, none⟩, [⟨x, eo, en⟩], 1⟩ ⟨eone KR5.out ⟨KR5.out.lt, by simp only [List.mem_singleton]; omega⟩, fun e => by cases e⟩ (by simp) HZ1.out HP1.out HM1.out
    have CSH := hid (show Calls Tryz.prog 133 #[.pointer (some ⟨b, 0, none⟩), .pointer (some ⟨rb', 0, none⟩), .slice (some ⟨v4.heap.size, 0, none⟩) (1 : Nat) 1] wA4 _ from csh)
    clear csh
    go_wp2_with fail
    refine (CSH.out).mono ?_; rintro e wZ ⟨rfl, ⟨ma, ml, mc⟩, hml3, hmc3, hk3, hkm3, ha⟩
    clear hwA1 zO2_0 zO2_1 zO2_2 zO2_3 zO2_4 zO2_5 zO2_6 zO2_7 fO2_0 fO2_1 fO2_2 fO2_3 fO2_4 fO2_5 fO2_6 fO2_7 zE2_0 zE2_1 zE2_2 fE2_0 fE2_1 fE2_2 zT2_0 fT2_0 hv3 zO3_0 zO3_1 zO3_2 zO3_3 zO3_4 zO3_5 zO3_6 zO3_7 fO3_0 fO3_1 fO3_2 fO3_3 fO3_4 fO3_5 fO3_6 fO3_7 zE3_0 zE3_1 zE3_2 fE3_0 fE3_1 fE3_2 zT3_0 fT3_0 hv4 zO4_0 zO4_1 zO4_2 zO4_3 zO4_4 zO4_5 zO4_6 zO4_7 fO4_0 fO4_1 fO4_2 fO4_3 fO4_4 fO4_5 fO4_6 fO4_7 zE4_0 zE4_1 zE4_2 fE4_0 fE4_1 fE4_2 zT4_0 fT4_0 hwA4 zO5_0 zO5_1 zO5_2 zO5_3 zO5_4 zO5_5 zO5_6 zO5_7 fO5_0 fO5_1 fO5_2 fO5_3 fO5_4 fO5_5 fO5_6 fO5_7 zE5_0 zE5_1 zE5_2 fE5_0 fE5_1 fE5_2 zT5_0 fT5_0 zR5_0 zR5_1 zR5_2 fR5_0 fR5_1 fR5_2
    have KO6 := hid (hk3)
    have KE6 := hid (KE5.out.apart ha (by simp only [List.mem_singleton]; omega))
    have KT6 := hid (KT5.out.apart ha (by simp only [List.mem_singleton]; omega))
    have KR6 := hid (KR5.out.apart ha (by simp only [List.mem_singleton]; omega))
    have RS6 := hid (RS5.out.apart (ha.more (by simp)))
    have RG6 := hid (RG5.out.apart (ha.more (by simp)))
    have HB6 := hid (HB5.out.trans ha (by simp))
    have HG6 := hid (Nat.le_trans HG5.out ha.size)
    have HM3 := hid (And.intro hml3 hmc3)
    have RM6 := hid (hkm3)
    clear ha hml3 hmc3 hk3 hkm3 KO5 KE5 KT5 KR5 RS5 RG5 HB5 HG5
    obtain ⟨zO6_0, zO6_1, zO6_2, zO6_3, zO6_4, zO6_5, zO6_6, zO6_7, fO6_0, fO6_1, fO6_2, fO6_3, fO6_4, fO6_5, fO6_6, fO6_7⟩ := KO6.out.all8
    obtain ⟨zE6_0, zE6_1, zE6_2, fE6_0, fE6_1, fE6_2⟩ := KE6.out.all3
    obtain ⟨zT6_0, fT6_0⟩ := KT6.out.all1
    obtain ⟨zR6_0, zR6_1, zR6_2, fR6_0, fR6_1, fR6_2⟩ := KR6.out.all3
    go_wp2
    go_ret
    refine ⟨⟨t', ⟨ma, ml, mc⟩, u, ⟨none, [], 0⟩, true, ⟨a4, l, c4⟩⟩, rb', p', L', rfl, ⟨KO6.out, HR.out.apart H.out.blk rfl HB6.out, ⟨RM6.out, RS6.out.u, SPo.empty _ _, RG6.out⟩, HM3.out.2.1, HM3.out.2.2, ?_⟩, ?_, HB6.out⟩
    · have e := HI.out
      rw [HE.out] at e
      have h3 : ml = shfM m.l (shiftI x eo.size en.size) := HM3.out.1
      show InvS (⟨t', ml, lsP u.l, [], true, l⟩ : StaD)
      rw [h3]
      exact e
    · have h3 : ml = shfM m.l (shiftI x eo.size en.size) := HM3.out.1
      show (⟨t', ml, lsP u.l, [], true, l⟩ : StaD) = _
      rw [h3]
  · go_simp
    have BSA := hid ((Below.refl wX.heap.size wX).drew.alloc (Nat.le_refl _) (.cells #[.slice none 0 0] 69)); have KSA := hid (Blk.new wX.drew #[.slice none 0 0] 69)
    try go_wp2_with fail
    refine hK.out _ _ ?_ (fun hHeld => ?_)
    · exact FS.out _ BSA.out
    clear hK K
    try simp only [Act.put, sqp]
    refine wpAnyH_ready (rs := [7]) (by kernel_rfl) (by simp) ?_
    refine AllReadyH.cons (by simp only [sqg]; rfl) (fun K hK => ?_) AllReadyH.nil
    go_simp
    (go_at_call 132; refine (CA.out _ BSA.out).mono ?_; rintro e w1 ⟨a4, c4, rfl, hr4, hb4⟩; have hb4' : Below wX.heap.size wX w1 := BSA.out.trans (hb4.mono BSA.out.size))
    try go_wp2_with fail
    refine hK.out _ _ ?_ (fun hHeld => ?_)
    · exact FS.out _ hb4'
    clear hK K
    try simp only [Act.put, sqp]
    have KO1 := hid (KO0.out.onto hb4')
    have KE1 := hid (KE0.out.onto hb4')
    have RS1 := hid (RS0.out.later hb4')
    have HB1 := hid (HB0.out.trans (S' := []) (.of_below hb4') (by simp))
    have HG1 := hid (Nat.le_trans HG0.out hb4'.size)
    have KT1 := hid (show Blk w1 wX.heap.size #[.slice none 0 0] 69 from KSA.out.onto hb4)
    have RG1 := hid (hr4.off (S := [b, w.heap.size, wX.heap.size]) (fun i hi => by
      have hs : wX.heap.size + 1 ≤ (World.alloc wX.drew (.cells #[.slice none 0 0] 69)).heap.size := by simp
      simp only [List.mem_cons, List.not_mem_nil, or_false] at hi
      have hs2 : (World.alloc wX.drew (.cells #[.slice none 0 0] 69)).heap.size = (World.alloc wX (.cells #[.slice none 0 0] 69)).heap.size := by simp
      rcases hi with rfl | rfl | rfl
      · exact Nat.lt_of_lt_of_le (by omega) hs
      · exact Nat.lt_of_lt_of_le (by omega) hs
      · exact hs))
    replace RS1 := hid (((RS0.out.wide (S' := [b, w.heap.size, wX.heap.size]) (fun i hi => by simp only [List.mem_cons, List.not_mem_nil, or_false] at hi; rcases hi with rfl | rfl | rfl; exact .inl (by simp); exact .inl (by simp); exact .inr (Nat.le_refl _))).later hb4'))
    clear hr4 hb4 CA KSA
    refine sqt 8 ?_
    try simp only [Act.put, sqp]
    refine sqt 9 ?_
    try simp only [Act.put, sqp]
    refine sqt 10 ?_
    try simp only [Act.put, sqp]
    obtain ⟨zO1_0, zO1_1, zO1_2, zO1_3, zO1_4, zO1_5, zO1_6, zO1_7, fO1_0, fO1_1, fO1_2, fO1_3, fO1_4, fO1_5, fO1_6, fO1_7⟩ := KO1.out.all8
    obtain ⟨zE1_0, zE1_1, zE1_2, fE1_0, fE1_1, fE1_2⟩ := KE1.out.all3
    obtain ⟨zT1_0, fT1_0⟩ := KT1.out.all1
    have hs12 : w1.cell? ⟨b, 7, none⟩ = some (.slice g.a g.l.length g.c) := KO1.out.cell 7 _ rfl
    refine wpAnyH_ready (rs := [12]) (by kernel_rfl) (by simp) ?_
    refine AllReadyH.cons (by simp only [sqg]; rfl) (fun K hK => ?_) AllReadyH.nil
    go_simp
    skip
    try go_wp2_with fail
    refine hK.out _ _ ?_ (fun hHeld => ?_)
    · exact ⟨(KO1.out.other ⟨wX.heap.size, 0, none⟩ (by show wX.heap.size ≠ b; omega) _).cell 7 _ rfl, (KE1.out.other ⟨wX.heap.size, 0, none⟩ (by show wX.heap.size ≠ w.heap.size; omega) _).cell 0 _ rfl, (KE1.out.other ⟨wX.heap.size, 0, none⟩ (by show wX.heap.size ≠ w.heap.size; omega) _).cell 1 _ rfl, (KE1.out.other ⟨wX.heap.size, 0, none⟩ (by show wX.heap.size ≠ w.heap.size; omega) _).cell 2 _ rfl⟩
    clear hK K
    try simp only [Act.put, sqp]
    refine sqt 13 ?_
    try simp only [Act.put, sqp]
    refine wpAnyH_done (by kernel_rfl) ?_ _
    clear hb4' hs12 BSA
    have kT : Blk (w1.setCell ⟨wX.heap.size, 0, none⟩ (.slice a4 l.length c4)) (wX.heap.size) #[.slice a4 l.length c4] 69 := (KT1.out.set 0 _)
    have kO : Blk (w1.setCell ⟨wX.heap.size, 0, none⟩ (.slice a4 l.length c4)) (b) #[.bool true, .pointer (some ⟨rb, 0, none⟩), .string ⟨#[]⟩, .slice m.a m.l.length m.c, .slice u.a u.l.length u.c, .slice ro.a ro.l.length ro.c, .bool true, .slice g.a g.l.length g.c] 54 := (KO1.out.other ⟨wX.heap.size, 0, none⟩ (by show wX.heap.size ≠ b; omega) _)
    have kE : Blk (w1.setCell ⟨wX.heap.size, 0, none⟩ (.slice a4 l.length c4)) (w.heap.size) #[.int .i64 x, .string eo, .string en] 87 := (KE1.out.other ⟨wX.heap.size, 0, none⟩ (by show wX.heap.size ≠ w.heap.size; omega) _)
    have ap : Apart [b, w.heap.size, wX.heap.size] w1 (w1.setCell ⟨wX.heap.size, 0, none⟩ (.slice a4 l.length c4)) := (Apart.refl [b, w.heap.size, wX.heap.size] w1).setCell (p := ⟨wX.heap.size, 0, none⟩) (.inl (by simp)) _
    have rS := RS1.out.apart ap
    have rG := RG1.out.apart ap
    have hB := ((HB1.out.setCell (p := ⟨wX.heap.size, 0, none⟩) (by right; show w.heap.size ≤ wX.heap.size; omega) _) : Apart [b] w (w1.setCell ⟨wX.heap.size, 0, none⟩ (.slice a4 l.length c4)))
    have hz : (w1.setCell ⟨wX.heap.size, 0, none⟩ (.slice a4 l.length c4)).heap.size = w1.heap.size := by simp
    obtain ⟨v2, hv2⟩ : ∃ V, (w1.setCell ⟨wX.heap.size, 0, none⟩ (.slice a4 l.length c4)) = V := ⟨_, rfl⟩
    rw [hv2] at kO kE kT rS rG hB hz
    rw [hv2]
    have KO2 := hid kO
    have KE2 := hid kE
    have KT2 := hid kT
    have RS2 := hid rS
    have RG2 := hid rG
    have HB2 := hid hB
    have HG2 := hid (Nat.le_trans HG1.out (Nat.le_of_eq hz.symm))
    clear kO kE kT rS rG hB hz ap KO1 KE1 KT1 RS1 RG1 HB1 HG1
    obtain ⟨zO2_0, zO2_1, zO2_2, zO2_3, zO2_4, zO2_5, zO2_6, zO2_7, fO2_0, fO2_1, fO2_2, fO2_3, fO2_4, fO2_5, fO2_6, fO2_7⟩ := KO2.out.all8
    obtain ⟨zE2_0, zE2_1, zE2_2, fE2_0, fE2_1, fE2_2⟩ := KE2.out.all3
    obtain ⟨zT2_0, fT2_0⟩ := KT2.out.all1
    replace RS2 := hid (RS2.out.wide (S' := [b]) (down1))
    replace RG2 := hid (RG2.out.wide (S' := [b]) (down1))
    have kO : Blk (v2.setCell ⟨b, 7, none⟩ (.slice a4 l.length c4)) (b) #[.bool true, .pointer (some ⟨rb, 0, none⟩), .string ⟨#[]⟩, .slice m.a m.l.length m.c, .slice u.a u.l.length u.c, .slice ro.a ro.l.length ro.c, .bool true, .slice a4 l.length c4] 54 := (KO2.out.set 7 _)
    have kE : Blk (v2.setCell ⟨b, 7, none⟩ (.slice a4 l.length c4)) (w.heap.size) #[.int .i64 x, .string eo, .string en] 87 := (KE2.out.other ⟨b, 7, none⟩ (by show b ≠ w.heap.size; omega) _)
    have kT : Blk (v2.setCell ⟨b, 7, none⟩ (.slice a4 l.length c4)) (wX.heap.size) #[.slice a4 l.length c4] 69 := (KT2.out.other ⟨b, 7, none⟩ (by show b ≠ wX.heap.size; omega) _)
    have ap : Apart [b] v2 (v2.setCell ⟨b, 7, none⟩ (.slice a4 l.length c4)) := (Apart.refl [b] v2).setCell (p := ⟨b, 7, none⟩) (.inl (by simp)) _
    have rS := RS2.out.apart ap
    have rG := RG2.out.apart ap
    have hB := ((HB2.out.setCell (p := ⟨b, 7, none⟩) (by simp) _) : Apart [b] w (v2.setCell ⟨b, 7, none⟩ (.slice a4 l.length c4)))
    have hz : (v2.setCell ⟨b, 7, none⟩ (.slice a4 l.length c4)).heap.size = v2.heap.size := by simp
    obtain ⟨v3, hv3⟩ : ∃ V, (v2.setCell ⟨b, 7, none⟩ (.slice a4 l.length c4)) = V := ⟨_, rfl⟩
    rw [hv3] at kO kE kT rS rG hB hz
    have KO3 := hid kO
    have KE3 := hid kE
    have KT3 := hid kT
    have RS3 := hid rS
    have RG3 := hid rG
    have HB3 := hid hB
    have HG3 := hid (Nat.le_trans HG2.out (Nat.le_of_eq hz.symm))
    clear kO kE kT rS rG hB hz ap KO2 KE2 KT2 RS2 RG2 HB2 HG2
    obtain ⟨zO3_0, zO3_1, zO3_2, zO3_3, zO3_4, zO3_5, zO3_6, zO3_7, fO3_0, fO3_1, fO3_2, fO3_3, fO3_4, fO3_5, fO3_6, fO3_7⟩ := KO3.out.all8
    obtain ⟨zE3_0, zE3_1, zE3_2, fE3_0, fE3_1, fE3_2⟩ := KE3.out.all3
    obtain ⟨zT3_0, fT3_0⟩ := KT3.out.all1
    have kO : Blk (v3.setCell ⟨b, 5, none⟩ (.slice none 0 0)) (b) #[.bool true, .pointer (some ⟨rb, 0, none⟩), .string ⟨#[]⟩, .slice m.a m.l.length m.c, .slice u.a u.l.length u.c, .slice none 0 0, .bool true, .slice a4 l.length c4] 54 := (KO3.out.set 5 _)
    have kE : Blk (v3.setCell ⟨b, 5, none⟩ (.slice none 0 0)) (w.heap.size) #[.int .i64 x, .string eo, .string en] 87 := (KE3.out.other ⟨b, 5, none⟩ (by show b ≠ w.heap.size; omega) _)
    have kT : Blk (v3.setCell ⟨b, 5, none⟩ (.slice none 0 0)) (wX.heap.size) #[.slice a4 l.length c4] 69 := (KT3.out.other ⟨b, 5, none⟩ (by show b ≠ wX.heap.size; omega) _)
    have ap : Apart [b] v3 (v3.setCell ⟨b, 5, none⟩ (.slice none 0 0)) := (Apart.refl [b] v3).setCell (p := ⟨b, 5, none⟩) (.inl (by simp)) _
    have rS := RS3.out.apart ap
    have rG := RG3.out.apart ap
    have hB := ((HB3.out.setCell (p := ⟨b, 5, none⟩) (by simp) _) : Apart [b] w (v3.setCell ⟨b, 5, none⟩ (.slice none 0 0)))
    have hz : (v3.setCell ⟨b, 5, none⟩ (.slice none 0 0)).heap.size = v3.heap.size := by simp
    obtain ⟨v4, hv4⟩ : ∃ V, (v3.setCell ⟨b, 5, none⟩ (.slice none 0 0)) = V := ⟨_, rfl⟩
    rw [hv4] at kO kE kT rS rG hB hz
    have KO4 := hid kO
    have KE4 := hid kE
    have KT4 := hid kT
    have RS4 := hid rS
    have RG4 := hid rG
    have HB4 := hid hB
    have HG4 := hid (Nat.le_trans HG3.out (Nat.le_of_eq hz.symm))
    clear kO kE kT rS rG hB hz ap KO3 KE3 KT3 RS3 RG3 HB3 HG3
    obtain ⟨zO4_0, zO4_1, zO4_2, zO4_3, zO4_4, zO4_5, zO4_6, zO4_7, fO4_0, fO4_1, fO4_2, fO4_3, fO4_4, fO4_5, fO4_6, fO4_7⟩ := KO4.out.all8
    obtain ⟨zE4_0, zE4_1, zE4_2, fE4_0, fE4_1, fE4_2⟩ := KE4.out.all3
    obtain ⟨zT4_0, fT4_0⟩ := KT4.out.all1
    have HGV := hid (show b < v4.heap.size from KO4.out.lt)
    obtain ⟨wA4, hwA4, kA, hbA, hzA⟩ := box1 v4 #[.int .i64 x, .string eo, .string en] 87
    have KO5 := hid (KO4.out.onto hbA)
    have KE5 := hid (KE4.out.onto hbA)
    have KT5 := hid (KT4.out.onto hbA)
    have RS5 := hid (RS4.out.later hbA)
    have RG5 := hid (RG4.out.later hbA)
    have HB5 := hid (HB4.out.trans (S' := []) (.of_below hbA) (by simp))
    have HG5 := hid (Nat.le_trans HG4.out hbA.size)
    have KR5 := hid kA
    have hzz4 : v4.heap.size < wA4.heap.size := by omega
    have HZR := hid hzz4
    clear kA hbA hzA hzz4 KO4 KE4 KT4 RS4 RG4 HB4 HG4
    obtain ⟨zO5_0, zO5_1, zO5_2, zO5_3, zO5_4, zO5_5, zO5_6, zO5_7, fO5_0, fO5_1, fO5_2, fO5_3, fO5_4, fO5_5, fO5_6, fO5_7⟩ := KO5.out.all8
    obtain ⟨zE5_0, zE5_1, zE5_2, fE5_0, fE5_1, fE5_2⟩ := KE5.out.all3
    obtain ⟨zT5_0, fT5_0⟩ := KT5.out.all1
    obtain ⟨zR5_0, zR5_1, zR5_2, fR5_0, fR5_1, fR5_2⟩ := KR5.out.all3
    have hbv : b ≠ v4.heap.size := by have h1 := HGV.out; omega
    have csh := ed_show (made := true) (r := some ⟨rb, 0, none⟩) (t := ⟨#[]⟩) (m := m) (u := u) (ro := ⟨none, [], 0⟩) (o := true) (g := ⟨a4, l, c4⟩) KO5.out RS5.out.m HML.out HMC.out (some ⟨rb', 0, none⟩) ⟨some ⟨v4.heap.size, 0, none⟩, [⟨x, eo, en⟩], 1⟩ ⟨eone KR5.out ⟨KR5.out.lt, by simp only [List.mem_singleton]; omega⟩, fun e => by cases e⟩ (by simp) HZ1.out HP1.out HM1.out
    have CSH := hid (show Calls Tryz.prog 133 #[.pointer (some ⟨b, 0, none⟩), .pointer (some ⟨rb', 0, none⟩), .slice (some ⟨v4.heap.size, 0, none⟩) (1 : Nat) 1] wA4 _ from csh)
    clear csh
    go_wp2_with fail
    refine (CSH.out).mono ?_; rintro e wZ ⟨rfl, ⟨ma, ml, mc⟩, hml3, hmc3, hk3, hkm3, ha⟩
    clear zO1_0 zO1_1 zO1_2 zO1_3 zO1_4 zO1_5 zO1_6 zO1_7 fO1_0 fO1_1 fO1_2 fO1_3 fO1_4 fO1_5 fO1_6 fO1_7 zE1_0 zE1_1 zE1_2 fE1_0 fE1_1 fE1_2 zT1_0 fT1_0 hv2 zO2_0 zO2_1 zO2_2 zO2_3 zO2_4 zO2_5 zO2_6 zO2_7 fO2_0 fO2_1 fO2_2 fO2_3 fO2_4 fO2_5 fO2_6 fO2_7 zE2_0 zE2_1 zE2_2 fE2_0 fE2_1 fE2_2 zT2_0 fT2_0 hv3 zO3_0 zO3_1 zO3_2 zO3_3 zO3_4 zO3_5 zO3_6 zO3_7 fO3_0 fO3_1 fO3_2 fO3_3 fO3_4 fO3_5 fO3_6 fO3_7 zE3_0 zE3_1 zE3_2 fE3_0 fE3_1 fE3_2 zT3_0 fT3_0 hv4 zO4_0 zO4_1 zO4_2 zO4_3 zO4_4 zO4_5 zO4_6 zO4_7 fO4_0 fO4_1 fO4_2 fO4_3 fO4_4 fO4_5 fO4_6 fO4_7 zE4_0 zE4_1 zE4_2 fE4_0 fE4_1 fE4_2 zT4_0 fT4_0 hwA4 zO5_0 zO5_1 zO5_2 zO5_3 zO5_4 zO5_5 zO5_6 zO5_7 fO5_0 fO5_1 fO5_2 fO5_3 fO5_4 fO5_5 fO5_6 fO5_7 zE5_0 zE5_1 zE5_2 fE5_0 fE5_1 fE5_2 zT5_0 fT5_0 zR5_0 zR5_1 zR5_2 fR5_0 fR5_1 fR5_2
    have KO6 := hid (hk3)
    have KE6 := hid (KE5.out.apart ha (by simp only [List.mem_singleton]; omega))
    have KT6 := hid (KT5.out.apart ha (by simp only [List.mem_singleton]; omega))
    have KR6 := hid (KR5.out.apart ha (by simp only [List.mem_singleton]; omega))
    have RS6 := hid (RS5.out.apart (ha.more (by simp)))
    have RG6 := hid (RG5.out.apart (ha.more (by simp)))
    have HB6 := hid (HB5.out.trans ha (by simp))
    have HG6 := hid (Nat.le_trans HG5.out ha.size)
    have HM3 := hid (And.intro hml3 hmc3)
    have RM6 := hid (hkm3)
    clear ha hml3 hmc3 hk3 hkm3 KO5 KE5 KT5 KR5 RS5 RG5 HB5 HG5
    obtain ⟨zO6_0, zO6_1, zO6_2, zO6_3, zO6_4, zO6_5, zO6_6, zO6_7, fO6_0, fO6_1, fO6_2, fO6_3, fO6_4, fO6_5, fO6_6, fO6_7⟩ := KO6.out.all8
    obtain ⟨zE6_0, zE6_1, zE6_2, fE6_0, fE6_1, fE6_2⟩ := KE6.out.all3
    obtain ⟨zT6_0, fT6_0⟩ := KT6.out.all1
    obtain ⟨zR6_0, zR6_1, zR6_2, fR6_0, fR6_1, fR6_2⟩ := KR6.out.all3
    go_wp2
    go_ret
    refine ⟨⟨t', ⟨ma, ml, mc⟩, u, ⟨none, [], 0⟩, true, ⟨a4, l, c4⟩⟩, rb', p', L', rfl, ⟨KO6.out, HR.out.apart H.out.blk rfl HB6.out, ⟨RM6.out, RS6.out.u, SPo.empty _ _, RG6.out⟩, HM3.out.2.1, HM3.out.2.2, ?_⟩, ?_, HB6.out⟩
    · have e := HI.out
      rw [HE.out] at e
      have h3 : ml = shfM m.l (shiftI x eo.size en.size) := HM3.out.1
      show InvS (⟨t', ml, lsP u.l, [], true, l⟩ : StaD)
      rw [h3]
      exact e
    · have h3 : ml = shfM m.l (shiftI x eo.size en.size) := HM3.out.1
      show (⟨t', ml, lsP u.l, [], true, l⟩ : StaD) = _
      rw [h3]
set_option maxRecDepth 100000 in
set_option maxHeartbeats 3200000 in
theorem ed_edit_closed {w : World} {b : Nat} {t : ByteArray} {m : KPc} {u ro : SPc} {g : EPc} {rb : Nat} {p : Option Addr} {L : List ByteArray} (h : IsEd w b ⟨t, m, u, ro, false, g⟩ rb p L) (x : Int) (eo en : ByteArray) (ho : eo.size ≤ 4294967296) (hn : en.size ≤ 4294967296) (hx : eo.size + en.size ≤ 512) (hy : 1 ≤ eo.size + en.size) {t' : ByteArray} {rb' : Nat} {p' : Option Addr} {L' : List ByteArray} (hap : appE t x eo en = (t', 0)) (hr : RopeW w (some ⟨rb', 0, none⟩) p' L' t') : Calls Tryz.prog 99 #[.pointer (some ⟨b, 0, none⟩), .pointer (some ⟨rb', 0, none⟩), edV x eo en] w (RetEd w b (editD (Sta.d ⟨t, m, u, ro, false, g⟩) ⟨x, eo, en⟩)) := by
  have hbl : b < w.heap.size := h.lt
  have hg : g.l = [] := by
    rcases h.inv.go with e | e
    · exact e
    · have := e.1; cases this
  have hadd : addS g.l ⟨x, eo, en⟩ = ([⟨x, eo, en⟩], 0) := by unfold addS; rw [hg]; rfl
  have hok : okE5 ⟨x, eo, en⟩ = true := (okE5_iff _).2 ⟨by show eo.size ≤ 512; omega, by show en.size ≤ 512; omega, by show 1 ≤ eo.size ∨ 1 ≤ en.size; omega⟩
  have hrun : runE t [⟨x, eo, en⟩] = (t', 0) := run_one hap
  have hmx := h.inv.shown hrun
  have hpx := run_in h.inv.z hrun
  have hzx := h.inv.edz (l := [⟨x, eo, en⟩]) (fun y hy => by rw [List.mem_singleton.1 hy]; exact hok)
  have hie := inv_edit (x := ⟨x, eo, en⟩) (t' := t') h.inv hap hok
  have hml : m.l.length ≤ 1000000 := Nat.le_trans h.inv.ml (by decide)
  have hmc : m.l.length ≤ m.c ∧ m.c ≤ maxLen := ⟨h.ml, h.mc⟩
  obtain ⟨l, hl⟩ : ∃ l, [(⟨x, eo, en⟩ : Edt)] = l := ⟨_, rfl⟩
  have HZ1 := hid hzx; have HP1 := hid hpx; have HM1 := hid hmx; have HML := hid hml; have HMC := hid hmc; have HI := hid hie; have HR := hid hr; have HL := hid hl
  rw [hl] at hadd
  have hll : l.length = 1 := by rw [← hl]; rfl
  have hul : u.l.length ≤ 900 ∧ ∀ y ∈ u.l, y.l.length ≤ 1000000 := by
    have h1 := h.inv.ul
    have h2 : (lsP u.l).length ≤ 16 := h1.1
    rw [lsP_len] at h2
    exact ⟨by omega, lsP_all fun y hy => Nat.le_trans (h1.2 y hy).2 (by decide)⟩
  have HLL := hid hll; have HUL := hid hul
  have he : editD (Sta.d ⟨t, m, u, ro, false, g⟩) ⟨x, eo, en⟩ = (⟨t', shfM m.l (shiftI x eo.size en.size), pushL (lsP u.l) [⟨x, eo, en⟩], [], false, g.l⟩, 0) := by unfold editD; rw [if_neg (fun h => by cases h.1)]; simp only [Sta.d, hap]; rfl
  have HE := hid he
  rw [he]
  have hgz : g.l.length ≤ 32 := by rw [hg]; exact Nat.zero_le _
  clear he hmx hpx hzx hie hml hmc hap hr hrun hok hl hll hul hg
  obtain ⟨wX, hwX, kE, hb0, hz⟩ := box1 w #[.int .i64 x, .string eo, .string en] 87
  have KO0 := hid (show Blk wX b #[.bool true, .pointer (some ⟨rb, 0, none⟩), .string ⟨#[]⟩, .slice m.a m.l.length m.c, .slice u.a u.l.length u.c, .slice ro.a ro.l.length ro.c, .bool false, .slice g.a g.l.length g.c] 54 from h.blk.onto hb0)
  have KE0 := hid (kE)
  have RS0 := hid ((h.rows.wide (S' := [b, w.heap.size]) (fun i hi => by simp only [List.mem_cons, List.not_mem_nil, or_false] at hi; rcases hi with rfl | rfl; exact .inl (by simp); exact .inr (Nat.le_refl _))).later hb0)
  have HB0 := hid ((Apart.of_below hb0 : Apart [b] w wX))
  have HG0 := hid (Nat.le_refl wX.heap.size)
  have hlt2 : ∀ W : World, wX.heap.size ≤ W.heap.size → ∀ i ∈ [b, w.heap.size], i < W.heap.size := fun W h i hi => by simp only [List.mem_cons, List.not_mem_nil, or_false] at hi; rcases hi with rfl | rfl <;> omega
  have HLT := hid hlt2; have H := hid h; have HB := hid hb0
  clear hlt2 kE
  obtain ⟨zO0_0, zO0_1, zO0_2, zO0_3, zO0_4, zO0_5, zO0_6, zO0_7, fO0_0, fO0_1, fO0_2, fO0_3, fO0_4, fO0_5, fO0_6, fO0_7⟩ := KO0.out.all8
  obtain ⟨zE0_0, zE0_1, zE0_2, fE0_0, fE0_1, fE0_2⟩ := KE0.out.all3
  have ca := fun W (hW : Below wX.heap.size wX W) => sadd_any g.a g.l g.c ⟨x, eo, en⟩ W ((h.rows.g.later hb0).later hW).in (by omega)
  rw [hadd] at ca
  have CA := hid ca
  have hzl : w.heap.size < wX.heap.size := by omega
  clear h hb0 hz ca hadd
  have gz : (eo.size : Int) + (en.size : Int) ≤ 512 := by omega
  have gy : ¬ (eo.size : Int) + (en.size : Int) = 0 := by omega
  go_enter Tryz.func99, Tryz.ntmps99
  have hfs : ∀ W, Below wX.heap.size wX W → W.cell? ⟨b, 7, none⟩ = some (.slice g.a g.l.length g.c) ∧ W.cell? ⟨w.heap.size, 0, none⟩ = some (.int .i64 x) ∧ W.cell? ⟨w.heap.size, 1, none⟩ = some (.string eo) ∧ W.cell? ⟨w.heap.size, 2, none⟩ = some (.string en) := fun W h => ⟨(KO0.out.onto h).cell 7 _ rfl, (KE0.out.onto h).cell 0 _ rfl, (KE0.out.onto h).cell 1 _ rfl, (KE0.out.onto h).cell 2 _ rfl⟩
  have FS := hid hfs
  clear hfs
  go_wp2_with fail
  clear zO0_0 zO0_1 zO0_2 zO0_3 zO0_4 zO0_5 zO0_6 zO0_7 fO0_0 fO0_1 fO0_2 fO0_3 fO0_4 fO0_5 fO0_6 fO0_7 zE0_0 zE0_1 zE0_2 fE0_0 fE0_1 fE0_2
  refine wp_region_held_drew (S := (fun W : World => W.cell? ⟨b, 7, none⟩ = some (.slice g.a g.l.length g.c) ∧ W.cell? ⟨w.heap.size, 0, none⟩ = some (.int .i64 x) ∧ W.cell? ⟨w.heap.size, 1, none⟩ = some (.string eo) ∧ W.cell? ⟨w.heap.size, 2, none⟩ = some (.string en))) (by kernel_rfl) (FS.out _ (Below.refl _ _).drew) (fun hHeld => ?_)
  refine sqt 0 ?_
  try simp only [Act.put, sqp]
  refine sqt 1 ?_
  try simp only [Act.put, sqp]
  refine sqt 2 ?_
  try simp only [Act.put, sqp]
  refine sqt 3 ?_
  try simp only [Act.put, sqp]
  refine sqt 4 ?_
  try simp only [Act.put, sqp]
  refine sqt 5 ?_
  try simp only [Act.put, sqp]
  refine sqt 6 ?_
  try simp only [Act.put, sqp]
  clear hwX
  refine wpAnyH_ready (rs := [7, 11]) (by kernel_rfl) (by simp) ?_
  refine AllReadyH.cons (by simp only [sqg]; rfl) (fun K hK => ?_) (AllReadyH.cons (by simp only [sqg]; rfl) (fun K hK => ?_) AllReadyH.nil)
  · go_simp
    (go_at_call 132; refine (CA.out _ (Below.refl _ _).drew).mono ?_; rintro e w1 ⟨a4, c4, rfl, hr4, hb4⟩; have hb4' : Below wX.heap.size wX w1 := (Below.refl _ _).drew.trans hb4)
    try go_wp2_with fail
    refine hK.out _ _ ?_ (fun hHeld => ?_)
    · exact FS.out _ hb4'
    clear hK K
    try simp only [Act.put, sqp]
    have KO1 := hid (KO0.out.onto hb4')
    have KE1 := hid (KE0.out.onto hb4')
    have RS1 := hid (RS0.out.later hb4')
    have HB1 := hid (HB0.out.trans (S' := []) (.of_below hb4') (by simp))
    have HG1 := hid (Nat.le_trans HG0.out hb4'.size)
    have RG1 := hid (hr4.off (S := [b, w.heap.size]) (HLT.out _ (Nat.le_refl _)))
    clear hr4 hb4 CA
    refine sqt 8 ?_
    try simp only [Act.put, sqp]
    refine sqt 9 ?_
    try simp only [Act.put, sqp]
    refine sqt 10 ?_
    try simp only [Act.put, sqp]
    refine wpAnyH_ready (rs := [11]) (by kernel_rfl) (by simp) ?_
    refine AllReadyH.cons (by simp only [sqg]; rfl) (fun K hK => ?_) AllReadyH.nil
    go_simp
    skip
    try go_wp2_with fail
    refine hK.out _ _ ?_ (fun hHeld => ?_)
    · exact FS.out _ (hb4'.alloc hb4'.size _)
    clear hK K
    try simp only [Act.put, sqp]
    refine wpAnyH_ready (rs := [12]) (by kernel_rfl) (by simp) ?_
    refine AllReadyH.cons (by simp only [sqg]; rfl) (fun K hK => ?_) AllReadyH.nil
    go_simp
    skip
    try go_wp2_with fail
    refine hK.out _ _ ?_ (fun hHeld => ?_)
    · exact FS.out _ (hb4'.alloc hb4'.size _)
    clear hK K
    try simp only [Act.put, sqp]
    refine sqt 13 ?_
    try simp only [Act.put, sqp]
    refine wpAnyH_done (by kernel_rfl) ?_ _
    have hx1 : wX.heap.size ≤ w1.heap.size := hb4'.size
    clear hb4'
    obtain ⟨wA1, hwA1, kA, hbA, hzA⟩ := box1 w1 #[.slice a4 l.length c4] 69
    have KO2 := hid (KO1.out.onto hbA)
    have KE2 := hid (KE1.out.onto hbA)
    have RS2 := hid (RS1.out.later hbA)
    have RG2 := hid (RG1.out.later hbA)
    have HB2 := hid (HB1.out.trans (S' := []) (.of_below hbA) (by simp))
    have HG2 := hid (Nat.le_trans HG1.out hbA.size)
    have KT2 := hid kA
    have hzz1 : w1.heap.size < wA1.heap.size := by omega
    have HZT := hid hzz1
    clear kA hbA hzA hzz1 KO1 KE1 RS1 RG1 HB1 HG1
    obtain ⟨zO2_0, zO2_1, zO2_2, zO2_3, zO2_4, zO2_5, zO2_6, zO2_7, fO2_0, fO2_1, fO2_2, fO2_3, fO2_4, fO2_5, fO2_6, fO2_7⟩ := KO2.out.all8
    obtain ⟨zE2_0, zE2_1, zE2_2, fE2_0, fE2_1, fE2_2⟩ := KE2.out.all3
    obtain ⟨zT2_0, fT2_0⟩ := KT2.out.all1
    rw [hwA1]
    replace RS2 := hid (RS2.out.wide (S' := [b]) (down1))
    replace RG2 := hid (RG2.out.wide (S' := [b]) (down1))
    have cpu := ed_push (made := true) (r := some ⟨rb, 0, none⟩) (t := ⟨#[]⟩) (m := m) (u := u) (ro := ro) (o := false) (g := g) KO2.out RS2.out.u ⟨a4, l, c4⟩ RG2.out HUL.out.1 HUL.out.2 (by rw [HLL.out]; decide)
    have CPU := hid (show Calls Tryz.prog 109 #[.pointer (some ⟨b, 0, none⟩), stpV a4 l.length c4] wA1 _ from cpu)
    clear cpu
    go_wp2_with fail
    refine (CPU.out).mono ?_; rintro e wP ⟨rfl, ⟨ua, ul, uc⟩, hul, hk2, hsu, ha⟩
    clear hwA1 zO2_0 zO2_1 zO2_2 zO2_3 zO2_4 zO2_5 zO2_6 zO2_7 fO2_0 fO2_1 fO2_2 fO2_3 fO2_4 fO2_5 fO2_6 fO2_7 zE2_0 zE2_1 zE2_2 fE2_0 fE2_1 fE2_2 zT2_0 fT2_0
    have KO3 := hid (hk2)
    have KE3 := hid (KE2.out.apart ha (by simp only [List.mem_singleton]; omega))
    have KT3 := hid (KT2.out.apart ha (by simp only [List.mem_singleton]; omega))
    have RS3 := hid (RS2.out.apart (ha.more (by simp)))
    have RG3 := hid (RG2.out.apart (ha.more (by simp)))
    have HB3 := hid (HB2.out.trans ha (by simp))
    have HG3 := hid (Nat.le_trans HG2.out ha.size)
    have HUL2 := hid hul
    have RU3 := hid (hsu)
    clear ha hul hk2 hsu KO2 KE2 KT2 RS2 RG2 HB2 HG2
    obtain ⟨zO3_0, zO3_1, zO3_2, zO3_3, zO3_4, zO3_5, zO3_6, zO3_7, fO3_0, fO3_1, fO3_2, fO3_3, fO3_4, fO3_5, fO3_6, fO3_7⟩ := KO3.out.all8
    obtain ⟨zE3_0, zE3_1, zE3_2, fE3_0, fE3_1, fE3_2⟩ := KE3.out.all3
    obtain ⟨zT3_0, fT3_0⟩ := KT3.out.all1
    have kO : Blk (wP.setCell ⟨b, 5, none⟩ (.slice none 0 0)) (b) #[.bool true, .pointer (some ⟨rb, 0, none⟩), .string ⟨#[]⟩, .slice m.a m.l.length m.c, .slice ua ul.length uc, .slice none 0 0, .bool false, .slice g.a g.l.length g.c] 54 := (KO3.out.set 5 _)
    have kE : Blk (wP.setCell ⟨b, 5, none⟩ (.slice none 0 0)) (w.heap.size) #[.int .i64 x, .string eo, .string en] 87 := (KE3.out.other ⟨b, 5, none⟩ (by show b ≠ w.heap.size; omega) _)
    have kT : Blk (wP.setCell ⟨b, 5, none⟩ (.slice none 0 0)) (w1.heap.size) #[.slice a4 l.length c4] 69 := (KT3.out.other ⟨b, 5, none⟩ (by show b ≠ w1.heap.size; omega) _)
    have ap : Apart [b] wP (wP.setCell ⟨b, 5, none⟩ (.slice none 0 0)) := (Apart.refl [b] wP).setCell (p := ⟨b, 5, none⟩) (.inl (by simp)) _
    have rS := RS3.out.apart ap
    have rG := RG3.out.apart ap
    have rU := RU3.out.apart ap
    have hB := ((HB3.out.setCell (p := ⟨b, 5, none⟩) (by simp) _) : Apart [b] w (wP.setCell ⟨b, 5, none⟩ (.slice none 0 0)))
    have hz : (wP.setCell ⟨b, 5, none⟩ (.slice none 0 0)).heap.size = wP.heap.size := by simp
    obtain ⟨v4, hv4⟩ : ∃ V, (wP.setCell ⟨b, 5, none⟩ (.slice none 0 0)) = V := ⟨_, rfl⟩
    rw [hv4] at kO kE kT rS rG rU hB hz
    have KO4 := hid kO
    have KE4 := hid kE
    have KT4 := hid kT
    have RS4 := hid rS
    have RG4 := hid rG
    have RU4 := hid rU
    have HB4 := hid hB
    have HG4 := hid (Nat.le_trans HG3.out (Nat.le_of_eq hz.symm))
    clear kO kE kT rS rG rU hB hz ap KO3 KE3 KT3 RS3 RG3 RU3 HB3 HG3
    obtain ⟨zO4_0, zO4_1, zO4_2, zO4_3, zO4_4, zO4_5, zO4_6, zO4_7, fO4_0, fO4_1, fO4_2, fO4_3, fO4_4, fO4_5, fO4_6, fO4_7⟩ := KO4.out.all8
    obtain ⟨zE4_0, zE4_1, zE4_2, fE4_0, fE4_1, fE4_2⟩ := KE4.out.all3
    obtain ⟨zT4_0, fT4_0⟩ := KT4.out.all1
    have HGV := hid (show b < v4.heap.size from KO4.out.lt)
    obtain ⟨wA4, hwA4, kA, hbA, hzA⟩ := box1 v4 #[.int .i64 x, .string eo, .string en] 87
    have KO5 := hid (KO4.out.onto hbA)
    have KE5 := hid (KE4.out.onto hbA)
    have KT5 := hid (KT4.out.onto hbA)
    have RS5 := hid (RS4.out.later hbA)
    have RG5 := hid (RG4.out.later hbA)
    have RU5 := hid (RU4.out.later hbA)
    have HB5 := hid (HB4.out.trans (S' := []) (.of_below hbA) (by simp))
    have HG5 := hid (Nat.le_trans HG4.out hbA.size)
    have KR5 := hid kA
    have hzz4 : v4.heap.size < wA4.heap.size := by omega
    have HZR := hid hzz4
    clear kA hbA hzA hzz4 KO4 KE4 KT4 RS4 RG4 RU4 HB4 HG4
    obtain ⟨zO5_0, zO5_1, zO5_2, zO5_3, zO5_4, zO5_5, zO5_6, zO5_7, fO5_0, fO5_1, fO5_2, fO5_3, fO5_4, fO5_5, fO5_6, fO5_7⟩ := KO5.out.all8
    obtain ⟨zE5_0, zE5_1, zE5_2, fE5_0, fE5_1, fE5_2⟩ := KE5.out.all3
    obtain ⟨zT5_0, fT5_0⟩ := KT5.out.all1
    obtain ⟨zR5_0, zR5_1, zR5_2, fR5_0, fR5_1, fR5_2⟩ := KR5.out.all3
    have hbv : b ≠ v4.heap.size := by have h1 := HGV.out; omega
    have csh := ed_show (made := true) (r := some ⟨rb, 0, none⟩) (t := ⟨#[]⟩) (m := m) (u := ⟨ua, ul, uc⟩) (ro := ⟨none, [], 0⟩) (o := false) (g := g) KO5.out RS5.out.m HML.out HMC.out (some ⟨rb', 0, none⟩) ⟨some ⟨v4.heap.size, 0, none⟩, [⟨x, eo, en⟩], 1⟩ ⟨eone KR5.out ⟨KR5.out.lt, by simp only [List.mem_singleton]; omega⟩, fun e => by cases e⟩ (by simp) HZ1.out HP1.out HM1.out
    have CSH := hid (show Calls Tryz.prog 133 #[.pointer (some ⟨b, 0, none⟩), .pointer (some ⟨rb', 0, none⟩), .slice (some ⟨v4.heap.size, 0, none⟩) (1 : Nat) 1] wA4 _ from csh)
    clear csh
    go_wp2_with fail
    refine (CSH.out).mono ?_; rintro e wZ ⟨rfl, ⟨ma, ml, mc⟩, hml3, hmc3, hk3, hkm3, ha⟩
    clear zO3_0 zO3_1 zO3_2 zO3_3 zO3_4 zO3_5 zO3_6 zO3_7 fO3_0 fO3_1 fO3_2 fO3_3 fO3_4 fO3_5 fO3_6 fO3_7 zE3_0 zE3_1 zE3_2 fE3_0 fE3_1 fE3_2 zT3_0 fT3_0 hv4 zO4_0 zO4_1 zO4_2 zO4_3 zO4_4 zO4_5 zO4_6 zO4_7 fO4_0 fO4_1 fO4_2 fO4_3 fO4_4 fO4_5 fO4_6 fO4_7 zE4_0 zE4_1 zE4_2 fE4_0 fE4_1 fE4_2 zT4_0 fT4_0 hwA4 zO5_0 zO5_1 zO5_2 zO5_3 zO5_4 zO5_5 zO5_6 zO5_7 fO5_0 fO5_1 fO5_2 fO5_3 fO5_4 fO5_5 fO5_6 fO5_7 zE5_0 zE5_1 zE5_2 fE5_0 fE5_1 fE5_2 zT5_0 fT5_0 zR5_0 zR5_1 zR5_2 fR5_0 fR5_1 fR5_2
    have KO6 := hid (hk3)
    have KE6 := hid (KE5.out.apart ha (by simp only [List.mem_singleton]; omega))
    have KT6 := hid (KT5.out.apart ha (by simp only [List.mem_singleton]; omega))
    have KR6 := hid (KR5.out.apart ha (by simp only [List.mem_singleton]; omega))
    have RS6 := hid (RS5.out.apart (ha.more (by simp)))
    have RG6 := hid (RG5.out.apart (ha.more (by simp)))
    have RU6 := hid (RU5.out.apart (ha.more (by simp)))
    have HB6 := hid (HB5.out.trans ha (by simp))
    have HG6 := hid (Nat.le_trans HG5.out ha.size)
    have HM3 := hid (And.intro hml3 hmc3)
    have RM6 := hid (hkm3)
    clear ha hml3 hmc3 hk3 hkm3 KO5 KE5 KT5 KR5 RS5 RG5 RU5 HB5 HG5
    obtain ⟨zO6_0, zO6_1, zO6_2, zO6_3, zO6_4, zO6_5, zO6_6, zO6_7, fO6_0, fO6_1, fO6_2, fO6_3, fO6_4, fO6_5, fO6_6, fO6_7⟩ := KO6.out.all8
    obtain ⟨zE6_0, zE6_1, zE6_2, fE6_0, fE6_1, fE6_2⟩ := KE6.out.all3
    obtain ⟨zT6_0, fT6_0⟩ := KT6.out.all1
    obtain ⟨zR6_0, zR6_1, zR6_2, fR6_0, fR6_1, fR6_2⟩ := KR6.out.all3
    go_wp2
    go_ret
    refine ⟨⟨t', ⟨ma, ml, mc⟩, ⟨ua, ul, uc⟩, ⟨none, [], 0⟩, false, g⟩, rb', p', L', rfl, ⟨KO6.out, HR.out.apart H.out.blk rfl HB6.out, ⟨RM6.out, RU6.out, SPo.empty _ _, RS6.out.g⟩, HM3.out.2.1, HM3.out.2.2, ?_⟩, ?_, HB6.out⟩
    · have e := HI.out
      rw [HE.out] at e
      have h3 : ml = shfM m.l (shiftI x eo.size en.size) := HM3.out.1
      have h4 : lsP ul = pushL (lsP u.l) [⟨x, eo, en⟩] := by rw [HL.out]; exact HUL2.out
      show InvS (⟨t', ml, lsP ul, [], false, g.l⟩ : StaD)
      rw [h3, h4]
      exact e
    · have h3 : ml = shfM m.l (shiftI x eo.size en.size) := HM3.out.1
      have h4 : lsP ul = pushL (lsP u.l) [⟨x, eo, en⟩] := by rw [HL.out]; exact HUL2.out
      show (⟨t', ml, lsP ul, [], false, g.l⟩ : StaD) = _
      rw [h3, h4]
  · go_simp
    have BSA := hid ((Below.refl wX.heap.size wX).drew.alloc (Nat.le_refl _) (.cells #[.slice none 0 0] 69)); have KSA := hid (Blk.new wX.drew #[.slice none 0 0] 69)
    try go_wp2_with fail
    refine hK.out _ _ ?_ (fun hHeld => ?_)
    · exact FS.out _ BSA.out
    clear hK K
    try simp only [Act.put, sqp]
    refine wpAnyH_ready (rs := [7]) (by kernel_rfl) (by simp) ?_
    refine AllReadyH.cons (by simp only [sqg]; rfl) (fun K hK => ?_) AllReadyH.nil
    go_simp
    (go_at_call 132; refine (CA.out _ BSA.out).mono ?_; rintro e w1 ⟨a4, c4, rfl, hr4, hb4⟩; have hb4' : Below wX.heap.size wX w1 := BSA.out.trans (hb4.mono BSA.out.size))
    try go_wp2_with fail
    refine hK.out _ _ ?_ (fun hHeld => ?_)
    · exact FS.out _ hb4'
    clear hK K
    try simp only [Act.put, sqp]
    have KO1 := hid (KO0.out.onto hb4')
    have KE1 := hid (KE0.out.onto hb4')
    have RS1 := hid (RS0.out.later hb4')
    have HB1 := hid (HB0.out.trans (S' := []) (.of_below hb4') (by simp))
    have HG1 := hid (Nat.le_trans HG0.out hb4'.size)
    have KT1 := hid (show Blk w1 wX.heap.size #[.slice none 0 0] 69 from KSA.out.onto hb4)
    have RG1 := hid (hr4.off (S := [b, w.heap.size, wX.heap.size]) (fun i hi => by
      have hs : wX.heap.size + 1 ≤ (World.alloc wX.drew (.cells #[.slice none 0 0] 69)).heap.size := by simp
      simp only [List.mem_cons, List.not_mem_nil, or_false] at hi
      have hs2 : (World.alloc wX.drew (.cells #[.slice none 0 0] 69)).heap.size = (World.alloc wX (.cells #[.slice none 0 0] 69)).heap.size := by simp
      rcases hi with rfl | rfl | rfl
      · exact Nat.lt_of_lt_of_le (by omega) hs
      · exact Nat.lt_of_lt_of_le (by omega) hs
      · exact hs))
    replace RS1 := hid (((RS0.out.wide (S' := [b, w.heap.size, wX.heap.size]) (fun i hi => by simp only [List.mem_cons, List.not_mem_nil, or_false] at hi; rcases hi with rfl | rfl | rfl; exact .inl (by simp); exact .inl (by simp); exact .inr (Nat.le_refl _))).later hb4'))
    clear hr4 hb4 CA KSA
    refine sqt 8 ?_
    try simp only [Act.put, sqp]
    refine sqt 9 ?_
    try simp only [Act.put, sqp]
    refine sqt 10 ?_
    try simp only [Act.put, sqp]
    obtain ⟨zO1_0, zO1_1, zO1_2, zO1_3, zO1_4, zO1_5, zO1_6, zO1_7, fO1_0, fO1_1, fO1_2, fO1_3, fO1_4, fO1_5, fO1_6, fO1_7⟩ := KO1.out.all8
    obtain ⟨zE1_0, zE1_1, zE1_2, fE1_0, fE1_1, fE1_2⟩ := KE1.out.all3
    obtain ⟨zT1_0, fT1_0⟩ := KT1.out.all1
    have hs12 : w1.cell? ⟨b, 7, none⟩ = some (.slice g.a g.l.length g.c) := KO1.out.cell 7 _ rfl
    refine wpAnyH_ready (rs := [12]) (by kernel_rfl) (by simp) ?_
    refine AllReadyH.cons (by simp only [sqg]; rfl) (fun K hK => ?_) AllReadyH.nil
    go_simp
    skip
    try go_wp2_with fail
    refine hK.out _ _ ?_ (fun hHeld => ?_)
    · exact ⟨(KO1.out.other ⟨wX.heap.size, 0, none⟩ (by show wX.heap.size ≠ b; omega) _).cell 7 _ rfl, (KE1.out.other ⟨wX.heap.size, 0, none⟩ (by show wX.heap.size ≠ w.heap.size; omega) _).cell 0 _ rfl, (KE1.out.other ⟨wX.heap.size, 0, none⟩ (by show wX.heap.size ≠ w.heap.size; omega) _).cell 1 _ rfl, (KE1.out.other ⟨wX.heap.size, 0, none⟩ (by show wX.heap.size ≠ w.heap.size; omega) _).cell 2 _ rfl⟩
    clear hK K
    try simp only [Act.put, sqp]
    refine sqt 13 ?_
    try simp only [Act.put, sqp]
    refine wpAnyH_done (by kernel_rfl) ?_ _
    clear hb4' hs12 BSA
    have kT : Blk (w1.setCell ⟨wX.heap.size, 0, none⟩ (.slice a4 l.length c4)) (wX.heap.size) #[.slice a4 l.length c4] 69 := (KT1.out.set 0 _)
    have kO : Blk (w1.setCell ⟨wX.heap.size, 0, none⟩ (.slice a4 l.length c4)) (b) #[.bool true, .pointer (some ⟨rb, 0, none⟩), .string ⟨#[]⟩, .slice m.a m.l.length m.c, .slice u.a u.l.length u.c, .slice ro.a ro.l.length ro.c, .bool false, .slice g.a g.l.length g.c] 54 := (KO1.out.other ⟨wX.heap.size, 0, none⟩ (by show wX.heap.size ≠ b; omega) _)
    have kE : Blk (w1.setCell ⟨wX.heap.size, 0, none⟩ (.slice a4 l.length c4)) (w.heap.size) #[.int .i64 x, .string eo, .string en] 87 := (KE1.out.other ⟨wX.heap.size, 0, none⟩ (by show wX.heap.size ≠ w.heap.size; omega) _)
    have ap : Apart [b, w.heap.size, wX.heap.size] w1 (w1.setCell ⟨wX.heap.size, 0, none⟩ (.slice a4 l.length c4)) := (Apart.refl [b, w.heap.size, wX.heap.size] w1).setCell (p := ⟨wX.heap.size, 0, none⟩) (.inl (by simp)) _
    have rS := RS1.out.apart ap
    have rG := RG1.out.apart ap
    have hB := ((HB1.out.setCell (p := ⟨wX.heap.size, 0, none⟩) (by right; show w.heap.size ≤ wX.heap.size; omega) _) : Apart [b] w (w1.setCell ⟨wX.heap.size, 0, none⟩ (.slice a4 l.length c4)))
    have hz : (w1.setCell ⟨wX.heap.size, 0, none⟩ (.slice a4 l.length c4)).heap.size = w1.heap.size := by simp
    obtain ⟨v2, hv2⟩ : ∃ V, (w1.setCell ⟨wX.heap.size, 0, none⟩ (.slice a4 l.length c4)) = V := ⟨_, rfl⟩
    rw [hv2] at kO kE kT rS rG hB hz
    rw [hv2]
    have KO2 := hid kO
    have KE2 := hid kE
    have KT2 := hid kT
    have RS2 := hid rS
    have RG2 := hid rG
    have HB2 := hid hB
    have HG2 := hid (Nat.le_trans HG1.out (Nat.le_of_eq hz.symm))
    clear kO kE kT rS rG hB hz ap KO1 KE1 KT1 RS1 RG1 HB1 HG1
    obtain ⟨zO2_0, zO2_1, zO2_2, zO2_3, zO2_4, zO2_5, zO2_6, zO2_7, fO2_0, fO2_1, fO2_2, fO2_3, fO2_4, fO2_5, fO2_6, fO2_7⟩ := KO2.out.all8
    obtain ⟨zE2_0, zE2_1, zE2_2, fE2_0, fE2_1, fE2_2⟩ := KE2.out.all3
    obtain ⟨zT2_0, fT2_0⟩ := KT2.out.all1
    replace RS2 := hid (RS2.out.wide (S' := [b]) (down1))
    replace RG2 := hid (RG2.out.wide (S' := [b]) (down1))
    have cpu := ed_push (made := true) (r := some ⟨rb, 0, none⟩) (t := ⟨#[]⟩) (m := m) (u := u) (ro := ro) (o := false) (g := g) KO2.out RS2.out.u ⟨a4, l, c4⟩ RG2.out HUL.out.1 HUL.out.2 (by rw [HLL.out]; decide)
    have CPU := hid (show Calls Tryz.prog 109 #[.pointer (some ⟨b, 0, none⟩), stpV a4 l.length c4] v2 _ from cpu)
    clear cpu
    go_wp2_with fail
    refine (CPU.out).mono ?_; rintro e wP ⟨rfl, ⟨ua, ul, uc⟩, hul, hk2, hsu, ha⟩
    clear zO1_0 zO1_1 zO1_2 zO1_3 zO1_4 zO1_5 zO1_6 zO1_7 fO1_0 fO1_1 fO1_2 fO1_3 fO1_4 fO1_5 fO1_6 fO1_7 zE1_0 zE1_1 zE1_2 fE1_0 fE1_1 fE1_2 zT1_0 fT1_0 hv2 zO2_0 zO2_1 zO2_2 zO2_3 zO2_4 zO2_5 zO2_6 zO2_7 fO2_0 fO2_1 fO2_2 fO2_3 fO2_4 fO2_5 fO2_6 fO2_7 zE2_0 zE2_1 zE2_2 fE2_0 fE2_1 fE2_2 zT2_0 fT2_0
    have KO3 := hid (hk2)
    have KE3 := hid (KE2.out.apart ha (by simp only [List.mem_singleton]; omega))
    have KT3 := hid (KT2.out.apart ha (by simp only [List.mem_singleton]; omega))
    have RS3 := hid (RS2.out.apart (ha.more (by simp)))
    have RG3 := hid (RG2.out.apart (ha.more (by simp)))
    have HB3 := hid (HB2.out.trans ha (by simp))
    have HG3 := hid (Nat.le_trans HG2.out ha.size)
    have HUL2 := hid hul
    have RU3 := hid (hsu)
    clear ha hul hk2 hsu KO2 KE2 KT2 RS2 RG2 HB2 HG2
    obtain ⟨zO3_0, zO3_1, zO3_2, zO3_3, zO3_4, zO3_5, zO3_6, zO3_7, fO3_0, fO3_1, fO3_2, fO3_3, fO3_4, fO3_5, fO3_6, fO3_7⟩ := KO3.out.all8
    obtain ⟨zE3_0, zE3_1, zE3_2, fE3_0, fE3_1, fE3_2⟩ := KE3.out.all3
    obtain ⟨zT3_0, fT3_0⟩ := KT3.out.all1
    have kO : Blk (wP.setCell ⟨b, 5, none⟩ (.slice none 0 0)) (b) #[.bool true, .pointer (some ⟨rb, 0, none⟩), .string ⟨#[]⟩, .slice m.a m.l.length m.c, .slice ua ul.length uc, .slice none 0 0, .bool false, .slice g.a g.l.length g.c] 54 := (KO3.out.set 5 _)
    have kE : Blk (wP.setCell ⟨b, 5, none⟩ (.slice none 0 0)) (w.heap.size) #[.int .i64 x, .string eo, .string en] 87 := (KE3.out.other ⟨b, 5, none⟩ (by show b ≠ w.heap.size; omega) _)
    have kT : Blk (wP.setCell ⟨b, 5, none⟩ (.slice none 0 0)) (wX.heap.size) #[.slice a4 l.length c4] 69 := (KT3.out.other ⟨b, 5, none⟩ (by show b ≠ wX.heap.size; omega) _)
    have ap : Apart [b] wP (wP.setCell ⟨b, 5, none⟩ (.slice none 0 0)) := (Apart.refl [b] wP).setCell (p := ⟨b, 5, none⟩) (.inl (by simp)) _
    have rS := RS3.out.apart ap
    have rG := RG3.out.apart ap
    have rU := RU3.out.apart ap
    have hB := ((HB3.out.setCell (p := ⟨b, 5, none⟩) (by simp) _) : Apart [b] w (wP.setCell ⟨b, 5, none⟩ (.slice none 0 0)))
    have hz : (wP.setCell ⟨b, 5, none⟩ (.slice none 0 0)).heap.size = wP.heap.size := by simp
    obtain ⟨v4, hv4⟩ : ∃ V, (wP.setCell ⟨b, 5, none⟩ (.slice none 0 0)) = V := ⟨_, rfl⟩
    rw [hv4] at kO kE kT rS rG rU hB hz
    have KO4 := hid kO
    have KE4 := hid kE
    have KT4 := hid kT
    have RS4 := hid rS
    have RG4 := hid rG
    have RU4 := hid rU
    have HB4 := hid hB
    have HG4 := hid (Nat.le_trans HG3.out (Nat.le_of_eq hz.symm))
    clear kO kE kT rS rG rU hB hz ap KO3 KE3 KT3 RS3 RG3 RU3 HB3 HG3
    obtain ⟨zO4_0, zO4_1, zO4_2, zO4_3, zO4_4, zO4_5, zO4_6, zO4_7, fO4_0, fO4_1, fO4_2, fO4_3, fO4_4, fO4_5, fO4_6, fO4_7⟩ := KO4.out.all8
    obtain ⟨zE4_0, zE4_1, zE4_2, fE4_0, fE4_1, fE4_2⟩ := KE4.out.all3
    obtain ⟨zT4_0, fT4_0⟩ := KT4.out.all1
    have HGV := hid (show b < v4.heap.size from KO4.out.lt)
    obtain ⟨wA4, hwA4, kA, hbA, hzA⟩ := box1 v4 #[.int .i64 x, .string eo, .string en] 87
    have KO5 := hid (KO4.out.onto hbA)
    have KE5 := hid (KE4.out.onto hbA)
    have KT5 := hid (KT4.out.onto hbA)
    have RS5 := hid (RS4.out.later hbA)
    have RG5 := hid (RG4.out.later hbA)
    have RU5 := hid (RU4.out.later hbA)
    have HB5 := hid (HB4.out.trans (S' := []) (.of_below hbA) (by simp))
    have HG5 := hid (Nat.le_trans HG4.out hbA.size)
    have KR5 := hid kA
    have hzz4 : v4.heap.size < wA4.heap.size := by omega
    have HZR := hid hzz4
    clear kA hbA hzA hzz4 KO4 KE4 KT4 RS4 RG4 RU4 HB4 HG4
    obtain ⟨zO5_0, zO5_1, zO5_2, zO5_3, zO5_4, zO5_5, zO5_6, zO5_7, fO5_0, fO5_1, fO5_2, fO5_3, fO5_4, fO5_5, fO5_6, fO5_7⟩ := KO5.out.all8
    obtain ⟨zE5_0, zE5_1, zE5_2, fE5_0, fE5_1, fE5_2⟩ := KE5.out.all3
    obtain ⟨zT5_0, fT5_0⟩ := KT5.out.all1
    obtain ⟨zR5_0, zR5_1, zR5_2, fR5_0, fR5_1, fR5_2⟩ := KR5.out.all3
    have hbv : b ≠ v4.heap.size := by have h1 := HGV.out; omega
    have csh := ed_show (made := true) (r := some ⟨rb, 0, none⟩) (t := ⟨#[]⟩) (m := m) (u := ⟨ua, ul, uc⟩) (ro := ⟨none, [], 0⟩) (o := false) (g := g) KO5.out RS5.out.m HML.out HMC.out (some ⟨rb', 0, none⟩) ⟨some ⟨v4.heap.size, 0, none⟩, [⟨x, eo, en⟩], 1⟩ ⟨eone KR5.out ⟨KR5.out.lt, by simp only [List.mem_singleton]; omega⟩, fun e => by cases e⟩ (by simp) HZ1.out HP1.out HM1.out
    have CSH := hid (show Calls Tryz.prog 133 #[.pointer (some ⟨b, 0, none⟩), .pointer (some ⟨rb', 0, none⟩), .slice (some ⟨v4.heap.size, 0, none⟩) (1 : Nat) 1] wA4 _ from csh)
    clear csh
    go_wp2_with fail
    refine (CSH.out).mono ?_; rintro e wZ ⟨rfl, ⟨ma, ml, mc⟩, hml3, hmc3, hk3, hkm3, ha⟩
    clear zO3_0 zO3_1 zO3_2 zO3_3 zO3_4 zO3_5 zO3_6 zO3_7 fO3_0 fO3_1 fO3_2 fO3_3 fO3_4 fO3_5 fO3_6 fO3_7 zE3_0 zE3_1 zE3_2 fE3_0 fE3_1 fE3_2 zT3_0 fT3_0 hv4 zO4_0 zO4_1 zO4_2 zO4_3 zO4_4 zO4_5 zO4_6 zO4_7 fO4_0 fO4_1 fO4_2 fO4_3 fO4_4 fO4_5 fO4_6 fO4_7 zE4_0 zE4_1 zE4_2 fE4_0 fE4_1 fE4_2 zT4_0 fT4_0 hwA4 zO5_0 zO5_1 zO5_2 zO5_3 zO5_4 zO5_5 zO5_6 zO5_7 fO5_0 fO5_1 fO5_2 fO5_3 fO5_4 fO5_5 fO5_6 fO5_7 zE5_0 zE5_1 zE5_2 fE5_0 fE5_1 fE5_2 zT5_0 fT5_0 zR5_0 zR5_1 zR5_2 fR5_0 fR5_1 fR5_2
    have KO6 := hid (hk3)
    have KE6 := hid (KE5.out.apart ha (by simp only [List.mem_singleton]; omega))
    have KT6 := hid (KT5.out.apart ha (by simp only [List.mem_singleton]; omega))
    have KR6 := hid (KR5.out.apart ha (by simp only [List.mem_singleton]; omega))
    have RS6 := hid (RS5.out.apart (ha.more (by simp)))
    have RG6 := hid (RG5.out.apart (ha.more (by simp)))
    have RU6 := hid (RU5.out.apart (ha.more (by simp)))
    have HB6 := hid (HB5.out.trans ha (by simp))
    have HG6 := hid (Nat.le_trans HG5.out ha.size)
    have HM3 := hid (And.intro hml3 hmc3)
    have RM6 := hid (hkm3)
    clear ha hml3 hmc3 hk3 hkm3 KO5 KE5 KT5 KR5 RS5 RG5 RU5 HB5 HG5
    obtain ⟨zO6_0, zO6_1, zO6_2, zO6_3, zO6_4, zO6_5, zO6_6, zO6_7, fO6_0, fO6_1, fO6_2, fO6_3, fO6_4, fO6_5, fO6_6, fO6_7⟩ := KO6.out.all8
    obtain ⟨zE6_0, zE6_1, zE6_2, fE6_0, fE6_1, fE6_2⟩ := KE6.out.all3
    obtain ⟨zT6_0, fT6_0⟩ := KT6.out.all1
    obtain ⟨zR6_0, zR6_1, zR6_2, fR6_0, fR6_1, fR6_2⟩ := KR6.out.all3
    go_wp2
    go_ret
    refine ⟨⟨t', ⟨ma, ml, mc⟩, ⟨ua, ul, uc⟩, ⟨none, [], 0⟩, false, g⟩, rb', p', L', rfl, ⟨KO6.out, HR.out.apart H.out.blk rfl HB6.out, ⟨RM6.out, RU6.out, SPo.empty _ _, RS6.out.g⟩, HM3.out.2.1, HM3.out.2.2, ?_⟩, ?_, HB6.out⟩
    · have e := HI.out
      rw [HE.out] at e
      have h3 : ml = shfM m.l (shiftI x eo.size en.size) := HM3.out.1
      have h4 : lsP ul = pushL (lsP u.l) [⟨x, eo, en⟩] := by rw [HL.out]; exact HUL2.out
      show InvS (⟨t', ml, lsP ul, [], false, g.l⟩ : StaD)
      rw [h3, h4]
      exact e
    · have h3 : ml = shfM m.l (shiftI x eo.size en.size) := HM3.out.1
      have h4 : lsP ul = pushL (lsP u.l) [⟨x, eo, en⟩] := by rw [HL.out]; exact HUL2.out
      show (⟨t', ml, lsP ul, [], false, g.l⟩ : StaD) = _
      rw [h3, h4]
end Go.Proofs.YtfiobemeogaaiaaGreat
namespace Go.Proofs.YtfiobemeogaaiaaGreat
open Lib (hid)
open Go.RowKit
set_option linter.unusedVariables false
set_option linter.unusedSimpArgs false
theorem RetEd.from {w W w' : World} {b : Nat} {r : StaD × Int} {e : Ending} (h : RetEd W b r e w') (hb : Below w.heap.size w W) : RetEd w b r e w' := by
  obtain ⟨s', rb', p', L', he, hi, hd, ha⟩ := h
  exact ⟨s', rb', p', L', he, hi, hd, (Apart.of_below (S := [b]) hb).trans ha (fun x hx => .inl hx)⟩
set_option maxRecDepth 100000 in
set_option maxHeartbeats 800000 in
theorem ed_begin_no {w : World} {b : Nat} {t : ByteArray} {m : KPc} {u ro : SPc} {g : EPc} {rb : Nat} {p : Option Addr} {L : List ByteArray} (h : IsEd w b ⟨t, m, u, ro, true, g⟩ rb p L) (k i n : Int) (x : ByteArray) : Calls Tryz.prog 66 #[.pointer (some ⟨b, 0, none⟩), (.agg #[.int .i64 k, .int .i64 i, .int .i64 n, .string x])] w (RetEd w b ((Sta.d ⟨t, m, u, ro, true, g⟩), 11)) := by
  have hbl : b < w.heap.size := h.lt
  obtain ⟨wX, hwX, kE, hb0, hz⟩ := box1 w #[.int .i64 k, .int .i64 i, .int .i64 n, .string x] 36
  have KO0 := hid (show Blk wX b #[.bool true, .pointer (some ⟨rb, 0, none⟩), .string ⟨#[]⟩, .slice m.a m.l.length m.c, .slice u.a u.l.length u.c, .slice ro.a ro.l.length ro.c, .bool true, .slice g.a g.l.length g.c] 54 from h.blk.onto hb0)
  have KE0 := hid (kE)
  have RS0 := hid ((h.rows.wide (S' := [b, w.heap.size]) (fun i hi => by simp only [List.mem_cons, List.not_mem_nil, or_false] at hi; rcases hi with rfl | rfl; exact .inl (by simp); exact .inr (Nat.le_refl _))).later hb0)
  have HB0 := hid ((Apart.of_below hb0 : Apart [b] w wX))
  have HG0 := hid (Nat.le_refl wX.heap.size)
  have hlt2 : ∀ W : World, wX.heap.size ≤ W.heap.size → ∀ i ∈ [b, w.heap.size], i < W.heap.size := fun W h i hi => by simp only [List.mem_cons, List.not_mem_nil, or_false] at hi; rcases hi with rfl | rfl <;> omega
  have HLT := hid hlt2; have H := hid h; have HB := hid hb0
  clear hlt2 kE
  obtain ⟨zO0_0, zO0_1, zO0_2, zO0_3, zO0_4, zO0_5, zO0_6, zO0_7, fO0_0, fO0_1, fO0_2, fO0_3, fO0_4, fO0_5, fO0_6, fO0_7⟩ := KO0.out.all8
  obtain ⟨zE0_0, zE0_1, zE0_2, zE0_3, fE0_0, fE0_1, fE0_2, fE0_3⟩ := KE0.out.all4
  clear h hb0 hz
  go_enter Tryz.func66, Tryz.ntmps66
  go_wp2
  go_ret
  exact ⟨⟨t, m, u, ro, true, g⟩, rb, p, L, rfl, ⟨KO0.out, H.out.rope.apart H.out.blk rfl HB0.out, RS0.out.wide down1, H.out.ml, H.out.mc, H.out.inv⟩, rfl, HB0.out⟩
set_option maxRecDepth 100000 in
set_option maxHeartbeats 800000 in
theorem ed_begin_yes {w : World} {b : Nat} {t : ByteArray} {m : KPc} {u ro : SPc} {g : EPc} {rb : Nat} {p : Option Addr} {L : List ByteArray} (h : IsEd w b ⟨t, m, u, ro, false, g⟩ rb p L) (k i n : Int) (x : ByteArray) : Calls Tryz.prog 66 #[.pointer (some ⟨b, 0, none⟩), (.agg #[.int .i64 k, .int .i64 i, .int .i64 n, .string x])] w (RetEd w b (⟨t, m.l, lsP u.l, lsP ro.l, true, g.l⟩, 0)) := by
  have hbl : b < w.heap.size := h.lt
  obtain ⟨wX, hwX, kE, hb0, hz⟩ := box1 w #[.int .i64 k, .int .i64 i, .int .i64 n, .string x] 36
  have KO0 := hid (show Blk wX b #[.bool true, .pointer (some ⟨rb, 0, none⟩), .string ⟨#[]⟩, .slice m.a m.l.length m.c, .slice u.a u.l.length u.c, .slice ro.a ro.l.length ro.c, .bool false, .slice g.a g.l.length g.c] 54 from h.blk.onto hb0)
  have KE0 := hid (kE)
  have RS0 := hid ((h.rows.wide (S' := [b, w.heap.size]) (fun i hi => by simp only [List.mem_cons, List.not_mem_nil, or_false] at hi; rcases hi with rfl | rfl; exact .inl (by simp); exact .inr (Nat.le_refl _))).later hb0)
  have HB0 := hid ((Apart.of_below hb0 : Apart [b] w wX))
  have HG0 := hid (Nat.le_refl wX.heap.size)
  have hlt2 : ∀ W : World, wX.heap.size ≤ W.heap.size → ∀ i ∈ [b, w.heap.size], i < W.heap.size := fun W h i hi => by simp only [List.mem_cons, List.not_mem_nil, or_false] at hi; rcases hi with rfl | rfl <;> omega
  have HLT := hid hlt2; have H := hid h; have HB := hid hb0
  clear hlt2 kE
  obtain ⟨zO0_0, zO0_1, zO0_2, zO0_3, zO0_4, zO0_5, zO0_6, zO0_7, fO0_0, fO0_1, fO0_2, fO0_3, fO0_4, fO0_5, fO0_6, fO0_7⟩ := KO0.out.all8
  obtain ⟨zE0_0, zE0_1, zE0_2, zE0_3, fE0_0, fE0_1, fE0_2, fE0_3⟩ := KE0.out.all4
  clear h hb0 hz
  go_enter Tryz.func66, Tryz.ntmps66
  have kO : Blk (wX.setCell ⟨b, 6, none⟩ (.bool true)) (b) #[.bool true, .pointer (some ⟨rb, 0, none⟩), .string ⟨#[]⟩, .slice m.a m.l.length m.c, .slice u.a u.l.length u.c, .slice ro.a ro.l.length ro.c, .bool true, .slice g.a g.l.length g.c] 54 := (KO0.out.set 6 _)
  have kE : Blk (wX.setCell ⟨b, 6, none⟩ (.bool true)) (w.heap.size) #[.int .i64 k, .int .i64 i, .int .i64 n, .string x] 36 := (KE0.out.other ⟨b, 6, none⟩ (by show b ≠ w.heap.size; omega) _)
  have ap : Apart [b, w.heap.size] wX (wX.setCell ⟨b, 6, none⟩ (.bool true)) := (Apart.refl [b, w.heap.size] wX).setCell (p := ⟨b, 6, none⟩) (.inl (by simp)) _
  have rS := RS0.out.apart ap
  have hB := ((HB0.out.setCell (p := ⟨b, 6, none⟩) (by simp) _) : Apart [b] w (wX.setCell ⟨b, 6, none⟩ (.bool true)))
  have hz : (wX.setCell ⟨b, 6, none⟩ (.bool true)).heap.size = wX.heap.size := by simp
  obtain ⟨v1, hv1⟩ : ∃ V, (wX.setCell ⟨b, 6, none⟩ (.bool true)) = V := ⟨_, rfl⟩
  rw [hv1] at kO kE rS hB hz
  have KO1 := hid kO
  have KE1 := hid kE
  have RS1 := hid rS
  have HB1 := hid hB
  have HG1 := hid (Nat.le_trans HG0.out (Nat.le_of_eq hz.symm))
  clear kO kE rS hB hz ap KO0 KE0 RS0 HB0 HG0
  obtain ⟨zO1_0, zO1_1, zO1_2, zO1_3, zO1_4, zO1_5, zO1_6, zO1_7, fO1_0, fO1_1, fO1_2, fO1_3, fO1_4, fO1_5, fO1_6, fO1_7⟩ := KO1.out.all8
  obtain ⟨zE1_0, zE1_1, zE1_2, zE1_3, fE1_0, fE1_1, fE1_2, fE1_3⟩ := KE1.out.all4
  replace RS1 := hid (RS1.out.wide (S' := [b]) (down1))
  go_wp2
  go_ret
  exact ⟨⟨t, m, u, ro, true, g⟩, rb, p, L, rfl, ⟨KO1.out, H.out.rope.apart H.out.blk rfl HB1.out, ⟨RS1.out.m, RS1.out.u, RS1.out.r, RS1.out.g⟩, H.out.ml, H.out.mc, (by have e := inv_begin H.out.inv; exact e)⟩, rfl, HB1.out⟩
set_option maxRecDepth 100000 in
set_option maxHeartbeats 800000 in
theorem ed_end_no {w : World} {b : Nat} {t : ByteArray} {m : KPc} {u ro : SPc} {g : EPc} {rb : Nat} {p : Option Addr} {L : List ByteArray} (h : IsEd w b ⟨t, m, u, ro, false, g⟩ rb p L) (k i n : Int) (x : ByteArray) : Calls Tryz.prog 67 #[.pointer (some ⟨b, 0, none⟩), (.agg #[.int .i64 k, .int .i64 i, .int .i64 n, .string x])] w (RetEd w b ((Sta.d ⟨t, m, u, ro, false, g⟩), 11)) := by
  have hbl : b < w.heap.size := h.lt
  obtain ⟨wX, hwX, kE, hb0, hz⟩ := box1 w #[.int .i64 k, .int .i64 i, .int .i64 n, .string x] 36
  have KO0 := hid (show Blk wX b #[.bool true, .pointer (some ⟨rb, 0, none⟩), .string ⟨#[]⟩, .slice m.a m.l.length m.c, .slice u.a u.l.length u.c, .slice ro.a ro.l.length ro.c, .bool false, .slice g.a g.l.length g.c] 54 from h.blk.onto hb0)
  have KE0 := hid (kE)
  have RS0 := hid ((h.rows.wide (S' := [b, w.heap.size]) (fun i hi => by simp only [List.mem_cons, List.not_mem_nil, or_false] at hi; rcases hi with rfl | rfl; exact .inl (by simp); exact .inr (Nat.le_refl _))).later hb0)
  have HB0 := hid ((Apart.of_below hb0 : Apart [b] w wX))
  have HG0 := hid (Nat.le_refl wX.heap.size)
  have hlt2 : ∀ W : World, wX.heap.size ≤ W.heap.size → ∀ i ∈ [b, w.heap.size], i < W.heap.size := fun W h i hi => by simp only [List.mem_cons, List.not_mem_nil, or_false] at hi; rcases hi with rfl | rfl <;> omega
  have HLT := hid hlt2; have H := hid h; have HB := hid hb0
  clear hlt2 kE
  obtain ⟨zO0_0, zO0_1, zO0_2, zO0_3, zO0_4, zO0_5, zO0_6, zO0_7, fO0_0, fO0_1, fO0_2, fO0_3, fO0_4, fO0_5, fO0_6, fO0_7⟩ := KO0.out.all8
  obtain ⟨zE0_0, zE0_1, zE0_2, zE0_3, fE0_0, fE0_1, fE0_2, fE0_3⟩ := KE0.out.all4
  clear h hb0 hz
  go_enter Tryz.func67, Tryz.ntmps67
  go_wp2
  go_ret
  exact ⟨⟨t, m, u, ro, false, g⟩, rb, p, L, rfl, ⟨KO0.out, H.out.rope.apart H.out.blk rfl HB0.out, RS0.out.wide down1, H.out.ml, H.out.mc, H.out.inv⟩, rfl, HB0.out⟩
set_option maxRecDepth 100000 in
set_option maxHeartbeats 1600000 in
theorem ed_end_none {w : World} {b : Nat} {t : ByteArray} {m : KPc} {u ro : SPc} {g : EPc} {rb : Nat} {p : Option Addr} {L : List ByteArray} (h : IsEd w b ⟨t, m, u, ro, true, g⟩ rb p L) (k i n : Int) (x : ByteArray) (hg0 : g.l.length = 0) : Calls Tryz.prog 67 #[.pointer (some ⟨b, 0, none⟩), (.agg #[.int .i64 k, .int .i64 i, .int .i64 n, .string x])] w (RetEd w b (⟨t, m.l, lsP u.l, lsP ro.l, false, []⟩, 0)) := by
  have hbl : b < w.heap.size := h.lt
  have he : endD (Sta.d ⟨t, m, u, ro, true, g⟩) = (⟨t, m.l, lsP u.l, lsP ro.l, false, []⟩, 0) := by unfold endD; rw [if_neg (fun h => by cases h), show (Sta.d ⟨t, m, u, ro, true, g⟩).g.length = 0 from hg0, if_pos rfl]; rfl
  have HE := hid he
  clear he
  obtain ⟨wX, hwX, kE, hb0, hz⟩ := box1 w #[.int .i64 k, .int .i64 i, .int .i64 n, .string x] 36
  have KO0 := hid (show Blk wX b #[.bool true, .pointer (some ⟨rb, 0, none⟩), .string ⟨#[]⟩, .slice m.a m.l.length m.c, .slice u.a u.l.length u.c, .slice ro.a ro.l.length ro.c, .bool true, .slice g.a g.l.length g.c] 54 from h.blk.onto hb0)
  have KE0 := hid (kE)
  have RS0 := hid ((h.rows.wide (S' := [b, w.heap.size]) (fun i hi => by simp only [List.mem_cons, List.not_mem_nil, or_false] at hi; rcases hi with rfl | rfl; exact .inl (by simp); exact .inr (Nat.le_refl _))).later hb0)
  have HB0 := hid ((Apart.of_below hb0 : Apart [b] w wX))
  have HG0 := hid (Nat.le_refl wX.heap.size)
  have hlt2 : ∀ W : World, wX.heap.size ≤ W.heap.size → ∀ i ∈ [b, w.heap.size], i < W.heap.size := fun W h i hi => by simp only [List.mem_cons, List.not_mem_nil, or_false] at hi; rcases hi with rfl | rfl <;> omega
  have HLT := hid hlt2; have H := hid h; have HB := hid hb0
  clear hlt2 kE
  obtain ⟨zO0_0, zO0_1, zO0_2, zO0_3, zO0_4, zO0_5, zO0_6, zO0_7, fO0_0, fO0_1, fO0_2, fO0_3, fO0_4, fO0_5, fO0_6, fO0_7⟩ := KO0.out.all8
  obtain ⟨zE0_0, zE0_1, zE0_2, zE0_3, fE0_0, fE0_1, fE0_2, fE0_3⟩ := KE0.out.all4
  have g0 : g.l.length = 0 := hg0
  clear h hb0 hz
  go_enter Tryz.func67, Tryz.ntmps67
  replace RS0 := hid (RS0.out.wide (S' := [b]) (down1))
  have kO : Blk (wX.setCell ⟨b, 6, none⟩ (.bool false)) (b) #[.bool true, .pointer (some ⟨rb, 0, none⟩), .string ⟨#[]⟩, .slice m.a m.l.length m.c, .slice u.a u.l.length u.c, .slice ro.a ro.l.length ro.c, .bool false, .slice g.a g.l.length g.c] 54 := (KO0.out.set 6 _)
  have kE : Blk (wX.setCell ⟨b, 6, none⟩ (.bool false)) (w.heap.size) #[.int .i64 k, .int .i64 i, .int .i64 n, .string x] 36 := (KE0.out.other ⟨b, 6, none⟩ (by show b ≠ w.heap.size; omega) _)
  have ap : Apart [b] wX (wX.setCell ⟨b, 6, none⟩ (.bool false)) := (Apart.refl [b] wX).setCell (p := ⟨b, 6, none⟩) (.inl (by simp)) _
  have rS := RS0.out.apart ap
  have hB := ((HB0.out.setCell (p := ⟨b, 6, none⟩) (by simp) _) : Apart [b] w (wX.setCell ⟨b, 6, none⟩ (.bool false)))
  have hz : (wX.setCell ⟨b, 6, none⟩ (.bool false)).heap.size = wX.heap.size := by simp
  obtain ⟨v1, hv1⟩ : ∃ V, (wX.setCell ⟨b, 6, none⟩ (.bool false)) = V := ⟨_, rfl⟩
  rw [hv1] at kO kE rS hB hz
  have KO1 := hid kO
  have KE1 := hid kE
  have RS1 := hid rS
  have HB1 := hid hB
  have HG1 := hid (Nat.le_trans HG0.out (Nat.le_of_eq hz.symm))
  clear kO kE rS hB hz ap KO0 KE0 RS0 HB0 HG0
  obtain ⟨zO1_0, zO1_1, zO1_2, zO1_3, zO1_4, zO1_5, zO1_6, zO1_7, fO1_0, fO1_1, fO1_2, fO1_3, fO1_4, fO1_5, fO1_6, fO1_7⟩ := KO1.out.all8
  obtain ⟨zE1_0, zE1_1, zE1_2, zE1_3, fE1_0, fE1_1, fE1_2, fE1_3⟩ := KE1.out.all4
  have kO : Blk (v1.setCell ⟨b, 7, none⟩ (.slice none 0 0)) (b) #[.bool true, .pointer (some ⟨rb, 0, none⟩), .string ⟨#[]⟩, .slice m.a m.l.length m.c, .slice u.a u.l.length u.c, .slice ro.a ro.l.length ro.c, .bool false, .slice none 0 0] 54 := (KO1.out.set 7 _)
  have kE : Blk (v1.setCell ⟨b, 7, none⟩ (.slice none 0 0)) (w.heap.size) #[.int .i64 k, .int .i64 i, .int .i64 n, .string x] 36 := (KE1.out.other ⟨b, 7, none⟩ (by show b ≠ w.heap.size; omega) _)
  have ap : Apart [b] v1 (v1.setCell ⟨b, 7, none⟩ (.slice none 0 0)) := (Apart.refl [b] v1).setCell (p := ⟨b, 7, none⟩) (.inl (by simp)) _
  have rS := RS1.out.apart ap
  have hB := ((HB1.out.setCell (p := ⟨b, 7, none⟩) (by simp) _) : Apart [b] w (v1.setCell ⟨b, 7, none⟩ (.slice none 0 0)))
  have hz : (v1.setCell ⟨b, 7, none⟩ (.slice none 0 0)).heap.size = v1.heap.size := by simp
  obtain ⟨v2, hv2⟩ : ∃ V, (v1.setCell ⟨b, 7, none⟩ (.slice none 0 0)) = V := ⟨_, rfl⟩
  rw [hv2] at kO kE rS hB hz
  have KO2 := hid kO
  have KE2 := hid kE
  have RS2 := hid rS
  have HB2 := hid hB
  have HG2 := hid (Nat.le_trans HG1.out (Nat.le_of_eq hz.symm))
  clear kO kE rS hB hz ap KO1 KE1 RS1 HB1 HG1
  obtain ⟨zO2_0, zO2_1, zO2_2, zO2_3, zO2_4, zO2_5, zO2_6, zO2_7, fO2_0, fO2_1, fO2_2, fO2_3, fO2_4, fO2_5, fO2_6, fO2_7⟩ := KO2.out.all8
  obtain ⟨zE2_0, zE2_1, zE2_2, zE2_3, fE2_0, fE2_1, fE2_2, fE2_3⟩ := KE2.out.all4
  go_wp2
  go_ret
  have hie := inv_end H.out.inv
  rw [HE.out] at hie
  exact ⟨⟨t, m, u, ro, false, ⟨none, [], 0⟩⟩, rb, p, L, rfl, ⟨KO2.out, H.out.rope.apart H.out.blk rfl HB2.out, ⟨RS2.out.m, RS2.out.u, RS2.out.r, EPo.empty _ _⟩, H.out.ml, H.out.mc, hie⟩, rfl, HB2.out⟩
set_option maxRecDepth 100000 in
set_option maxHeartbeats 1600000 in
theorem ed_end_some {w : World} {b : Nat} {t : ByteArray} {m : KPc} {u ro : SPc} {g : EPc} {rb : Nat} {p : Option Addr} {L : List ByteArray} (h : IsEd w b ⟨t, m, u, ro, true, g⟩ rb p L) (k i n : Int) (x : ByteArray) (hg0 : ¬ g.l.length = 0) : Calls Tryz.prog 67 #[.pointer (some ⟨b, 0, none⟩), (.agg #[.int .i64 k, .int .i64 i, .int .i64 n, .string x])] w (RetEd w b (⟨t, m.l, pushL (lsP u.l) g.l, lsP ro.l, false, []⟩, 0)) := by
  have hbl : b < w.heap.size := h.lt
  have he : endD (Sta.d ⟨t, m, u, ro, true, g⟩) = (⟨t, m.l, pushL (lsP u.l) g.l, lsP ro.l, false, []⟩, 0) := by unfold endD; rw [if_neg (fun h => by cases h), if_neg (show ¬ (Sta.d ⟨t, m, u, ro, true, g⟩).g.length = 0 from hg0)]; rfl
  have HE := hid he
  have hul : u.l.length ≤ 900 ∧ ∀ y ∈ u.l, y.l.length ≤ 1000000 := by
    have h1 := h.inv.ul
    have h2 : (lsP u.l).length ≤ 16 := h1.1
    rw [lsP_len] at h2
    exact ⟨by omega, lsP_all fun y hy => Nat.le_trans (h1.2 y hy).2 (by decide)⟩
  have hgl : g.l.length ≤ 1000000 := Nat.le_trans h.inv.gl (by decide)
  have HUL := hid hul; have HGL := hid hgl
  clear he hul hgl
  obtain ⟨wX, hwX, kE, hb0, hz⟩ := box1 w #[.int .i64 k, .int .i64 i, .int .i64 n, .string x] 36
  have KO0 := hid (show Blk wX b #[.bool true, .pointer (some ⟨rb, 0, none⟩), .string ⟨#[]⟩, .slice m.a m.l.length m.c, .slice u.a u.l.length u.c, .slice ro.a ro.l.length ro.c, .bool true, .slice g.a g.l.length g.c] 54 from h.blk.onto hb0)
  have KE0 := hid (kE)
  have RS0 := hid ((h.rows.wide (S' := [b, w.heap.size]) (fun i hi => by simp only [List.mem_cons, List.not_mem_nil, or_false] at hi; rcases hi with rfl | rfl; exact .inl (by simp); exact .inr (Nat.le_refl _))).later hb0)
  have HB0 := hid ((Apart.of_below hb0 : Apart [b] w wX))
  have HG0 := hid (Nat.le_refl wX.heap.size)
  have hlt2 : ∀ W : World, wX.heap.size ≤ W.heap.size → ∀ i ∈ [b, w.heap.size], i < W.heap.size := fun W h i hi => by simp only [List.mem_cons, List.not_mem_nil, or_false] at hi; rcases hi with rfl | rfl <;> omega
  have HLT := hid hlt2; have H := hid h; have HB := hid hb0
  clear hlt2 kE
  obtain ⟨zO0_0, zO0_1, zO0_2, zO0_3, zO0_4, zO0_5, zO0_6, zO0_7, fO0_0, fO0_1, fO0_2, fO0_3, fO0_4, fO0_5, fO0_6, fO0_7⟩ := KO0.out.all8
  obtain ⟨zE0_0, zE0_1, zE0_2, zE0_3, fE0_0, fE0_1, fE0_2, fE0_3⟩ := KE0.out.all4
  have g0 : ¬ g.l.length = 0 := hg0
  have g1 : (0 : Int) < (g.l.length : Int) := by omega
  have cpu := fun W (hk : Blk W b (edC true (some ⟨rb, 0, none⟩) ⟨#[]⟩ m u ro true g) 54) (hu : SPo [b] W u) (hg : EPo [b] W g) => ed_push hk hu g hg HUL.out.1 HUL.out.2 HGL.out
  have CPU := hid cpu
  clear h hb0 hz cpu
  go_enter Tryz.func67, Tryz.ntmps67
  replace RS0 := hid (RS0.out.wide (S' := [b]) (down1))
  go_wp2_with fail
  refine (CPU.out _ KO0.out RS0.out.u RS0.out.g).mono ?_; rintro e wP ⟨rfl, ⟨ua, ul, uc⟩, hul, hk2, hsu, ha⟩
  clear zO0_0 zO0_1 zO0_2 zO0_3 zO0_4 zO0_5 zO0_6 zO0_7 fO0_0 fO0_1 fO0_2 fO0_3 fO0_4 fO0_5 fO0_6 fO0_7 zE0_0 zE0_1 zE0_2 zE0_3 fE0_0 fE0_1 fE0_2 fE0_3
  have KO1 := hid (hk2)
  have KE1 := hid (KE0.out.apart ha (by simp only [List.mem_singleton]; omega))
  have RS1 := hid (RS0.out.apart (ha.more (by simp)))
  have HB1 := hid (HB0.out.trans ha (by simp))
  have HG1 := hid (Nat.le_trans HG0.out ha.size)
  have HUL2 := hid hul
  have RU1 := hid (hsu)
  clear ha hul hk2 hsu hwX KO0 KE0 RS0 HB0 HG0
  obtain ⟨zO1_0, zO1_1, zO1_2, zO1_3, zO1_4, zO1_5, zO1_6, zO1_7, fO1_0, fO1_1, fO1_2, fO1_3, fO1_4, fO1_5, fO1_6, fO1_7⟩ := KO1.out.all8
  obtain ⟨zE1_0, zE1_1, zE1_2, zE1_3, fE1_0, fE1_1, fE1_2, fE1_3⟩ := KE1.out.all4
  have kO : Blk (wP.setCell ⟨b, 6, none⟩ (.bool false)) (b) #[.bool true, .pointer (some ⟨rb, 0, none⟩), .string ⟨#[]⟩, .slice m.a m.l.length m.c, .slice ua ul.length uc, .slice ro.a ro.l.length ro.c, .bool false, .slice g.a g.l.length g.c] 54 := (KO1.out.set 6 _)
  have kE : Blk (wP.setCell ⟨b, 6, none⟩ (.bool false)) (w.heap.size) #[.int .i64 k, .int .i64 i, .int .i64 n, .string x] 36 := (KE1.out.other ⟨b, 6, none⟩ (by show b ≠ w.heap.size; omega) _)
  have ap : Apart [b] wP (wP.setCell ⟨b, 6, none⟩ (.bool false)) := (Apart.refl [b] wP).setCell (p := ⟨b, 6, none⟩) (.inl (by simp)) _
  have rS := RS1.out.apart ap
  have rU := RU1.out.apart ap
  have hB := ((HB1.out.setCell (p := ⟨b, 6, none⟩) (by simp) _) : Apart [b] w (wP.setCell ⟨b, 6, none⟩ (.bool false)))
  have hz : (wP.setCell ⟨b, 6, none⟩ (.bool false)).heap.size = wP.heap.size := by simp
  obtain ⟨v2, hv2⟩ : ∃ V, (wP.setCell ⟨b, 6, none⟩ (.bool false)) = V := ⟨_, rfl⟩
  rw [hv2] at kO kE rS rU hB hz
  have KO2 := hid kO
  have KE2 := hid kE
  have RS2 := hid rS
  have RU2 := hid rU
  have HB2 := hid hB
  have HG2 := hid (Nat.le_trans HG1.out (Nat.le_of_eq hz.symm))
  clear kO kE rS rU hB hz ap KO1 KE1 RS1 RU1 HB1 HG1
  obtain ⟨zO2_0, zO2_1, zO2_2, zO2_3, zO2_4, zO2_5, zO2_6, zO2_7, fO2_0, fO2_1, fO2_2, fO2_3, fO2_4, fO2_5, fO2_6, fO2_7⟩ := KO2.out.all8
  obtain ⟨zE2_0, zE2_1, zE2_2, zE2_3, fE2_0, fE2_1, fE2_2, fE2_3⟩ := KE2.out.all4
  have kO : Blk (v2.setCell ⟨b, 7, none⟩ (.slice none 0 0)) (b) #[.bool true, .pointer (some ⟨rb, 0, none⟩), .string ⟨#[]⟩, .slice m.a m.l.length m.c, .slice ua ul.length uc, .slice ro.a ro.l.length ro.c, .bool false, .slice none 0 0] 54 := (KO2.out.set 7 _)
  have kE : Blk (v2.setCell ⟨b, 7, none⟩ (.slice none 0 0)) (w.heap.size) #[.int .i64 k, .int .i64 i, .int .i64 n, .string x] 36 := (KE2.out.other ⟨b, 7, none⟩ (by show b ≠ w.heap.size; omega) _)
  have ap : Apart [b] v2 (v2.setCell ⟨b, 7, none⟩ (.slice none 0 0)) := (Apart.refl [b] v2).setCell (p := ⟨b, 7, none⟩) (.inl (by simp)) _
  have rS := RS2.out.apart ap
  have rU := RU2.out.apart ap
  have hB := ((HB2.out.setCell (p := ⟨b, 7, none⟩) (by simp) _) : Apart [b] w (v2.setCell ⟨b, 7, none⟩ (.slice none 0 0)))
  have hz : (v2.setCell ⟨b, 7, none⟩ (.slice none 0 0)).heap.size = v2.heap.size := by simp
  obtain ⟨v3, hv3⟩ : ∃ V, (v2.setCell ⟨b, 7, none⟩ (.slice none 0 0)) = V := ⟨_, rfl⟩
  rw [hv3] at kO kE rS rU hB hz
  have KO3 := hid kO
  have KE3 := hid kE
  have RS3 := hid rS
  have RU3 := hid rU
  have HB3 := hid hB
  have HG3 := hid (Nat.le_trans HG2.out (Nat.le_of_eq hz.symm))
  clear kO kE rS rU hB hz ap KO2 KE2 RS2 RU2 HB2 HG2
  obtain ⟨zO3_0, zO3_1, zO3_2, zO3_3, zO3_4, zO3_5, zO3_6, zO3_7, fO3_0, fO3_1, fO3_2, fO3_3, fO3_4, fO3_5, fO3_6, fO3_7⟩ := KO3.out.all8
  obtain ⟨zE3_0, zE3_1, zE3_2, zE3_3, fE3_0, fE3_1, fE3_2, fE3_3⟩ := KE3.out.all4
  go_wp2
  go_ret
  have hie := inv_end H.out.inv
  rw [HE.out] at hie
  have h4 : lsP ul = pushL (lsP u.l) g.l := HUL2.out
  exact ⟨⟨t, m, ⟨ua, ul, uc⟩, ro, false, ⟨none, [], 0⟩⟩, rb, p, L, rfl, ⟨KO3.out, H.out.rope.apart H.out.blk rfl HB3.out, ⟨RS3.out.m, RU3.out, RS3.out.r, EPo.empty _ _⟩, H.out.ml, H.out.mc, (by show InvS ⟨t, m.l, lsP ul, lsP ro.l, false, []⟩; rw [h4]; exact hie)⟩, (by show (⟨t, m.l, lsP ul, lsP ro.l, false, []⟩ : StaD) = _; rw [h4]), HB3.out⟩
set_option maxRecDepth 100000 in
set_option maxHeartbeats 1600000 in
theorem ed_mark_name {w : World} {b : Nat} {t : ByteArray} {m : KPc} {u ro : SPc} {so : Bool} {g : EPc} {rb : Nat} {p : Option Addr} {L : List ByteArray} (h : IsEd w b ⟨t, m, u, ro, so, g⟩ rb p L) (k i n : Int) (x : ByteArray) (hx : x.size ≤ maxLen) (h1 : markB x.data.toList = false) : Calls Tryz.prog 62 #[.pointer (some ⟨b, 0, none⟩), (.agg #[.int .i64 k, .int .i64 i, .int .i64 n, .string x])] w (RetEd w b ((Sta.d ⟨t, m, u, ro, so, g⟩), 7)) := by
  have hbl : b < w.heap.size := h.lt
  obtain ⟨wX, hwX, kE, hb0, hz⟩ := box1 w #[.int .i64 k, .int .i64 i, .int .i64 n, .string x] 36
  have KO0 := hid (show Blk wX b #[.bool true, .pointer (some ⟨rb, 0, none⟩), .string ⟨#[]⟩, .slice m.a m.l.length m.c, .slice u.a u.l.length u.c, .slice ro.a ro.l.length ro.c, .bool so, .slice g.a g.l.length g.c] 54 from h.blk.onto hb0)
  have KE0 := hid (kE)
  have RS0 := hid ((h.rows.wide (S' := [b, w.heap.size]) (fun i hi => by simp only [List.mem_cons, List.not_mem_nil, or_false] at hi; rcases hi with rfl | rfl; exact .inl (by simp); exact .inr (Nat.le_refl _))).later hb0)
  have HB0 := hid ((Apart.of_below hb0 : Apart [b] w wX))
  have HG0 := hid (Nat.le_refl wX.heap.size)
  have hlt2 : ∀ W : World, wX.heap.size ≤ W.heap.size → ∀ i ∈ [b, w.heap.size], i < W.heap.size := fun W h i hi => by simp only [List.mem_cons, List.not_mem_nil, or_false] at hi; rcases hi with rfl | rfl <;> omega
  have HLT := hid hlt2; have H := hid h; have HB := hid hb0
  clear hlt2 kE
  obtain ⟨zO0_0, zO0_1, zO0_2, zO0_3, zO0_4, zO0_5, zO0_6, zO0_7, fO0_0, fO0_1, fO0_2, fO0_3, fO0_4, fO0_5, fO0_6, fO0_7⟩ := KO0.out.all8
  obtain ⟨zE0_0, zE0_1, zE0_2, zE0_3, fE0_0, fE0_1, fE0_2, fE0_3⟩ := KE0.out.all4
  have c1 := omay_any x hx
  rw [h1] at c1
  have C1 := hid c1
  clear h hb0 hz c1 h1
  go_enter Tryz.func62, Tryz.ntmps62
  go_wp2_with fail
  refine (C1.out _).mono ?_; rintro e w1 ⟨rfl, rfl⟩
  go_wp2
  go_ret
  exact ⟨⟨t, m, u, ro, so, g⟩, rb, p, L, rfl, ⟨KO0.out, H.out.rope.apart H.out.blk rfl HB0.out, RS0.out.wide down1, H.out.ml, H.out.mc, H.out.inv⟩, rfl, HB0.out⟩
set_option maxRecDepth 100000 in
set_option maxHeartbeats 1600000 in
theorem ed_mark_below {w : World} {b : Nat} {t : ByteArray} {m : KPc} {u ro : SPc} {so : Bool} {g : EPc} {rb : Nat} {p : Option Addr} {L : List ByteArray} (h : IsEd w b ⟨t, m, u, ro, so, g⟩ rb p L) (k i n : Int) (x : ByteArray) (hx : x.size ≤ maxLen) (h1 : markB x.data.toList = true) (h2 : i < 0) : Calls Tryz.prog 62 #[.pointer (some ⟨b, 0, none⟩), (.agg #[.int .i64 k, .int .i64 i, .int .i64 n, .string x])] w (RetEd w b ((Sta.d ⟨t, m, u, ro, so, g⟩), 3)) := by
  have hbl : b < w.heap.size := h.lt
  obtain ⟨wX, hwX, kE, hb0, hz⟩ := box1 w #[.int .i64 k, .int .i64 i, .int .i64 n, .string x] 36
  have KO0 := hid (show Blk wX b #[.bool true, .pointer (some ⟨rb, 0, none⟩), .string ⟨#[]⟩, .slice m.a m.l.length m.c, .slice u.a u.l.length u.c, .slice ro.a ro.l.length ro.c, .bool so, .slice g.a g.l.length g.c] 54 from h.blk.onto hb0)
  have KE0 := hid (kE)
  have RS0 := hid ((h.rows.wide (S' := [b, w.heap.size]) (fun i hi => by simp only [List.mem_cons, List.not_mem_nil, or_false] at hi; rcases hi with rfl | rfl; exact .inl (by simp); exact .inr (Nat.le_refl _))).later hb0)
  have HB0 := hid ((Apart.of_below hb0 : Apart [b] w wX))
  have HG0 := hid (Nat.le_refl wX.heap.size)
  have hlt2 : ∀ W : World, wX.heap.size ≤ W.heap.size → ∀ i ∈ [b, w.heap.size], i < W.heap.size := fun W h i hi => by simp only [List.mem_cons, List.not_mem_nil, or_false] at hi; rcases hi with rfl | rfl <;> omega
  have HLT := hid hlt2; have H := hid h; have HB := hid hb0
  clear hlt2 kE
  obtain ⟨zO0_0, zO0_1, zO0_2, zO0_3, zO0_4, zO0_5, zO0_6, zO0_7, fO0_0, fO0_1, fO0_2, fO0_3, fO0_4, fO0_5, fO0_6, fO0_7⟩ := KO0.out.all8
  obtain ⟨zE0_0, zE0_1, zE0_2, zE0_3, fE0_0, fE0_1, fE0_2, fE0_3⟩ := KE0.out.all4
  have c1 := omay_any x hx
  rw [h1] at c1
  have C1 := hid c1
  clear c1 h1
  have hfs : ∀ W, Below wX.heap.size wX W → (W.cell? ⟨b, 1, none⟩ = some (.pointer (some ⟨rb, 0, none⟩)) ∧ W.cell? ⟨b, 3, none⟩ = some (.slice m.a m.l.length m.c)) ∧ W.cell? ⟨w.heap.size, 0, none⟩ = some (.int .i64 k) ∧ W.cell? ⟨w.heap.size, 1, none⟩ = some (.int .i64 i) ∧ W.cell? ⟨w.heap.size, 2, none⟩ = some (.int .i64 n) ∧ W.cell? ⟨w.heap.size, 3, none⟩ = some (.string x) := fun W h => ⟨⟨(KO0.out.onto h).cell 1 _ rfl, (KO0.out.onto h).cell 3 _ rfl⟩, (KE0.out.onto h).cell 0 _ rfl, (KE0.out.onto h).cell 1 _ rfl, (KE0.out.onto h).cell 2 _ rfl, (KE0.out.onto h).cell 3 _ rfl⟩
  have FS := hid hfs
  clear hfs
  have d2 : decide (i < 0) = true := decide_eq_true h2
  clear h hb0 hz
  go_enter Tryz.func62, Tryz.ntmps62
  go_wp2_with fail
  refine (C1.out _).mono ?_; rintro e w1 ⟨rfl, rfl⟩
  clear hwX
  go_wp2_with fail
  clear zO0_0 zO0_1 zO0_2 zO0_3 zO0_4 zO0_5 zO0_6 zO0_7 fO0_0 fO0_1 fO0_2 fO0_3 fO0_4 fO0_5 fO0_6 fO0_7 zE0_0 zE0_1 zE0_2 zE0_3 fE0_0 fE0_1 fE0_2 fE0_3
  refine wp_region_held_drew (S := (fun W : World => (W.cell? ⟨b, 1, none⟩ = some (.pointer (some ⟨rb, 0, none⟩)) ∧ W.cell? ⟨b, 3, none⟩ = some (.slice m.a m.l.length m.c)) ∧ W.cell? ⟨w.heap.size, 0, none⟩ = some (.int .i64 k) ∧ W.cell? ⟨w.heap.size, 1, none⟩ = some (.int .i64 i) ∧ W.cell? ⟨w.heap.size, 2, none⟩ = some (.int .i64 n) ∧ W.cell? ⟨w.heap.size, 3, none⟩ = some (.string x))) (by kernel_rfl) (FS.out _ (Below.refl _ _).drew) (fun hHeld => ?_)
  refine sqt 0 ?_
  try simp only [Act.put, sqp]
  refine sqt 1 ?_
  try simp only [Act.put, sqp]
  refine sqt 2 ?_
  try simp only [Act.put, sqp]
  refine sqt 3 ?_
  try simp only [Act.put, sqp]
  refine wpAnyH_take (i := 4) (v := undef) (by simp only [sqg]; rfl) (by kernel_rfl) (by kernel_rfl) (by kernel_rfl) (fun _ _ _ h => by exact h) (Or.inr ⟨by rfl, rfl⟩) (by assumption) ?_
  try simp only [Act.put, sqp]
  refine wpAnyH_take (i := 5) (v := undef) (by simp only [sqg]; rfl) (by kernel_rfl) (by kernel_rfl) (by kernel_rfl) (fun _ _ _ h => by exact h) (Or.inr ⟨by rfl, rfl⟩) (by assumption) ?_
  try simp only [Act.put, sqp]
  refine wpAnyH_take (i := 6) (v := undef) (by simp only [sqg]; rfl) (by kernel_rfl) (by kernel_rfl) (by kernel_rfl) (fun _ _ _ h => by exact h) (Or.inr ⟨by rfl, rfl⟩) (by assumption) ?_
  try simp only [Act.put, sqp]
  refine wpAnyH_take (i := 7) (v := undef) (by simp only [sqg]; rfl) (by kernel_rfl) (by kernel_rfl) (by kernel_rfl) (fun _ _ _ h => by exact h) (Or.inr ⟨by rfl, rfl⟩) (by assumption) ?_
  try simp only [Act.put, sqp]
  refine wpAnyH_take (i := 8) (v := undef) (by simp only [sqg]; rfl) (by kernel_rfl) (by kernel_rfl) (by kernel_rfl) (fun _ _ _ h => by exact h) (Or.inr ⟨by rfl, rfl⟩) (by assumption) ?_
  try simp only [Act.put, sqp]
  refine sqt 9 ?_
  try simp only [Act.put, sqp]
  refine sqt 10 ?_
  try simp only [Act.put, sqp]
  refine wpAnyH_done (by kernel_rfl) ?_ _
  go_wp2
  go_ret
  exact ⟨⟨t, m, u, ro, so, g⟩, rb, p, L, rfl, ⟨(KO0.out.drewN 1), H.out.rope.apart H.out.blk rfl (HB0.out.drewN 1), (RS0.out.later (Below.refl _ _).drew).wide down1, H.out.ml, H.out.mc, H.out.inv⟩, rfl, (HB0.out.drewN 1)⟩
set_option maxRecDepth 100000 in
set_option maxHeartbeats 1600000 in
theorem ed_mark_beyond {w : World} {b : Nat} {t : ByteArray} {m : KPc} {u ro : SPc} {so : Bool} {g : EPc} {rb : Nat} {p : Option Addr} {L : List ByteArray} (h : IsEd w b ⟨t, m, u, ro, so, g⟩ rb p L) (k i n : Int) (x : ByteArray) (hx : x.size ≤ maxLen) (h1 : markB x.data.toList = true) (h2 : (t.size : Int) < i) : Calls Tryz.prog 62 #[.pointer (some ⟨b, 0, none⟩), (.agg #[.int .i64 k, .int .i64 i, .int .i64 n, .string x])] w (RetEd w b ((Sta.d ⟨t, m, u, ro, so, g⟩), 3)) := by
  have hbl : b < w.heap.size := h.lt
  obtain ⟨wX, hwX, kE, hb0, hz⟩ := box1 w #[.int .i64 k, .int .i64 i, .int .i64 n, .string x] 36
  have KO0 := hid (show Blk wX b #[.bool true, .pointer (some ⟨rb, 0, none⟩), .string ⟨#[]⟩, .slice m.a m.l.length m.c, .slice u.a u.l.length u.c, .slice ro.a ro.l.length ro.c, .bool so, .slice g.a g.l.length g.c] 54 from h.blk.onto hb0)
  have KE0 := hid (kE)
  have RS0 := hid ((h.rows.wide (S' := [b, w.heap.size]) (fun i hi => by simp only [List.mem_cons, List.not_mem_nil, or_false] at hi; rcases hi with rfl | rfl; exact .inl (by simp); exact .inr (Nat.le_refl _))).later hb0)
  have HB0 := hid ((Apart.of_below hb0 : Apart [b] w wX))
  have HG0 := hid (Nat.le_refl wX.heap.size)
  have hlt2 : ∀ W : World, wX.heap.size ≤ W.heap.size → ∀ i ∈ [b, w.heap.size], i < W.heap.size := fun W h i hi => by simp only [List.mem_cons, List.not_mem_nil, or_false] at hi; rcases hi with rfl | rfl <;> omega
  have HLT := hid hlt2; have H := hid h; have HB := hid hb0
  clear hlt2 kE
  obtain ⟨zO0_0, zO0_1, zO0_2, zO0_3, zO0_4, zO0_5, zO0_6, zO0_7, fO0_0, fO0_1, fO0_2, fO0_3, fO0_4, fO0_5, fO0_6, fO0_7⟩ := KO0.out.all8
  obtain ⟨zE0_0, zE0_1, zE0_2, zE0_3, fE0_0, fE0_1, fE0_2, fE0_3⟩ := KE0.out.all4
  have c1 := omay_any x hx
  rw [h1] at c1
  have C1 := hid c1
  clear c1 h1
  have hnw := fun W (hW : Below wX.heap.size wX W) => ed_len (Nw.some (KO0.out.onto hW)) ((h.rope.later hb0).later hW)
  have CL := hid hnw
  clear hnw
  have hfs : ∀ W, Below wX.heap.size wX W → (W.cell? ⟨b, 1, none⟩ = some (.pointer (some ⟨rb, 0, none⟩)) ∧ W.cell? ⟨b, 3, none⟩ = some (.slice m.a m.l.length m.c)) ∧ W.cell? ⟨w.heap.size, 0, none⟩ = some (.int .i64 k) ∧ W.cell? ⟨w.heap.size, 1, none⟩ = some (.int .i64 i) ∧ W.cell? ⟨w.heap.size, 2, none⟩ = some (.int .i64 n) ∧ W.cell? ⟨w.heap.size, 3, none⟩ = some (.string x) := fun W h => ⟨⟨(KO0.out.onto h).cell 1 _ rfl, (KO0.out.onto h).cell 3 _ rfl⟩, (KE0.out.onto h).cell 0 _ rfl, (KE0.out.onto h).cell 1 _ rfl, (KE0.out.onto h).cell 2 _ rfl, (KE0.out.onto h).cell 3 _ rfl⟩
  have FS := hid hfs
  clear hfs
  have g2 : ¬ i < 0 := by omega
  have d2 : decide (i < 0) = false := decide_eq_false g2
  clear h hb0 hz
  go_enter Tryz.func62, Tryz.ntmps62
  go_wp2_with fail
  refine (C1.out _).mono ?_; rintro e w1 ⟨rfl, rfl⟩
  clear hwX
  go_wp2_with fail
  clear zO0_0 zO0_1 zO0_2 zO0_3 zO0_4 zO0_5 zO0_6 zO0_7 fO0_0 fO0_1 fO0_2 fO0_3 fO0_4 fO0_5 fO0_6 fO0_7 zE0_0 zE0_1 zE0_2 zE0_3 fE0_0 fE0_1 fE0_2 fE0_3
  refine wp_region_held_drew (S := (fun W : World => (W.cell? ⟨b, 1, none⟩ = some (.pointer (some ⟨rb, 0, none⟩)) ∧ W.cell? ⟨b, 3, none⟩ = some (.slice m.a m.l.length m.c)) ∧ W.cell? ⟨w.heap.size, 0, none⟩ = some (.int .i64 k) ∧ W.cell? ⟨w.heap.size, 1, none⟩ = some (.int .i64 i) ∧ W.cell? ⟨w.heap.size, 2, none⟩ = some (.int .i64 n) ∧ W.cell? ⟨w.heap.size, 3, none⟩ = some (.string x))) (by kernel_rfl) (FS.out _ (Below.refl _ _).drew) (fun hHeld => ?_)
  refine sqt 0 ?_
  try simp only [Act.put, sqp]
  refine sqt 1 ?_
  try simp only [Act.put, sqp]
  refine sqt 2 ?_
  try simp only [Act.put, sqp]
  refine sqt 3 ?_
  try simp only [Act.put, sqp]
  refine sqt 4 ?_
  try simp only [Act.put, sqp]
  refine sqt 5 ?_
  try simp only [Act.put, sqp]
  refine sqt 6 ?_
  try simp only [Act.put, sqp]
  refine wpAnyH_ready (rs := [7]) (by kernel_rfl) (by simp) ?_
  refine AllReadyH.cons (by simp only [sqg]; rfl) (fun K hK => ?_) AllReadyH.nil
  go_simp
  (go_at_call 13; refine (CL.out _ (Below.refl _ _).drew).mono ?_; rintro e w1 ⟨rfl, hb1⟩; have hb1' : Below wX.heap.size wX w1 := (Below.refl _ _).drew.trans hb1)
  try go_wp2_with fail
  refine hK.out _ _ ?_ (fun hHeld => ?_)
  · exact FS.out _ hb1'
  clear hK K
  try simp only [Act.put, sqp]
  refine sqt 8 ?_
  try simp only [Act.put, sqp]
  refine sqt 9 ?_
  try simp only [Act.put, sqp]
  refine sqt 10 ?_
  try simp only [Act.put, sqp]
  refine wpAnyH_done (by kernel_rfl) ?_ _
  have KO1 := hid (KO0.out.onto hb1')
  have KE1 := hid (KE0.out.onto hb1')
  have RS1 := hid (RS0.out.later hb1')
  have HB1 := hid (HB0.out.trans (S' := []) (.of_below hb1') (by simp))
  have HG1 := hid (Nat.le_trans HG0.out hb1'.size)
  have HW1 := hid hb1'
  clear hb1 CL hb1'
  go_wp2
  go_ret
  exact ⟨⟨t, m, u, ro, so, g⟩, rb, p, L, rfl, ⟨KO1.out, H.out.rope.apart H.out.blk rfl HB1.out, RS1.out.wide down1, H.out.ml, H.out.mc, H.out.inv⟩, rfl, HB1.out⟩
set_option maxRecDepth 100000 in
set_option maxHeartbeats 1600000 in
theorem ed_mark_split {w : World} {b : Nat} {t : ByteArray} {m : KPc} {u ro : SPc} {so : Bool} {g : EPc} {rb : Nat} {p : Option Addr} {L : List ByteArray} (h : IsEd w b ⟨t, m, u, ro, so, g⟩ rb p L) (k i n : Int) (x : ByteArray) (hx : x.size ≤ maxLen) (h1 : markB x.data.toList = true) (h2 : 0 ≤ i ∧ i ≤ t.size) (h4 : edgeB t.data.toList i = false) : Calls Tryz.prog 62 #[.pointer (some ⟨b, 0, none⟩), (.agg #[.int .i64 k, .int .i64 i, .int .i64 n, .string x])] w (RetEd w b ((Sta.d ⟨t, m, u, ro, so, g⟩), 4)) := by
  have hbl : b < w.heap.size := h.lt
  obtain ⟨wX, hwX, kE, hb0, hz⟩ := box1 w #[.int .i64 k, .int .i64 i, .int .i64 n, .string x] 36
  have KO0 := hid (show Blk wX b #[.bool true, .pointer (some ⟨rb, 0, none⟩), .string ⟨#[]⟩, .slice m.a m.l.length m.c, .slice u.a u.l.length u.c, .slice ro.a ro.l.length ro.c, .bool so, .slice g.a g.l.length g.c] 54 from h.blk.onto hb0)
  have KE0 := hid (kE)
  have RS0 := hid ((h.rows.wide (S' := [b, w.heap.size]) (fun i hi => by simp only [List.mem_cons, List.not_mem_nil, or_false] at hi; rcases hi with rfl | rfl; exact .inl (by simp); exact .inr (Nat.le_refl _))).later hb0)
  have HB0 := hid ((Apart.of_below hb0 : Apart [b] w wX))
  have HG0 := hid (Nat.le_refl wX.heap.size)
  have hlt2 : ∀ W : World, wX.heap.size ≤ W.heap.size → ∀ i ∈ [b, w.heap.size], i < W.heap.size := fun W h i hi => by simp only [List.mem_cons, List.not_mem_nil, or_false] at hi; rcases hi with rfl | rfl <;> omega
  have HLT := hid hlt2; have H := hid h; have HB := hid hb0
  clear hlt2 kE
  obtain ⟨zO0_0, zO0_1, zO0_2, zO0_3, zO0_4, zO0_5, zO0_6, zO0_7, fO0_0, fO0_1, fO0_2, fO0_3, fO0_4, fO0_5, fO0_6, fO0_7⟩ := KO0.out.all8
  obtain ⟨zE0_0, zE0_1, zE0_2, zE0_3, fE0_0, fE0_1, fE0_2, fE0_3⟩ := KE0.out.all4
  have c1 := omay_any x hx
  rw [h1] at c1
  have C1 := hid c1
  clear c1 h1
  have hnw := fun W (hW : Below wX.heap.size wX W) => ed_len (Nw.some (KO0.out.onto hW)) ((h.rope.later hb0).later hW)
  have CL := hid hnw
  clear hnw
  have hfs : ∀ W, Below wX.heap.size wX W → (W.cell? ⟨b, 1, none⟩ = some (.pointer (some ⟨rb, 0, none⟩)) ∧ W.cell? ⟨b, 3, none⟩ = some (.slice m.a m.l.length m.c)) ∧ W.cell? ⟨w.heap.size, 0, none⟩ = some (.int .i64 k) ∧ W.cell? ⟨w.heap.size, 1, none⟩ = some (.int .i64 i) ∧ W.cell? ⟨w.heap.size, 2, none⟩ = some (.int .i64 n) ∧ W.cell? ⟨w.heap.size, 3, none⟩ = some (.string x) := fun W h => ⟨⟨(KO0.out.onto h).cell 1 _ rfl, (KO0.out.onto h).cell 3 _ rfl⟩, (KE0.out.onto h).cell 0 _ rfl, (KE0.out.onto h).cell 1 _ rfl, (KE0.out.onto h).cell 2 _ rfl, (KE0.out.onto h).cell 3 _ rfl⟩
  have FS := hid hfs
  clear hfs
  have he := fun W (hW : Below wX.heap.size wX W) => ro_edge (q := i) ((h.rope.later hb0).later hW) (by unfold i64P; have := h.inv.z; replace this : t.size ≤ 4096 := this; omega)
  rw [h4] at he
  have CE := hid he
  clear he h4
  have g2 : ¬ i < 0 := by omega
  have d2 : decide (i < 0) = false := decide_eq_false g2
  have g3 : ¬ (t.size : Int) < i := by omega
  clear h hb0 hz
  go_enter Tryz.func62, Tryz.ntmps62
  go_wp2_with fail
  refine (C1.out _).mono ?_; rintro e w1 ⟨rfl, rfl⟩
  clear hwX
  go_wp2_with fail
  clear zO0_0 zO0_1 zO0_2 zO0_3 zO0_4 zO0_5 zO0_6 zO0_7 fO0_0 fO0_1 fO0_2 fO0_3 fO0_4 fO0_5 fO0_6 fO0_7 zE0_0 zE0_1 zE0_2 zE0_3 fE0_0 fE0_1 fE0_2 fE0_3
  refine wp_region_held_drew (S := (fun W : World => (W.cell? ⟨b, 1, none⟩ = some (.pointer (some ⟨rb, 0, none⟩)) ∧ W.cell? ⟨b, 3, none⟩ = some (.slice m.a m.l.length m.c)) ∧ W.cell? ⟨w.heap.size, 0, none⟩ = some (.int .i64 k) ∧ W.cell? ⟨w.heap.size, 1, none⟩ = some (.int .i64 i) ∧ W.cell? ⟨w.heap.size, 2, none⟩ = some (.int .i64 n) ∧ W.cell? ⟨w.heap.size, 3, none⟩ = some (.string x))) (by kernel_rfl) (FS.out _ (Below.refl _ _).drew) (fun hHeld => ?_)
  refine sqt 0 ?_
  try simp only [Act.put, sqp]
  refine sqt 1 ?_
  try simp only [Act.put, sqp]
  refine sqt 2 ?_
  try simp only [Act.put, sqp]
  refine sqt 3 ?_
  try simp only [Act.put, sqp]
  refine sqt 4 ?_
  try simp only [Act.put, sqp]
  refine sqt 5 ?_
  try simp only [Act.put, sqp]
  refine sqt 6 ?_
  try simp only [Act.put, sqp]
  refine wpAnyH_ready (rs := [7]) (by kernel_rfl) (by simp) ?_
  refine AllReadyH.cons (by simp only [sqg]; rfl) (fun K hK => ?_) AllReadyH.nil
  go_simp
  (go_at_call 13; refine (CL.out _ (Below.refl _ _).drew).mono ?_; rintro e w1 ⟨rfl, hb1⟩; have hb1' : Below wX.heap.size wX w1 := (Below.refl _ _).drew.trans hb1)
  try go_wp2_with fail
  refine hK.out _ _ ?_ (fun hHeld => ?_)
  · exact FS.out _ hb1'
  clear hK K
  try simp only [Act.put, sqp]
  refine sqt 8 ?_
  try simp only [Act.put, sqp]
  refine sqt 9 ?_
  try simp only [Act.put, sqp]
  refine sqt 10 ?_
  try simp only [Act.put, sqp]
  refine wpAnyH_done (by kernel_rfl) ?_ _
  have KO1 := hid (KO0.out.onto hb1')
  have KE1 := hid (KE0.out.onto hb1')
  have RS1 := hid (RS0.out.later hb1')
  have HB1 := hid (HB0.out.trans (S' := []) (.of_below hb1') (by simp))
  have HG1 := hid (Nat.le_trans HG0.out hb1'.size)
  have HW1 := hid hb1'
  clear hb1 CL hb1'
  obtain ⟨zO1_0, zO1_1, zO1_2, zO1_3, zO1_4, zO1_5, zO1_6, zO1_7, fO1_0, fO1_1, fO1_2, fO1_3, fO1_4, fO1_5, fO1_6, fO1_7⟩ := KO1.out.all8
  obtain ⟨zE1_0, zE1_1, zE1_2, zE1_3, fE1_0, fE1_1, fE1_2, fE1_3⟩ := KE1.out.all4
  go_wp2_with fail
  clear zO1_0 zO1_1 zO1_2 zO1_3 zO1_4 zO1_5 zO1_6 zO1_7 fO1_0 fO1_1 fO1_2 fO1_3 fO1_4 fO1_5 fO1_6 fO1_7 zE1_0 zE1_1 zE1_2 zE1_3 fE1_0 fE1_1 fE1_2 fE1_3
  refine wp_region_held_drew (S := (fun W : World => (W.cell? ⟨b, 1, none⟩ = some (.pointer (some ⟨rb, 0, none⟩)) ∧ W.cell? ⟨b, 3, none⟩ = some (.slice m.a m.l.length m.c)) ∧ W.cell? ⟨w.heap.size, 0, none⟩ = some (.int .i64 k) ∧ W.cell? ⟨w.heap.size, 1, none⟩ = some (.int .i64 i) ∧ W.cell? ⟨w.heap.size, 2, none⟩ = some (.int .i64 n) ∧ W.cell? ⟨w.heap.size, 3, none⟩ = some (.string x))) (by kernel_rfl) (FS.out _ (HW1.out.drew)) (fun hHeld => ?_)
  refine sqt 0 ?_
  try simp only [Act.put, sqp]
  refine sqt 1 ?_
  try simp only [Act.put, sqp]
  refine sqt 2 ?_
  try simp only [Act.put, sqp]
  refine sqt 3 ?_
  try simp only [Act.put, sqp]
  refine sqt 4 ?_
  try simp only [Act.put, sqp]
  refine sqt 5 ?_
  try simp only [Act.put, sqp]
  refine wpAnyH_ready (rs := [6]) (by kernel_rfl) (by simp) ?_
  refine AllReadyH.cons (by simp only [sqg]; rfl) (fun K hK => ?_) AllReadyH.nil
  go_simp
  (go_at_call 103; refine (CE.out _ HW1.out.drew).mono ?_; rintro e w2 ⟨rfl, hb2⟩; have hb2' : Below w1.heap.size w1 w2 := (Below.refl _ _).drew.trans hb2; have HW2 := hid (HW1.out.trans (hb2'.mono HW1.out.size)))
  try go_wp2_with fail
  refine hK.out _ _ ?_ (fun hHeld => ?_)
  · exact FS.out _ HW2.out
  clear hK K
  try simp only [Act.put, sqp]
  refine sqt 7 ?_
  try simp only [Act.put, sqp]
  refine sqt 8 ?_
  try simp only [Act.put, sqp]
  refine wpAnyH_done (by kernel_rfl) ?_ _
  have KO2 := hid (KO1.out.onto hb2')
  have KE2 := hid (KE1.out.onto hb2')
  have RS2 := hid (RS1.out.later hb2')
  have HB2 := hid (HB1.out.trans (S' := []) (.of_below hb2') (by simp))
  have HG2 := hid (Nat.le_trans HG1.out hb2'.size)
  clear hb2 CE hb2'
  go_wp2
  go_ret
  exact ⟨⟨t, m, u, ro, so, g⟩, rb, p, L, rfl, ⟨KO2.out, H.out.rope.apart H.out.blk rfl HB2.out, RS2.out.wide down1, H.out.ml, H.out.mc, H.out.inv⟩, rfl, HB2.out⟩
set_option maxRecDepth 100000 in
set_option maxHeartbeats 3200000 in
theorem ed_mark_not {w : World} {b : Nat} {t : ByteArray} {m : KPc} {u ro : SPc} {so : Bool} {g : EPc} {rb : Nat} {p : Option Addr} {L : List ByteArray} (h : IsEd w b ⟨t, m, u, ro, so, g⟩ rb p L) (k i n : Int) (x : ByteArray) (hx : x.size ≤ maxLen) (h1 : markB x.data.toList = true) (h2 : 0 ≤ i ∧ i ≤ t.size) (h4 : edgeB t.data.toList i = true) (h5 : (setM m.l ⟨x, i⟩).2 ≠ 0) : Calls Tryz.prog 62 #[.pointer (some ⟨b, 0, none⟩), (.agg #[.int .i64 k, .int .i64 i, .int .i64 n, .string x])] w (RetEd w b ((Sta.d ⟨t, m, u, ro, so, g⟩), (setM m.l ⟨x, i⟩).2)) := by
  have hbl : b < w.heap.size := h.lt
  have h4' := h4
  obtain ⟨wX, hwX, kE, hb0, hz⟩ := box1 w #[.int .i64 k, .int .i64 i, .int .i64 n, .string x] 36
  have KO0 := hid (show Blk wX b #[.bool true, .pointer (some ⟨rb, 0, none⟩), .string ⟨#[]⟩, .slice m.a m.l.length m.c, .slice u.a u.l.length u.c, .slice ro.a ro.l.length ro.c, .bool so, .slice g.a g.l.length g.c] 54 from h.blk.onto hb0)
  have KE0 := hid (kE)
  have RS0 := hid ((h.rows.wide (S' := [b, w.heap.size]) (fun i hi => by simp only [List.mem_cons, List.not_mem_nil, or_false] at hi; rcases hi with rfl | rfl; exact .inl (by simp); exact .inr (Nat.le_refl _))).later hb0)
  have HB0 := hid ((Apart.of_below hb0 : Apart [b] w wX))
  have HG0 := hid (Nat.le_refl wX.heap.size)
  have hlt2 : ∀ W : World, wX.heap.size ≤ W.heap.size → ∀ i ∈ [b, w.heap.size], i < W.heap.size := fun W h i hi => by simp only [List.mem_cons, List.not_mem_nil, or_false] at hi; rcases hi with rfl | rfl <;> omega
  have HLT := hid hlt2; have H := hid h; have HB := hid hb0
  clear hlt2 kE
  obtain ⟨zO0_0, zO0_1, zO0_2, zO0_3, zO0_4, zO0_5, zO0_6, zO0_7, fO0_0, fO0_1, fO0_2, fO0_3, fO0_4, fO0_5, fO0_6, fO0_7⟩ := KO0.out.all8
  obtain ⟨zE0_0, zE0_1, zE0_2, zE0_3, fE0_0, fE0_1, fE0_2, fE0_3⟩ := KE0.out.all4
  have c1 := omay_any x hx
  rw [h1] at c1
  have C1 := hid c1
  clear c1 h1
  have hnw := fun W (hW : Below wX.heap.size wX W) => ed_len (Nw.some (KO0.out.onto hW)) ((h.rope.later hb0).later hW)
  have CL := hid hnw
  clear hnw
  have hfs : ∀ W, Below wX.heap.size wX W → (W.cell? ⟨b, 1, none⟩ = some (.pointer (some ⟨rb, 0, none⟩)) ∧ W.cell? ⟨b, 3, none⟩ = some (.slice m.a m.l.length m.c)) ∧ W.cell? ⟨w.heap.size, 0, none⟩ = some (.int .i64 k) ∧ W.cell? ⟨w.heap.size, 1, none⟩ = some (.int .i64 i) ∧ W.cell? ⟨w.heap.size, 2, none⟩ = some (.int .i64 n) ∧ W.cell? ⟨w.heap.size, 3, none⟩ = some (.string x) := fun W h => ⟨⟨(KO0.out.onto h).cell 1 _ rfl, (KO0.out.onto h).cell 3 _ rfl⟩, (KE0.out.onto h).cell 0 _ rfl, (KE0.out.onto h).cell 1 _ rfl, (KE0.out.onto h).cell 2 _ rfl, (KE0.out.onto h).cell 3 _ rfl⟩
  have FS := hid hfs
  clear hfs
  have he := fun W (hW : Below wX.heap.size wX W) => ro_edge (q := i) ((h.rope.later hb0).later hW) (by unfold i64P; have := h.inv.z; replace this : t.size ≤ 4096 := this; omega)
  rw [h4] at he
  have CE := hid he
  clear he h4
  have cs := fun W (hW : Below wX.heap.size wX W) => mset_anyR m.a m.l m.c ⟨x, i⟩ W (KPo.pcs ((h.rows.m.later hb0).later hW)) h.ml h.mc (Nat.le_trans h.inv.ml (by decide)) hx ((rightM_iff _ _).1 h.inv.m).2.2
  skip
  obtain ⟨q, hq⟩ : ∃ q, setM m.l ⟨x, i⟩ = q := ⟨_, rfl⟩
  rw [hq] at cs h5 ⊢
  obtain ⟨ql, qe⟩ := q
  have CS := hid cs
  have h5' : qe ≠ 0 := h5
  have g2 : ¬ i < 0 := by omega
  have d2 : decide (i < 0) = false := decide_eq_false g2
  have g3 : ¬ (t.size : Int) < i := by omega
  clear h hb0 hz cs hq h5
  go_enter Tryz.func62, Tryz.ntmps62
  go_wp2_with fail
  refine (C1.out _).mono ?_; rintro e w1 ⟨rfl, rfl⟩
  clear hwX
  go_wp2_with fail
  clear zO0_0 zO0_1 zO0_2 zO0_3 zO0_4 zO0_5 zO0_6 zO0_7 fO0_0 fO0_1 fO0_2 fO0_3 fO0_4 fO0_5 fO0_6 fO0_7 zE0_0 zE0_1 zE0_2 zE0_3 fE0_0 fE0_1 fE0_2 fE0_3
  refine wp_region_held_drew (S := (fun W : World => (W.cell? ⟨b, 1, none⟩ = some (.pointer (some ⟨rb, 0, none⟩)) ∧ W.cell? ⟨b, 3, none⟩ = some (.slice m.a m.l.length m.c)) ∧ W.cell? ⟨w.heap.size, 0, none⟩ = some (.int .i64 k) ∧ W.cell? ⟨w.heap.size, 1, none⟩ = some (.int .i64 i) ∧ W.cell? ⟨w.heap.size, 2, none⟩ = some (.int .i64 n) ∧ W.cell? ⟨w.heap.size, 3, none⟩ = some (.string x))) (by kernel_rfl) (FS.out _ (Below.refl _ _).drew) (fun hHeld => ?_)
  refine sqt 0 ?_
  try simp only [Act.put, sqp]
  refine sqt 1 ?_
  try simp only [Act.put, sqp]
  refine sqt 2 ?_
  try simp only [Act.put, sqp]
  refine sqt 3 ?_
  try simp only [Act.put, sqp]
  refine sqt 4 ?_
  try simp only [Act.put, sqp]
  refine sqt 5 ?_
  try simp only [Act.put, sqp]
  refine sqt 6 ?_
  try simp only [Act.put, sqp]
  refine wpAnyH_ready (rs := [7]) (by kernel_rfl) (by simp) ?_
  refine AllReadyH.cons (by simp only [sqg]; rfl) (fun K hK => ?_) AllReadyH.nil
  go_simp
  (go_at_call 13; refine (CL.out _ (Below.refl _ _).drew).mono ?_; rintro e w1 ⟨rfl, hb1⟩; have hb1' : Below wX.heap.size wX w1 := (Below.refl _ _).drew.trans hb1)
  try go_wp2_with fail
  refine hK.out _ _ ?_ (fun hHeld => ?_)
  · exact FS.out _ hb1'
  clear hK K
  try simp only [Act.put, sqp]
  refine sqt 8 ?_
  try simp only [Act.put, sqp]
  refine sqt 9 ?_
  try simp only [Act.put, sqp]
  refine sqt 10 ?_
  try simp only [Act.put, sqp]
  refine wpAnyH_done (by kernel_rfl) ?_ _
  have KO1 := hid (KO0.out.onto hb1')
  have KE1 := hid (KE0.out.onto hb1')
  have RS1 := hid (RS0.out.later hb1')
  have HB1 := hid (HB0.out.trans (S' := []) (.of_below hb1') (by simp))
  have HG1 := hid (Nat.le_trans HG0.out hb1'.size)
  have HW1 := hid hb1'
  clear hb1 CL hb1'
  obtain ⟨zO1_0, zO1_1, zO1_2, zO1_3, zO1_4, zO1_5, zO1_6, zO1_7, fO1_0, fO1_1, fO1_2, fO1_3, fO1_4, fO1_5, fO1_6, fO1_7⟩ := KO1.out.all8
  obtain ⟨zE1_0, zE1_1, zE1_2, zE1_3, fE1_0, fE1_1, fE1_2, fE1_3⟩ := KE1.out.all4
  go_wp2_with fail
  clear zO1_0 zO1_1 zO1_2 zO1_3 zO1_4 zO1_5 zO1_6 zO1_7 fO1_0 fO1_1 fO1_2 fO1_3 fO1_4 fO1_5 fO1_6 fO1_7 zE1_0 zE1_1 zE1_2 zE1_3 fE1_0 fE1_1 fE1_2 fE1_3
  refine wp_region_held_drew (S := (fun W : World => (W.cell? ⟨b, 1, none⟩ = some (.pointer (some ⟨rb, 0, none⟩)) ∧ W.cell? ⟨b, 3, none⟩ = some (.slice m.a m.l.length m.c)) ∧ W.cell? ⟨w.heap.size, 0, none⟩ = some (.int .i64 k) ∧ W.cell? ⟨w.heap.size, 1, none⟩ = some (.int .i64 i) ∧ W.cell? ⟨w.heap.size, 2, none⟩ = some (.int .i64 n) ∧ W.cell? ⟨w.heap.size, 3, none⟩ = some (.string x))) (by kernel_rfl) (FS.out _ (HW1.out.drew)) (fun hHeld => ?_)
  refine sqt 0 ?_
  try simp only [Act.put, sqp]
  refine sqt 1 ?_
  try simp only [Act.put, sqp]
  refine sqt 2 ?_
  try simp only [Act.put, sqp]
  refine sqt 3 ?_
  try simp only [Act.put, sqp]
  refine sqt 4 ?_
  try simp only [Act.put, sqp]
  refine sqt 5 ?_
  try simp only [Act.put, sqp]
  refine wpAnyH_ready (rs := [6]) (by kernel_rfl) (by simp) ?_
  refine AllReadyH.cons (by simp only [sqg]; rfl) (fun K hK => ?_) AllReadyH.nil
  go_simp
  (go_at_call 103; refine (CE.out _ HW1.out.drew).mono ?_; rintro e w2 ⟨rfl, hb2⟩; have hb2' : Below w1.heap.size w1 w2 := (Below.refl _ _).drew.trans hb2; have HW2 := hid (HW1.out.trans (hb2'.mono HW1.out.size)))
  try go_wp2_with fail
  refine hK.out _ _ ?_ (fun hHeld => ?_)
  · exact FS.out _ HW2.out
  clear hK K
  try simp only [Act.put, sqp]
  refine sqt 7 ?_
  try simp only [Act.put, sqp]
  refine sqt 8 ?_
  try simp only [Act.put, sqp]
  refine wpAnyH_done (by kernel_rfl) ?_ _
  have KO2 := hid (KO1.out.onto hb2')
  have KE2 := hid (KE1.out.onto hb2')
  have RS2 := hid (RS1.out.later hb2')
  have HB2 := hid (HB1.out.trans (S' := []) (.of_below hb2') (by simp))
  have HG2 := hid (Nat.le_trans HG1.out hb2'.size)
  clear hb2 CE hb2'
  obtain ⟨zO2_0, zO2_1, zO2_2, zO2_3, zO2_4, zO2_5, zO2_6, zO2_7, fO2_0, fO2_1, fO2_2, fO2_3, fO2_4, fO2_5, fO2_6, fO2_7⟩ := KO2.out.all8
  obtain ⟨zE2_0, zE2_1, zE2_2, zE2_3, fE2_0, fE2_1, fE2_2, fE2_3⟩ := KE2.out.all4
  have q3 : w2.drew.cell? ⟨b, 3, none⟩ = some (.slice m.a m.l.length m.c) := zO2_3
  go_wp2_with fail
  clear zO2_0 zO2_1 zO2_2 zO2_3 zO2_4 zO2_5 zO2_6 zO2_7 fO2_0 fO2_1 fO2_2 fO2_3 fO2_4 fO2_5 fO2_6 fO2_7 zE2_0 zE2_1 zE2_2 zE2_3 fE2_0 fE2_1 fE2_2 fE2_3
  refine wp_region_held_drew (S := (fun W : World => W.cell? ⟨w.heap.size, 0, none⟩ = some (.int .i64 k) ∧ W.cell? ⟨w.heap.size, 1, none⟩ = some (.int .i64 i) ∧ W.cell? ⟨w.heap.size, 2, none⟩ = some (.int .i64 n) ∧ W.cell? ⟨w.heap.size, 3, none⟩ = some (.string x))) (by kernel_rfl) (FS.out _ HW2.out.drew).2 (fun hHeld => ?_)
  refine sqt 0 ?_
  try simp only [Act.put, sqp]
  refine sqt 1 ?_
  try simp only [Act.put, sqp]
  refine sqt 2 ?_
  try simp only [Act.put, sqp]
  refine sqt 3 ?_
  try simp only [Act.put, sqp]
  refine sqt 4 ?_
  try simp only [Act.put, sqp]
  refine sqt 6 ?_
  try simp only [Act.put, sqp]
  refine sqt 7 ?_
  try simp only [Act.put, sqp]
  refine sqt 8 ?_
  try simp only [Act.put, sqp]
  refine sqt 9 ?_
  try simp only [Act.put, sqp]
  refine sqt 10 ?_
  try simp only [Act.put, sqp]
  refine wpAnyH_ready (rs := [5]) (by kernel_rfl) (by simp) ?_
  refine AllReadyH.cons (by simp only [sqg]; rfl) (fun K hK => ?_) AllReadyH.nil
  go_simp
  skip
  try go_wp2_with fail
  refine hK.out _ _ ?_ (fun hHeld => ?_)
  · exact hHeld
  clear hK K
  try simp only [Act.put, sqp]
  refine wpAnyH_ready (rs := [11]) (by kernel_rfl) (by simp) ?_
  refine AllReadyH.cons (by simp only [sqg]; rfl) (fun K hK => ?_) AllReadyH.nil
  go_simp
  (go_at_call 105; refine (CS.out _ HW2.out.drew).mono ?_; rintro e w3 ⟨a3, c3, rfl, hm3, hb3⟩; have hb3' : Below w2.heap.size w2 w3 := (Below.refl _ _).drew.trans hb3; have HW3 := hid (HW2.out.trans (hb3'.mono HW2.out.size)))
  try go_wp2_with fail
  refine hK.out _ _ ?_ (fun hHeld => ?_)
  · exact (FS.out _ HW3.out).2
  clear hK K
  try simp only [Act.put, sqp]
  clear q3
  refine sqt 12 ?_
  try simp only [Act.put, sqp]
  refine sqt 13 ?_
  try simp only [Act.put, sqp]
  have KO3 := hid (KO2.out.onto hb3')
  have KE3 := hid (KE2.out.onto hb3')
  have RS3 := hid (RS2.out.later hb3')
  have HB3 := hid (HB2.out.trans (S' := []) (.of_below hb3') (by simp))
  have HG3 := hid (Nat.le_trans HG2.out hb3'.size)
  have RM3 := hid (hm3.off (S := [b, w.heap.size]) (HLT.out _ HW2.out.size))
  have HM3 := hid (And.intro hm3.le hm3.cap)
  clear hm3 hb3 hb3' CS
  refine wpAnyH_ready (rs := [14]) (by kernel_rfl) (by simp) ?_
  refine AllReadyH.cons (by simp only [sqg]; rfl) (fun K hK => ?_) AllReadyH.nil
  go_simp
  (go_at_call 104; refine (ed_keep_no _ _ _ _ h5').mono ?_; rintro e w4 ⟨rfl, rfl⟩)
  try go_wp2_with fail
  refine hK.out _ _ ?_ (fun hHeld => ?_)
  · exact hHeld
  clear hK K
  try simp only [Act.put, sqp]
  refine sqt 15 ?_
  try simp only [Act.put, sqp]
  refine wpAnyH_done (by kernel_rfl) ?_ _
  go_wp2
  go_ret
  exact ⟨⟨t, m, u, ro, so, g⟩, rb, p, L, rfl, ⟨KO3.out, H.out.rope.apart H.out.blk rfl HB3.out, RS3.out.wide down1, H.out.ml, H.out.mc, H.out.inv⟩, rfl, HB3.out⟩
set_option maxRecDepth 100000 in
set_option maxHeartbeats 3200000 in
theorem ed_mark_set {w : World} {b : Nat} {t : ByteArray} {m : KPc} {u ro : SPc} {so : Bool} {g : EPc} {rb : Nat} {p : Option Addr} {L : List ByteArray} (h : IsEd w b ⟨t, m, u, ro, so, g⟩ rb p L) (k i n : Int) (x : ByteArray) (hx : x.size ≤ maxLen) (h1 : markB x.data.toList = true) (h2 : 0 ≤ i ∧ i ≤ t.size) (h4 : edgeB t.data.toList i = true) (h5 : (setM m.l ⟨x, i⟩).2 = 0) : Calls Tryz.prog 62 #[.pointer (some ⟨b, 0, none⟩), (.agg #[.int .i64 k, .int .i64 i, .int .i64 n, .string x])] w (RetEd w b (⟨t, (setM m.l ⟨x, i⟩).1, lsP u.l, lsP ro.l, so, g.l⟩, 0)) := by
  have hbl : b < w.heap.size := h.lt
  have h4' := h4
  obtain ⟨wX, hwX, kE, hb0, hz⟩ := box1 w #[.int .i64 k, .int .i64 i, .int .i64 n, .string x] 36
  have KO0 := hid (show Blk wX b #[.bool true, .pointer (some ⟨rb, 0, none⟩), .string ⟨#[]⟩, .slice m.a m.l.length m.c, .slice u.a u.l.length u.c, .slice ro.a ro.l.length ro.c, .bool so, .slice g.a g.l.length g.c] 54 from h.blk.onto hb0)
  have KE0 := hid (kE)
  have RS0 := hid ((h.rows.wide (S' := [b, w.heap.size]) (fun i hi => by simp only [List.mem_cons, List.not_mem_nil, or_false] at hi; rcases hi with rfl | rfl; exact .inl (by simp); exact .inr (Nat.le_refl _))).later hb0)
  have HB0 := hid ((Apart.of_below hb0 : Apart [b] w wX))
  have HG0 := hid (Nat.le_refl wX.heap.size)
  have hlt2 : ∀ W : World, wX.heap.size ≤ W.heap.size → ∀ i ∈ [b, w.heap.size], i < W.heap.size := fun W h i hi => by simp only [List.mem_cons, List.not_mem_nil, or_false] at hi; rcases hi with rfl | rfl <;> omega
  have HLT := hid hlt2; have H := hid h; have HB := hid hb0
  clear hlt2 kE
  obtain ⟨zO0_0, zO0_1, zO0_2, zO0_3, zO0_4, zO0_5, zO0_6, zO0_7, fO0_0, fO0_1, fO0_2, fO0_3, fO0_4, fO0_5, fO0_6, fO0_7⟩ := KO0.out.all8
  obtain ⟨zE0_0, zE0_1, zE0_2, zE0_3, fE0_0, fE0_1, fE0_2, fE0_3⟩ := KE0.out.all4
  have c1 := omay_any x hx
  rw [h1] at c1
  have C1 := hid c1
  clear c1 h1
  have hnw := fun W (hW : Below wX.heap.size wX W) => ed_len (Nw.some (KO0.out.onto hW)) ((h.rope.later hb0).later hW)
  have CL := hid hnw
  clear hnw
  have hfs : ∀ W, Below wX.heap.size wX W → (W.cell? ⟨b, 1, none⟩ = some (.pointer (some ⟨rb, 0, none⟩)) ∧ W.cell? ⟨b, 3, none⟩ = some (.slice m.a m.l.length m.c)) ∧ W.cell? ⟨w.heap.size, 0, none⟩ = some (.int .i64 k) ∧ W.cell? ⟨w.heap.size, 1, none⟩ = some (.int .i64 i) ∧ W.cell? ⟨w.heap.size, 2, none⟩ = some (.int .i64 n) ∧ W.cell? ⟨w.heap.size, 3, none⟩ = some (.string x) := fun W h => ⟨⟨(KO0.out.onto h).cell 1 _ rfl, (KO0.out.onto h).cell 3 _ rfl⟩, (KE0.out.onto h).cell 0 _ rfl, (KE0.out.onto h).cell 1 _ rfl, (KE0.out.onto h).cell 2 _ rfl, (KE0.out.onto h).cell 3 _ rfl⟩
  have FS := hid hfs
  clear hfs
  have he := fun W (hW : Below wX.heap.size wX W) => ro_edge (q := i) ((h.rope.later hb0).later hW) (by unfold i64P; have := h.inv.z; replace this : t.size ≤ 4096 := this; omega)
  rw [h4] at he
  have CE := hid he
  clear he h4
  have cs := fun W (hW : Below wX.heap.size wX W) => mset_anyR m.a m.l m.c ⟨x, i⟩ W (KPo.pcs ((h.rows.m.later hb0).later hW)) h.ml h.mc (Nat.le_trans h.inv.ml (by decide)) hx ((rightM_iff _ _).1 h.inv.m).2.2
  have hri := set_right (x := ⟨x, i⟩) h.inv.m h4' h5
  have HRI := hid hri
  clear hri
  obtain ⟨q, hq⟩ : ∃ q, setM m.l ⟨x, i⟩ = q := ⟨_, rfl⟩
  rw [hq] at cs h5 ⊢
  obtain ⟨ql, qe⟩ := q
  have CS := hid cs
  replace HRI := hid (show rightM ql t = true by have e := HRI.out; rw [show (setM (Sta.d ⟨t, m, u, ro, so, g⟩).m ⟨x, i⟩) = (ql, qe) from hq] at e; exact e)
  have h5' : qe = 0 := h5
  have g2 : ¬ i < 0 := by omega
  have d2 : decide (i < 0) = false := decide_eq_false g2
  have g3 : ¬ (t.size : Int) < i := by omega
  clear h hb0 hz cs hq h5
  subst h5'
  go_enter Tryz.func62, Tryz.ntmps62
  go_wp2_with fail
  refine (C1.out _).mono ?_; rintro e w1 ⟨rfl, rfl⟩
  clear hwX
  go_wp2_with fail
  clear zO0_0 zO0_1 zO0_2 zO0_3 zO0_4 zO0_5 zO0_6 zO0_7 fO0_0 fO0_1 fO0_2 fO0_3 fO0_4 fO0_5 fO0_6 fO0_7 zE0_0 zE0_1 zE0_2 zE0_3 fE0_0 fE0_1 fE0_2 fE0_3
  refine wp_region_held_drew (S := (fun W : World => (W.cell? ⟨b, 1, none⟩ = some (.pointer (some ⟨rb, 0, none⟩)) ∧ W.cell? ⟨b, 3, none⟩ = some (.slice m.a m.l.length m.c)) ∧ W.cell? ⟨w.heap.size, 0, none⟩ = some (.int .i64 k) ∧ W.cell? ⟨w.heap.size, 1, none⟩ = some (.int .i64 i) ∧ W.cell? ⟨w.heap.size, 2, none⟩ = some (.int .i64 n) ∧ W.cell? ⟨w.heap.size, 3, none⟩ = some (.string x))) (by kernel_rfl) (FS.out _ (Below.refl _ _).drew) (fun hHeld => ?_)
  refine sqt 0 ?_
  try simp only [Act.put, sqp]
  refine sqt 1 ?_
  try simp only [Act.put, sqp]
  refine sqt 2 ?_
  try simp only [Act.put, sqp]
  refine sqt 3 ?_
  try simp only [Act.put, sqp]
  refine sqt 4 ?_
  try simp only [Act.put, sqp]
  refine sqt 5 ?_
  try simp only [Act.put, sqp]
  refine sqt 6 ?_
  try simp only [Act.put, sqp]
  refine wpAnyH_ready (rs := [7]) (by kernel_rfl) (by simp) ?_
  refine AllReadyH.cons (by simp only [sqg]; rfl) (fun K hK => ?_) AllReadyH.nil
  go_simp
  (go_at_call 13; refine (CL.out _ (Below.refl _ _).drew).mono ?_; rintro e w1 ⟨rfl, hb1⟩; have hb1' : Below wX.heap.size wX w1 := (Below.refl _ _).drew.trans hb1)
  try go_wp2_with fail
  refine hK.out _ _ ?_ (fun hHeld => ?_)
  · exact FS.out _ hb1'
  clear hK K
  try simp only [Act.put, sqp]
  refine sqt 8 ?_
  try simp only [Act.put, sqp]
  refine sqt 9 ?_
  try simp only [Act.put, sqp]
  refine sqt 10 ?_
  try simp only [Act.put, sqp]
  refine wpAnyH_done (by kernel_rfl) ?_ _
  have KO1 := hid (KO0.out.onto hb1')
  have KE1 := hid (KE0.out.onto hb1')
  have RS1 := hid (RS0.out.later hb1')
  have HB1 := hid (HB0.out.trans (S' := []) (.of_below hb1') (by simp))
  have HG1 := hid (Nat.le_trans HG0.out hb1'.size)
  have HW1 := hid hb1'
  clear hb1 CL hb1'
  obtain ⟨zO1_0, zO1_1, zO1_2, zO1_3, zO1_4, zO1_5, zO1_6, zO1_7, fO1_0, fO1_1, fO1_2, fO1_3, fO1_4, fO1_5, fO1_6, fO1_7⟩ := KO1.out.all8
  obtain ⟨zE1_0, zE1_1, zE1_2, zE1_3, fE1_0, fE1_1, fE1_2, fE1_3⟩ := KE1.out.all4
  go_wp2_with fail
  clear zO1_0 zO1_1 zO1_2 zO1_3 zO1_4 zO1_5 zO1_6 zO1_7 fO1_0 fO1_1 fO1_2 fO1_3 fO1_4 fO1_5 fO1_6 fO1_7 zE1_0 zE1_1 zE1_2 zE1_3 fE1_0 fE1_1 fE1_2 fE1_3
  refine wp_region_held_drew (S := (fun W : World => (W.cell? ⟨b, 1, none⟩ = some (.pointer (some ⟨rb, 0, none⟩)) ∧ W.cell? ⟨b, 3, none⟩ = some (.slice m.a m.l.length m.c)) ∧ W.cell? ⟨w.heap.size, 0, none⟩ = some (.int .i64 k) ∧ W.cell? ⟨w.heap.size, 1, none⟩ = some (.int .i64 i) ∧ W.cell? ⟨w.heap.size, 2, none⟩ = some (.int .i64 n) ∧ W.cell? ⟨w.heap.size, 3, none⟩ = some (.string x))) (by kernel_rfl) (FS.out _ (HW1.out.drew)) (fun hHeld => ?_)
  refine sqt 0 ?_
  try simp only [Act.put, sqp]
  refine sqt 1 ?_
  try simp only [Act.put, sqp]
  refine sqt 2 ?_
  try simp only [Act.put, sqp]
  refine sqt 3 ?_
  try simp only [Act.put, sqp]
  refine sqt 4 ?_
  try simp only [Act.put, sqp]
  refine sqt 5 ?_
  try simp only [Act.put, sqp]
  refine wpAnyH_ready (rs := [6]) (by kernel_rfl) (by simp) ?_
  refine AllReadyH.cons (by simp only [sqg]; rfl) (fun K hK => ?_) AllReadyH.nil
  go_simp
  (go_at_call 103; refine (CE.out _ HW1.out.drew).mono ?_; rintro e w2 ⟨rfl, hb2⟩; have hb2' : Below w1.heap.size w1 w2 := (Below.refl _ _).drew.trans hb2; have HW2 := hid (HW1.out.trans (hb2'.mono HW1.out.size)))
  try go_wp2_with fail
  refine hK.out _ _ ?_ (fun hHeld => ?_)
  · exact FS.out _ HW2.out
  clear hK K
  try simp only [Act.put, sqp]
  refine sqt 7 ?_
  try simp only [Act.put, sqp]
  refine sqt 8 ?_
  try simp only [Act.put, sqp]
  refine wpAnyH_done (by kernel_rfl) ?_ _
  have KO2 := hid (KO1.out.onto hb2')
  have KE2 := hid (KE1.out.onto hb2')
  have RS2 := hid (RS1.out.later hb2')
  have HB2 := hid (HB1.out.trans (S' := []) (.of_below hb2') (by simp))
  have HG2 := hid (Nat.le_trans HG1.out hb2'.size)
  clear hb2 CE hb2'
  obtain ⟨zO2_0, zO2_1, zO2_2, zO2_3, zO2_4, zO2_5, zO2_6, zO2_7, fO2_0, fO2_1, fO2_2, fO2_3, fO2_4, fO2_5, fO2_6, fO2_7⟩ := KO2.out.all8
  obtain ⟨zE2_0, zE2_1, zE2_2, zE2_3, fE2_0, fE2_1, fE2_2, fE2_3⟩ := KE2.out.all4
  have q3 : w2.drew.cell? ⟨b, 3, none⟩ = some (.slice m.a m.l.length m.c) := zO2_3
  go_wp2_with fail
  clear zO2_0 zO2_1 zO2_2 zO2_3 zO2_4 zO2_5 zO2_6 zO2_7 fO2_0 fO2_1 fO2_2 fO2_3 fO2_4 fO2_5 fO2_6 fO2_7 zE2_0 zE2_1 zE2_2 zE2_3 fE2_0 fE2_1 fE2_2 fE2_3
  refine wp_region_held_drew (S := (fun W : World => W.cell? ⟨w.heap.size, 0, none⟩ = some (.int .i64 k) ∧ W.cell? ⟨w.heap.size, 1, none⟩ = some (.int .i64 i) ∧ W.cell? ⟨w.heap.size, 2, none⟩ = some (.int .i64 n) ∧ W.cell? ⟨w.heap.size, 3, none⟩ = some (.string x))) (by kernel_rfl) (FS.out _ HW2.out.drew).2 (fun hHeld => ?_)
  refine sqt 0 ?_
  try simp only [Act.put, sqp]
  refine sqt 1 ?_
  try simp only [Act.put, sqp]
  refine sqt 2 ?_
  try simp only [Act.put, sqp]
  refine sqt 3 ?_
  try simp only [Act.put, sqp]
  refine sqt 4 ?_
  try simp only [Act.put, sqp]
  refine sqt 6 ?_
  try simp only [Act.put, sqp]
  refine sqt 7 ?_
  try simp only [Act.put, sqp]
  refine sqt 8 ?_
  try simp only [Act.put, sqp]
  refine sqt 9 ?_
  try simp only [Act.put, sqp]
  refine sqt 10 ?_
  try simp only [Act.put, sqp]
  refine wpAnyH_ready (rs := [5]) (by kernel_rfl) (by simp) ?_
  refine AllReadyH.cons (by simp only [sqg]; rfl) (fun K hK => ?_) AllReadyH.nil
  go_simp
  skip
  try go_wp2_with fail
  refine hK.out _ _ ?_ (fun hHeld => ?_)
  · exact hHeld
  clear hK K
  try simp only [Act.put, sqp]
  refine wpAnyH_ready (rs := [11]) (by kernel_rfl) (by simp) ?_
  refine AllReadyH.cons (by simp only [sqg]; rfl) (fun K hK => ?_) AllReadyH.nil
  go_simp
  (go_at_call 105; refine (CS.out _ HW2.out.drew).mono ?_; rintro e w3 ⟨a3, c3, rfl, hm3, hb3⟩; have hb3' : Below w2.heap.size w2 w3 := (Below.refl _ _).drew.trans hb3; have HW3 := hid (HW2.out.trans (hb3'.mono HW2.out.size)))
  try go_wp2_with fail
  refine hK.out _ _ ?_ (fun hHeld => ?_)
  · exact (FS.out _ HW3.out).2
  clear hK K
  try simp only [Act.put, sqp]
  clear q3
  refine sqt 12 ?_
  try simp only [Act.put, sqp]
  refine sqt 13 ?_
  try simp only [Act.put, sqp]
  have KO3 := hid (KO2.out.onto hb3')
  have KE3 := hid (KE2.out.onto hb3')
  have RS3 := hid (RS2.out.later hb3')
  have HB3 := hid (HB2.out.trans (S' := []) (.of_below hb3') (by simp))
  have HG3 := hid (Nat.le_trans HG2.out hb3'.size)
  have RM3 := hid (hm3.off (S := [b, w.heap.size]) (HLT.out _ HW2.out.size))
  have HM3 := hid (And.intro hm3.le hm3.cap)
  clear hm3 hb3 hb3' CS
  refine wpAnyH_ready (rs := [14]) (by kernel_rfl) (by simp) ?_
  refine AllReadyH.cons (by simp only [sqg]; rfl) (fun K hK => ?_) AllReadyH.nil
  go_simp
  (go_at_call 104; refine (ed_keep (made := true) (r := some ⟨rb, 0, none⟩) (t := ⟨#[]⟩) (m := m) (u := u) (ro := ro) (o := so) (g := g) KO3.out a3 ql.length c3).mono ?_; rintro e w4 ⟨rfl, hk4, ha4⟩; have HK4 := hid (And.intro hk4 ha4); clear hk4 ha4)
  try go_wp2_with fail
  refine hK.out _ _ ?_ (fun hHeld => ?_)
  · exact (by have h := KE3.out.apart HK4.out.2 (by simp only [List.mem_singleton]; omega); exact ⟨h.cell 0 _ rfl, h.cell 1 _ rfl, h.cell 2 _ rfl, h.cell 3 _ rfl⟩)
  clear hK K
  try simp only [Act.put, sqp]
  refine sqt 15 ?_
  try simp only [Act.put, sqp]
  refine wpAnyH_done (by kernel_rfl) ?_ _
  have hba := HB3.out.trans HK4.out.2 (fun x hx => .inl hx)
  go_wp2
  go_ret
  exact ⟨⟨t, ⟨a3, ql, c3⟩, u, ro, so, g⟩, rb, p, L, rfl, ⟨HK4.out.1, H.out.rope.apart H.out.blk rfl hba, ⟨(RM3.out.wide down1).apart HK4.out.2, (RS3.out.u.wide down1).apart HK4.out.2, (RS3.out.r.wide down1).apart HK4.out.2, (RS3.out.g.wide down1).apart HK4.out.2⟩, HM3.out.1, HM3.out.2, inv_marks H.out.inv HRI.out⟩, rfl, hba⟩
set_option maxRecDepth 100000 in
set_option maxHeartbeats 3200000 in
theorem ed_unmark_not {w : World} {b : Nat} {t : ByteArray} {m : KPc} {u ro : SPc} {so : Bool} {g : EPc} {rb : Nat} {p : Option Addr} {L : List ByteArray} (h : IsEd w b ⟨t, m, u, ro, so, g⟩ rb p L) (k i n : Int) (x : ByteArray) (h5 : (drpM m.l x).2 ≠ 0) : Calls Tryz.prog 63 #[.pointer (some ⟨b, 0, none⟩), (.agg #[.int .i64 k, .int .i64 i, .int .i64 n, .string x])] w (RetEd w b ((Sta.d ⟨t, m, u, ro, so, g⟩), (drpM m.l x).2)) := by
  have hbl : b < w.heap.size := h.lt
  obtain ⟨wX, hwX, kE, hb0, hz⟩ := box1 w #[.int .i64 k, .int .i64 i, .int .i64 n, .string x] 36
  have KO0 := hid (show Blk wX b #[.bool true, .pointer (some ⟨rb, 0, none⟩), .string ⟨#[]⟩, .slice m.a m.l.length m.c, .slice u.a u.l.length u.c, .slice ro.a ro.l.length ro.c, .bool so, .slice g.a g.l.length g.c] 54 from h.blk.onto hb0)
  have KE0 := hid (kE)
  have RS0 := hid ((h.rows.wide (S' := [b, w.heap.size]) (fun i hi => by simp only [List.mem_cons, List.not_mem_nil, or_false] at hi; rcases hi with rfl | rfl; exact .inl (by simp); exact .inr (Nat.le_refl _))).later hb0)
  have HB0 := hid ((Apart.of_below hb0 : Apart [b] w wX))
  have HG0 := hid (Nat.le_refl wX.heap.size)
  have hlt2 : ∀ W : World, wX.heap.size ≤ W.heap.size → ∀ i ∈ [b, w.heap.size], i < W.heap.size := fun W h i hi => by simp only [List.mem_cons, List.not_mem_nil, or_false] at hi; rcases hi with rfl | rfl <;> omega
  have HLT := hid hlt2; have H := hid h; have HB := hid hb0
  clear hlt2 kE
  obtain ⟨zO0_0, zO0_1, zO0_2, zO0_3, zO0_4, zO0_5, zO0_6, zO0_7, fO0_0, fO0_1, fO0_2, fO0_3, fO0_4, fO0_5, fO0_6, fO0_7⟩ := KO0.out.all8
  obtain ⟨zE0_0, zE0_1, zE0_2, zE0_3, fE0_0, fE0_1, fE0_2, fE0_3⟩ := KE0.out.all4
  have hfs : ∀ W, Below wX.heap.size wX W → (W.cell? ⟨b, 1, none⟩ = some (.pointer (some ⟨rb, 0, none⟩)) ∧ W.cell? ⟨b, 3, none⟩ = some (.slice m.a m.l.length m.c)) ∧ W.cell? ⟨w.heap.size, 0, none⟩ = some (.int .i64 k) ∧ W.cell? ⟨w.heap.size, 1, none⟩ = some (.int .i64 i) ∧ W.cell? ⟨w.heap.size, 2, none⟩ = some (.int .i64 n) ∧ W.cell? ⟨w.heap.size, 3, none⟩ = some (.string x) := fun W h => ⟨⟨(KO0.out.onto h).cell 1 _ rfl, (KO0.out.onto h).cell 3 _ rfl⟩, (KE0.out.onto h).cell 0 _ rfl, (KE0.out.onto h).cell 1 _ rfl, (KE0.out.onto h).cell 2 _ rfl, (KE0.out.onto h).cell 3 _ rfl⟩
  have FS := hid hfs
  clear hfs
  have cs := fun W (hW : Below wX.heap.size wX W) => mdrop_anyR m.a m.l m.c x W (KPo.pcs ((h.rows.m.later hb0).later hW)) h.ml h.mc (Nat.le_trans h.inv.ml (by decide)) ((rightM_iff _ _).1 h.inv.m).2.2
  skip
  obtain ⟨q, hq⟩ : ∃ q, drpM m.l x = q := ⟨_, rfl⟩
  rw [hq] at cs h5 ⊢
  obtain ⟨ql, qe⟩ := q
  have CS := hid cs
  have h5' : qe ≠ 0 := h5
  clear h hb0 hz cs hq h5
  go_enter Tryz.func63, Tryz.ntmps63
  have q3 : wX.drew.cell? ⟨b, 3, none⟩ = some (.slice m.a m.l.length m.c) := zO0_3
  go_wp2_with fail
  clear zO0_0 zO0_1 zO0_2 zO0_3 zO0_4 zO0_5 zO0_6 zO0_7 fO0_0 fO0_1 fO0_2 fO0_3 fO0_4 fO0_5 fO0_6 fO0_7 zE0_0 zE0_1 zE0_2 zE0_3 fE0_0 fE0_1 fE0_2 fE0_3
  clear hwX
  refine wp_region_held_drew (S := (fun W : World => W.cell? ⟨w.heap.size, 0, none⟩ = some (.int .i64 k) ∧ W.cell? ⟨w.heap.size, 1, none⟩ = some (.int .i64 i) ∧ W.cell? ⟨w.heap.size, 2, none⟩ = some (.int .i64 n) ∧ W.cell? ⟨w.heap.size, 3, none⟩ = some (.string x))) (by kernel_rfl) (FS.out _ (Below.refl _ _).drew).2 (fun hHeld => ?_)
  refine sqt 0 ?_
  try simp only [Act.put, sqp]
  refine sqt 1 ?_
  try simp only [Act.put, sqp]
  refine sqt 2 ?_
  try simp only [Act.put, sqp]
  refine sqt 3 ?_
  try simp only [Act.put, sqp]
  refine sqt 4 ?_
  try simp only [Act.put, sqp]
  refine sqt 6 ?_
  try simp only [Act.put, sqp]
  refine sqt 7 ?_
  try simp only [Act.put, sqp]
  refine wpAnyH_ready (rs := [5]) (by kernel_rfl) (by simp) ?_
  refine AllReadyH.cons (by simp only [sqg]; rfl) (fun K hK => ?_) AllReadyH.nil
  go_simp
  skip
  try go_wp2_with fail
  refine hK.out _ _ ?_ (fun hHeld => ?_)
  · exact hHeld
  clear hK K
  try simp only [Act.put, sqp]
  refine wpAnyH_ready (rs := [8]) (by kernel_rfl) (by simp) ?_
  refine AllReadyH.cons (by simp only [sqg]; rfl) (fun K hK => ?_) AllReadyH.nil
  go_simp
  (go_at_call 106; refine (CS.out _ (Below.refl _ _).drew).mono ?_; rintro e w3 ⟨a3, c3, rfl, hm3, hb3⟩; have hb3' : Below wX.heap.size wX w3 := (Below.refl _ _).drew.trans hb3)
  try go_wp2_with fail
  refine hK.out _ _ ?_ (fun hHeld => ?_)
  · exact (FS.out _ hb3').2
  clear hK K
  try simp only [Act.put, sqp]
  clear q3
  refine sqt 9 ?_
  try simp only [Act.put, sqp]
  refine sqt 10 ?_
  try simp only [Act.put, sqp]
  have KO1 := hid (KO0.out.onto hb3')
  have KE1 := hid (KE0.out.onto hb3')
  have RS1 := hid (RS0.out.later hb3')
  have HB1 := hid (HB0.out.trans (S' := []) (.of_below hb3') (by simp))
  have HG1 := hid (Nat.le_trans HG0.out hb3'.size)
  have RM1 := hid (hm3.off (S := [b, w.heap.size]) (HLT.out _ (Nat.le_refl _)))
  have HM3 := hid (And.intro hm3.le hm3.cap)
  clear hm3 hb3 hb3' CS
  refine wpAnyH_ready (rs := [11]) (by kernel_rfl) (by simp) ?_
  refine AllReadyH.cons (by simp only [sqg]; rfl) (fun K hK => ?_) AllReadyH.nil
  go_simp
  (go_at_call 104; refine (ed_keep_no _ _ _ _ h5').mono ?_; rintro e w4 ⟨rfl, rfl⟩)
  try go_wp2_with fail
  refine hK.out _ _ ?_ (fun hHeld => ?_)
  · exact hHeld
  clear hK K
  try simp only [Act.put, sqp]
  refine sqt 12 ?_
  try simp only [Act.put, sqp]
  refine wpAnyH_done (by kernel_rfl) ?_ _
  go_wp2
  go_ret
  exact ⟨⟨t, m, u, ro, so, g⟩, rb, p, L, rfl, ⟨KO1.out, H.out.rope.apart H.out.blk rfl HB1.out, RS1.out.wide down1, H.out.ml, H.out.mc, H.out.inv⟩, rfl, HB1.out⟩
set_option maxRecDepth 100000 in
set_option maxHeartbeats 3200000 in
theorem ed_unmark_yes {w : World} {b : Nat} {t : ByteArray} {m : KPc} {u ro : SPc} {so : Bool} {g : EPc} {rb : Nat} {p : Option Addr} {L : List ByteArray} (h : IsEd w b ⟨t, m, u, ro, so, g⟩ rb p L) (k i n : Int) (x : ByteArray) (h5 : (drpM m.l x).2 = 0) : Calls Tryz.prog 63 #[.pointer (some ⟨b, 0, none⟩), (.agg #[.int .i64 k, .int .i64 i, .int .i64 n, .string x])] w (RetEd w b (⟨t, (drpM m.l x).1, lsP u.l, lsP ro.l, so, g.l⟩, 0)) := by
  have hbl : b < w.heap.size := h.lt
  obtain ⟨wX, hwX, kE, hb0, hz⟩ := box1 w #[.int .i64 k, .int .i64 i, .int .i64 n, .string x] 36
  have KO0 := hid (show Blk wX b #[.bool true, .pointer (some ⟨rb, 0, none⟩), .string ⟨#[]⟩, .slice m.a m.l.length m.c, .slice u.a u.l.length u.c, .slice ro.a ro.l.length ro.c, .bool so, .slice g.a g.l.length g.c] 54 from h.blk.onto hb0)
  have KE0 := hid (kE)
  have RS0 := hid ((h.rows.wide (S' := [b, w.heap.size]) (fun i hi => by simp only [List.mem_cons, List.not_mem_nil, or_false] at hi; rcases hi with rfl | rfl; exact .inl (by simp); exact .inr (Nat.le_refl _))).later hb0)
  have HB0 := hid ((Apart.of_below hb0 : Apart [b] w wX))
  have HG0 := hid (Nat.le_refl wX.heap.size)
  have hlt2 : ∀ W : World, wX.heap.size ≤ W.heap.size → ∀ i ∈ [b, w.heap.size], i < W.heap.size := fun W h i hi => by simp only [List.mem_cons, List.not_mem_nil, or_false] at hi; rcases hi with rfl | rfl <;> omega
  have HLT := hid hlt2; have H := hid h; have HB := hid hb0
  clear hlt2 kE
  obtain ⟨zO0_0, zO0_1, zO0_2, zO0_3, zO0_4, zO0_5, zO0_6, zO0_7, fO0_0, fO0_1, fO0_2, fO0_3, fO0_4, fO0_5, fO0_6, fO0_7⟩ := KO0.out.all8
  obtain ⟨zE0_0, zE0_1, zE0_2, zE0_3, fE0_0, fE0_1, fE0_2, fE0_3⟩ := KE0.out.all4
  have hfs : ∀ W, Below wX.heap.size wX W → (W.cell? ⟨b, 1, none⟩ = some (.pointer (some ⟨rb, 0, none⟩)) ∧ W.cell? ⟨b, 3, none⟩ = some (.slice m.a m.l.length m.c)) ∧ W.cell? ⟨w.heap.size, 0, none⟩ = some (.int .i64 k) ∧ W.cell? ⟨w.heap.size, 1, none⟩ = some (.int .i64 i) ∧ W.cell? ⟨w.heap.size, 2, none⟩ = some (.int .i64 n) ∧ W.cell? ⟨w.heap.size, 3, none⟩ = some (.string x) := fun W h => ⟨⟨(KO0.out.onto h).cell 1 _ rfl, (KO0.out.onto h).cell 3 _ rfl⟩, (KE0.out.onto h).cell 0 _ rfl, (KE0.out.onto h).cell 1 _ rfl, (KE0.out.onto h).cell 2 _ rfl, (KE0.out.onto h).cell 3 _ rfl⟩
  have FS := hid hfs
  clear hfs
  have cs := fun W (hW : Below wX.heap.size wX W) => mdrop_anyR m.a m.l m.c x W (KPo.pcs ((h.rows.m.later hb0).later hW)) h.ml h.mc (Nat.le_trans h.inv.ml (by decide)) ((rightM_iff _ _).1 h.inv.m).2.2
  have hri := drp_right h.inv.m x h5
  have HRI := hid hri
  clear hri
  obtain ⟨q, hq⟩ : ∃ q, drpM m.l x = q := ⟨_, rfl⟩
  rw [hq] at cs h5 ⊢
  obtain ⟨ql, qe⟩ := q
  have CS := hid cs
  replace HRI := hid (show rightM ql t = true by have e := HRI.out; rw [show (drpM (Sta.d ⟨t, m, u, ro, so, g⟩).m x) = (ql, qe) from hq] at e; exact e)
  have h5' : qe = 0 := h5
  clear h hb0 hz cs hq h5
  subst h5'
  go_enter Tryz.func63, Tryz.ntmps63
  have q3 : wX.drew.cell? ⟨b, 3, none⟩ = some (.slice m.a m.l.length m.c) := zO0_3
  go_wp2_with fail
  clear zO0_0 zO0_1 zO0_2 zO0_3 zO0_4 zO0_5 zO0_6 zO0_7 fO0_0 fO0_1 fO0_2 fO0_3 fO0_4 fO0_5 fO0_6 fO0_7 zE0_0 zE0_1 zE0_2 zE0_3 fE0_0 fE0_1 fE0_2 fE0_3
  clear hwX
  refine wp_region_held_drew (S := (fun W : World => W.cell? ⟨w.heap.size, 0, none⟩ = some (.int .i64 k) ∧ W.cell? ⟨w.heap.size, 1, none⟩ = some (.int .i64 i) ∧ W.cell? ⟨w.heap.size, 2, none⟩ = some (.int .i64 n) ∧ W.cell? ⟨w.heap.size, 3, none⟩ = some (.string x))) (by kernel_rfl) (FS.out _ (Below.refl _ _).drew).2 (fun hHeld => ?_)
  refine sqt 0 ?_
  try simp only [Act.put, sqp]
  refine sqt 1 ?_
  try simp only [Act.put, sqp]
  refine sqt 2 ?_
  try simp only [Act.put, sqp]
  refine sqt 3 ?_
  try simp only [Act.put, sqp]
  refine sqt 4 ?_
  try simp only [Act.put, sqp]
  refine sqt 6 ?_
  try simp only [Act.put, sqp]
  refine sqt 7 ?_
  try simp only [Act.put, sqp]
  refine wpAnyH_ready (rs := [5]) (by kernel_rfl) (by simp) ?_
  refine AllReadyH.cons (by simp only [sqg]; rfl) (fun K hK => ?_) AllReadyH.nil
  go_simp
  skip
  try go_wp2_with fail
  refine hK.out _ _ ?_ (fun hHeld => ?_)
  · exact hHeld
  clear hK K
  try simp only [Act.put, sqp]
  refine wpAnyH_ready (rs := [8]) (by kernel_rfl) (by simp) ?_
  refine AllReadyH.cons (by simp only [sqg]; rfl) (fun K hK => ?_) AllReadyH.nil
  go_simp
  (go_at_call 106; refine (CS.out _ (Below.refl _ _).drew).mono ?_; rintro e w3 ⟨a3, c3, rfl, hm3, hb3⟩; have hb3' : Below wX.heap.size wX w3 := (Below.refl _ _).drew.trans hb3)
  try go_wp2_with fail
  refine hK.out _ _ ?_ (fun hHeld => ?_)
  · exact (FS.out _ hb3').2
  clear hK K
  try simp only [Act.put, sqp]
  clear q3
  refine sqt 9 ?_
  try simp only [Act.put, sqp]
  refine sqt 10 ?_
  try simp only [Act.put, sqp]
  have KO1 := hid (KO0.out.onto hb3')
  have KE1 := hid (KE0.out.onto hb3')
  have RS1 := hid (RS0.out.later hb3')
  have HB1 := hid (HB0.out.trans (S' := []) (.of_below hb3') (by simp))
  have HG1 := hid (Nat.le_trans HG0.out hb3'.size)
  have RM1 := hid (hm3.off (S := [b, w.heap.size]) (HLT.out _ (Nat.le_refl _)))
  have HM3 := hid (And.intro hm3.le hm3.cap)
  clear hm3 hb3 hb3' CS
  refine wpAnyH_ready (rs := [11]) (by kernel_rfl) (by simp) ?_
  refine AllReadyH.cons (by simp only [sqg]; rfl) (fun K hK => ?_) AllReadyH.nil
  go_simp
  (go_at_call 104; refine (ed_keep (made := true) (r := some ⟨rb, 0, none⟩) (t := ⟨#[]⟩) (m := m) (u := u) (ro := ro) (o := so) (g := g) KO1.out a3 ql.length c3).mono ?_; rintro e w4 ⟨rfl, hk4, ha4⟩; have HK4 := hid (And.intro hk4 ha4); clear hk4 ha4)
  try go_wp2_with fail
  refine hK.out _ _ ?_ (fun hHeld => ?_)
  · exact (by have h := KE1.out.apart HK4.out.2 (by simp only [List.mem_singleton]; omega); exact ⟨h.cell 0 _ rfl, h.cell 1 _ rfl, h.cell 2 _ rfl, h.cell 3 _ rfl⟩)
  clear hK K
  try simp only [Act.put, sqp]
  refine sqt 12 ?_
  try simp only [Act.put, sqp]
  refine wpAnyH_done (by kernel_rfl) ?_ _
  have hba := HB1.out.trans HK4.out.2 (fun x hx => .inl hx)
  go_wp2
  go_ret
  exact ⟨⟨t, ⟨a3, ql, c3⟩, u, ro, so, g⟩, rb, p, L, rfl, ⟨HK4.out.1, H.out.rope.apart H.out.blk rfl hba, ⟨(RM1.out.wide down1).apart HK4.out.2, (RS1.out.u.wide down1).apart HK4.out.2, (RS1.out.r.wide down1).apart HK4.out.2, (RS1.out.g.wide down1).apart HK4.out.2⟩, HM3.out.1, HM3.out.2, inv_marks H.out.inv HRI.out⟩, rfl, hba⟩
end Go.Proofs.YtfiobemeogaaiaaGreat
namespace Go.Proofs.YtfiobemeogaaiaaGreat
open Lib (hid)
open Go.RowKit
set_option linter.unusedVariables false
set_option linter.unusedSimpArgs false
def edtD (s : StaD) (x : Int) (eo en : ByteArray) : StaD × Int := if 512 < eo.size + en.size then (s, 6) else if eo.size + en.size = 0 then (s, 0) else editD s ⟨x, eo, en⟩
theorem ed_edit_any {w : World} {b : Nat} {s : Sta} {rb : Nat} {p : Option Addr} {L : List ByteArray} (h : IsEd w b s rb p L) (x : Int) (eo en : ByteArray) (ho : eo.size ≤ 4294967296) (hn : en.size ≤ 4294967296) {t' : ByteArray} {rb' : Nat} {p' : Option Addr} {L' : List ByteArray} (hap : appE s.t x eo en = (t', 0)) (hr : RopeW w (some ⟨rb', 0, none⟩) p' L' t') :
    Calls Tryz.prog 99 #[.pointer (some ⟨b, 0, none⟩), .pointer (some ⟨rb', 0, none⟩), edV x eo en] w (RetEd w b (edtD s.d x eo en)) := by
  obtain ⟨t, m, u, ro, so, g⟩ := s
  unfold edtD
  by_cases h1 : 512 < eo.size + en.size
  · rw [if_pos h1]; exact ed_edit_long h _ x eo en ho hn h1
  rw [if_neg h1]
  by_cases h2 : eo.size + en.size = 0
  · rw [if_pos h2]; exact ed_edit_none h _ x eo en ho hn h2
  rw [if_neg h2]
  cases so with
  | true =>
    by_cases h3 : 32 ≤ g.l.length
    · have e : editD (Sta.d ⟨t, m, u, ro, true, g⟩) ⟨x, eo, en⟩ = (Sta.d ⟨t, m, u, ro, true, g⟩, 9) := by unfold editD; rw [if_pos ⟨rfl, h3⟩]
      rw [e]
      exact ed_edit_many h _ x eo en ho hn (by omega) (by omega) h3
    · exact ed_edit_open h x eo en ho hn (by omega) (by omega) hap hr (by omega)
  | false => exact ed_edit_closed h x eo en ho hn (by omega) (by omega) hap hr
theorem edtD_ins {s : StaD} {i : Int} {x : ByteArray} (h : insE s.t i x = 0) : edtD s i ⟨#[]⟩ x = insD s i x := by
  unfold edtD insD insX
  rw [if_neg (show ¬ insE s.t i x ≠ 0 from fun g => g h), show (⟨#[]⟩ : ByteArray).size = 0 from rfl, Nat.zero_add]
theorem edtD_del {s : StaD} {i n : Int} (h : delE s.t i n = 0) (hn : ((delX s.t i n).o.size : Int) = n) : edtD s i (delX s.t i n).o ⟨#[]⟩ = delD s i n := by
  unfold edtD delD
  rw [if_neg (show ¬ delE s.t i n ≠ 0 from fun g => g h), show (⟨#[]⟩ : ByteArray).size = 0 from rfl, Nat.add_zero]
  by_cases h1 : 512 < (delX s.t i n).o.size
  · rw [if_pos h1, if_pos (show (512 : Int) < n by omega)]
  rw [if_neg h1, if_neg (show ¬ (512 : Int) < n by omega)]
  by_cases h2 : (delX s.t i n).o.size = 0
  · rw [if_pos h2, if_pos (show n = 0 by omega)]
  rw [if_neg h2, if_neg (show ¬ n = 0 by omega)]
  rfl
set_option maxRecDepth 100000 in
set_option maxHeartbeats 1600000 in
theorem ed_insert_no {w : World} {b : Nat} {t : ByteArray} {m : KPc} {u ro : SPc} {so : Bool} {g : EPc} {rb : Nat} {p : Option Addr} {L : List ByteArray} (h : IsEd w b ⟨t, m, u, ro, so, g⟩ rb p L) (k i n : Int) (x : ByteArray) (hx : x.size ≤ 1000000) (hi : i64P i) (h1 : insE t i x ≠ 0) : Calls Tryz.prog 60 #[.pointer (some ⟨b, 0, none⟩), (.agg #[.int .i64 k, .int .i64 i, .int .i64 n, .string x])] w (RetEd w b ((Sta.d ⟨t, m, u, ro, so, g⟩), insE t i x)) := by
  have hbl : b < w.heap.size := h.lt
  obtain ⟨wX, hwX, kE, hb0, hz⟩ := box1 w #[.int .i64 k, .int .i64 i, .int .i64 n, .string x] 36
  have KO0 := hid (show Blk wX b #[.bool true, .pointer (some ⟨rb, 0, none⟩), .string ⟨#[]⟩, .slice m.a m.l.length m.c, .slice u.a u.l.length u.c, .slice ro.a ro.l.length ro.c, .bool so, .slice g.a g.l.length g.c] 54 from h.blk.onto hb0)
  have KE0 := hid (kE)
  have RS0 := hid ((h.rows.wide (S' := [b, w.heap.size]) (fun i hi => by simp only [List.mem_cons, List.not_mem_nil, or_false] at hi; rcases hi with rfl | rfl; exact .inl (by simp); exact .inr (Nat.le_refl _))).later hb0)
  have HB0 := hid ((Apart.of_below hb0 : Apart [b] w wX))
  have HG0 := hid (Nat.le_refl wX.heap.size)
  have hlt2 : ∀ W : World, wX.heap.size ≤ W.heap.size → ∀ i ∈ [b, w.heap.size], i < W.heap.size := fun W h i hi => by simp only [List.mem_cons, List.not_mem_nil, or_false] at hi; rcases hi with rfl | rfl <;> omega
  have HLT := hid hlt2; have H := hid h; have HB := hid hb0
  clear hlt2 kE
  obtain ⟨zO0_0, zO0_1, zO0_2, zO0_3, zO0_4, zO0_5, zO0_6, zO0_7, fO0_0, fO0_1, fO0_2, fO0_3, fO0_4, fO0_5, fO0_6, fO0_7⟩ := KO0.out.all8
  obtain ⟨zE0_0, zE0_1, zE0_2, zE0_3, fE0_0, fE0_1, fE0_2, fE0_3⟩ := KE0.out.all4
  have hfs : ∀ W, Below wX.heap.size wX W → W.cell? ⟨b, 1, none⟩ = some (.pointer (some ⟨rb, 0, none⟩)) ∧ W.cell? ⟨w.heap.size, 0, none⟩ = some (.int .i64 k) ∧ W.cell? ⟨w.heap.size, 1, none⟩ = some (.int .i64 i) ∧ W.cell? ⟨w.heap.size, 2, none⟩ = some (.int .i64 n) ∧ W.cell? ⟨w.heap.size, 3, none⟩ = some (.string x) := fun W h => ⟨(KO0.out.onto h).cell 1 _ rfl, (KE0.out.onto h).cell 0 _ rfl, (KE0.out.onto h).cell 1 _ rfl, (KE0.out.onto h).cell 2 _ rfl, (KE0.out.onto h).cell 3 _ rfl⟩
  have FS := hid hfs
  clear hfs
  have cs := fun W (hW : Below wX.heap.size wX W) => (ro_ins (x := x) (i := i) ((h.rope.later hb0).later hW) (show t.size ≤ 4096 from h.inv.z) (by unfold maxLen; omega) hi).mono fun e w' h => h.no h1
  have h1e : (insE t i x == 0) = false := beq_eq_false_iff_ne.2 h1
  obtain ⟨E, hE⟩ : ∃ E, insE t i x = E := ⟨_, rfl⟩
  rw [hE] at cs h1e ⊢
  have CS := hid cs
  clear cs h hb0 hz h1 hi hx hE
  go_enter Tryz.func60, Tryz.ntmps60
  go_wp2_with fail
  clear zO0_0 zO0_1 zO0_2 zO0_3 zO0_4 zO0_5 zO0_6 zO0_7 fO0_0 fO0_1 fO0_2 fO0_3 fO0_4 fO0_5 fO0_6 fO0_7 zE0_0 zE0_1 zE0_2 zE0_3 fE0_0 fE0_1 fE0_2 fE0_3
  clear hwX
  refine wp_region_held_drew (S := (fun W : World => W.cell? ⟨b, 1, none⟩ = some (.pointer (some ⟨rb, 0, none⟩)) ∧ W.cell? ⟨w.heap.size, 0, none⟩ = some (.int .i64 k) ∧ W.cell? ⟨w.heap.size, 1, none⟩ = some (.int .i64 i) ∧ W.cell? ⟨w.heap.size, 2, none⟩ = some (.int .i64 n) ∧ W.cell? ⟨w.heap.size, 3, none⟩ = some (.string x))) (by kernel_rfl) (FS.out _ (Below.refl _ _).drew) (fun hHeld => ?_)
  refine sqt 0 ?_
  try simp only [Act.put, sqp]
  refine sqt 1 ?_
  try simp only [Act.put, sqp]
  refine sqt 2 ?_
  try simp only [Act.put, sqp]
  refine sqt 3 ?_
  try simp only [Act.put, sqp]
  refine sqt 4 ?_
  try simp only [Act.put, sqp]
  refine sqt 5 ?_
  try simp only [Act.put, sqp]
  refine sqt 6 ?_
  try simp only [Act.put, sqp]
  refine sqt 7 ?_
  try simp only [Act.put, sqp]
  refine wpAnyH_ready (rs := [8]) (by kernel_rfl) (by simp) ?_
  refine AllReadyH.cons (by simp only [sqg]; rfl) (fun K hK => ?_) AllReadyH.nil
  go_simp
  (go_at_call 91; refine (CS.out _ (Below.refl _ _).drew).mono ?_; rintro e w1 ⟨rfl, hb1⟩; have hb1' : Below wX.heap.size wX w1 := (Below.refl _ _).drew.trans hb1)
  try go_wp2_with fail
  refine hK.out _ _ ?_ (fun hHeld => ?_)
  · exact FS.out _ hb1'
  clear hK K
  try simp only [Act.put, sqp]
  refine sqt 9 ?_
  try simp only [Act.put, sqp]
  refine sqt 10 ?_
  try simp only [Act.put, sqp]
  refine sqt 11 ?_
  try simp only [Act.put, sqp]
  refine sqt 12 ?_
  try simp only [Act.put, sqp]
  refine sqt 13 ?_
  try simp only [Act.put, sqp]
  refine wpAnyH_done (by kernel_rfl) ?_ _
  have KO1 := hid (KO0.out.onto hb1')
  have KE1 := hid (KE0.out.onto hb1')
  have RS1 := hid (RS0.out.later hb1')
  have HB1 := hid (HB0.out.trans (S' := []) (.of_below hb1') (by simp))
  have HG1 := hid (Nat.le_trans HG0.out hb1'.size)
  have HW1 := hid hb1'
  clear hb1 hb1' CS
  obtain ⟨zO1_0, zO1_1, zO1_2, zO1_3, zO1_4, zO1_5, zO1_6, zO1_7, fO1_0, fO1_1, fO1_2, fO1_3, fO1_4, fO1_5, fO1_6, fO1_7⟩ := KO1.out.all8
  obtain ⟨zE1_0, zE1_1, zE1_2, zE1_3, fE1_0, fE1_1, fE1_2, fE1_3⟩ := KE1.out.all4
  go_wp2
  go_ret
  exact ⟨⟨t, m, u, ro, so, g⟩, rb, p, L, rfl, ⟨KO1.out, H.out.rope.apart H.out.blk rfl HB1.out, RS1.out.wide down1, H.out.ml, H.out.mc, H.out.inv⟩, rfl, HB1.out⟩
set_option maxRecDepth 100000 in
set_option maxHeartbeats 1600000 in
theorem ed_insert_yes {w : World} {b : Nat} {t : ByteArray} {m : KPc} {u ro : SPc} {so : Bool} {g : EPc} {rb : Nat} {p : Option Addr} {L : List ByteArray} (h : IsEd w b ⟨t, m, u, ro, so, g⟩ rb p L) (k i n : Int) (x : ByteArray) (hx : x.size ≤ 1000000) (hi : i64P i) (h1 : insE t i x = 0) : Calls Tryz.prog 60 #[.pointer (some ⟨b, 0, none⟩), (.agg #[.int .i64 k, .int .i64 i, .int .i64 n, .string x])] w (RetEd w b (insD (Sta.d ⟨t, m, u, ro, so, g⟩) i x)) := by
  have hbl : b < w.heap.size := h.lt
  obtain ⟨wX, hwX, kE, hb0, hz⟩ := box1 w #[.int .i64 k, .int .i64 i, .int .i64 n, .string x] 36
  have KO0 := hid (show Blk wX b #[.bool true, .pointer (some ⟨rb, 0, none⟩), .string ⟨#[]⟩, .slice m.a m.l.length m.c, .slice u.a u.l.length u.c, .slice ro.a ro.l.length ro.c, .bool so, .slice g.a g.l.length g.c] 54 from h.blk.onto hb0)
  have KE0 := hid (kE)
  have RS0 := hid ((h.rows.wide (S' := [b, w.heap.size]) (fun i hi => by simp only [List.mem_cons, List.not_mem_nil, or_false] at hi; rcases hi with rfl | rfl; exact .inl (by simp); exact .inr (Nat.le_refl _))).later hb0)
  have HB0 := hid ((Apart.of_below hb0 : Apart [b] w wX))
  have HG0 := hid (Nat.le_refl wX.heap.size)
  have hlt2 : ∀ W : World, wX.heap.size ≤ W.heap.size → ∀ i ∈ [b, w.heap.size], i < W.heap.size := fun W h i hi => by simp only [List.mem_cons, List.not_mem_nil, or_false] at hi; rcases hi with rfl | rfl <;> omega
  have HLT := hid hlt2; have H := hid h; have HB := hid hb0
  clear hlt2 kE
  obtain ⟨zO0_0, zO0_1, zO0_2, zO0_3, zO0_4, zO0_5, zO0_6, zO0_7, fO0_0, fO0_1, fO0_2, fO0_3, fO0_4, fO0_5, fO0_6, fO0_7⟩ := KO0.out.all8
  obtain ⟨zE0_0, zE0_1, zE0_2, zE0_3, fE0_0, fE0_1, fE0_2, fE0_3⟩ := KE0.out.all4
  have hfs : ∀ W, Below wX.heap.size wX W → W.cell? ⟨b, 1, none⟩ = some (.pointer (some ⟨rb, 0, none⟩)) ∧ W.cell? ⟨w.heap.size, 0, none⟩ = some (.int .i64 k) ∧ W.cell? ⟨w.heap.size, 1, none⟩ = some (.int .i64 i) ∧ W.cell? ⟨w.heap.size, 2, none⟩ = some (.int .i64 n) ∧ W.cell? ⟨w.heap.size, 3, none⟩ = some (.string x) := fun W h => ⟨(KO0.out.onto h).cell 1 _ rfl, (KE0.out.onto h).cell 0 _ rfl, (KE0.out.onto h).cell 1 _ rfl, (KE0.out.onto h).cell 2 _ rfl, (KE0.out.onto h).cell 3 _ rfl⟩
  have FS := hid hfs
  clear hfs
  have cs := fun W (hW : Below wX.heap.size wX W) => (ro_ins (x := x) (i := i) ((h.rope.later hb0).later hW) (show t.size ≤ 4096 from h.inv.z) (by unfold maxLen; omega) hi).mono fun e w' h => h.yes h1
  have ce := fun W (hW : Below wX.heap.size wX W) {rb' : Nat} {p' : Option Addr} {L' : List ByteArray} (hR : RopeW W (some ⟨rb', 0, none⟩) p' L' (insS t i x)) => ed_edit_any ((h.later hb0).later hW) i ⟨#[]⟩ x (Nat.zero_le _) (by omega) (ins_app h1) hR
  rw [edtD_ins (s := Sta.d ⟨t, m, u, ro, so, g⟩) h1] at ce
  obtain ⟨R, hR⟩ : ∃ R, insD (Sta.d ⟨t, m, u, ro, so, g⟩) i x = R := ⟨_, rfl⟩
  rw [hR] at ce ⊢
  obtain ⟨Rs, Re⟩ := R
  have CE := hid ce
  clear ce hR
  have CS := hid cs
  clear cs h hb0 hz h1 hi hx
  go_enter Tryz.func60, Tryz.ntmps60
  go_wp2_with fail
  clear zO0_0 zO0_1 zO0_2 zO0_3 zO0_4 zO0_5 zO0_6 zO0_7 fO0_0 fO0_1 fO0_2 fO0_3 fO0_4 fO0_5 fO0_6 fO0_7 zE0_0 zE0_1 zE0_2 zE0_3 fE0_0 fE0_1 fE0_2 fE0_3
  clear hwX
  refine wp_region_held_drew (S := (fun W : World => W.cell? ⟨b, 1, none⟩ = some (.pointer (some ⟨rb, 0, none⟩)) ∧ W.cell? ⟨w.heap.size, 0, none⟩ = some (.int .i64 k) ∧ W.cell? ⟨w.heap.size, 1, none⟩ = some (.int .i64 i) ∧ W.cell? ⟨w.heap.size, 2, none⟩ = some (.int .i64 n) ∧ W.cell? ⟨w.heap.size, 3, none⟩ = some (.string x))) (by kernel_rfl) (FS.out _ (Below.refl _ _).drew) (fun hHeld => ?_)
  refine sqt 0 ?_
  try simp only [Act.put, sqp]
  refine sqt 1 ?_
  try simp only [Act.put, sqp]
  refine sqt 2 ?_
  try simp only [Act.put, sqp]
  refine sqt 3 ?_
  try simp only [Act.put, sqp]
  refine sqt 4 ?_
  try simp only [Act.put, sqp]
  refine sqt 5 ?_
  try simp only [Act.put, sqp]
  refine sqt 6 ?_
  try simp only [Act.put, sqp]
  refine sqt 7 ?_
  try simp only [Act.put, sqp]
  refine wpAnyH_ready (rs := [8]) (by kernel_rfl) (by simp) ?_
  refine AllReadyH.cons (by simp only [sqg]; rfl) (fun K hK => ?_) AllReadyH.nil
  go_simp
  (go_at_call 91; refine (CS.out _ (Below.refl _ _).drew).mono ?_; rintro e w1 ⟨rb', p', L', rfl, hR1, hb1⟩; have hb1' : Below wX.heap.size wX w1 := (Below.refl _ _).drew.trans hb1)
  try go_wp2_with fail
  refine hK.out _ _ ?_ (fun hHeld => ?_)
  · exact FS.out _ hb1'
  clear hK K
  try simp only [Act.put, sqp]
  refine sqt 9 ?_
  try simp only [Act.put, sqp]
  refine sqt 10 ?_
  try simp only [Act.put, sqp]
  refine sqt 11 ?_
  try simp only [Act.put, sqp]
  refine sqt 12 ?_
  try simp only [Act.put, sqp]
  refine sqt 13 ?_
  try simp only [Act.put, sqp]
  refine wpAnyH_done (by kernel_rfl) ?_ _
  have KO1 := hid (KO0.out.onto hb1')
  have KE1 := hid (KE0.out.onto hb1')
  have RS1 := hid (RS0.out.later hb1')
  have HB1 := hid (HB0.out.trans (S' := []) (.of_below hb1') (by simp))
  have HG1 := hid (Nat.le_trans HG0.out hb1'.size)
  have HW1 := hid hb1'
  clear hb1 hb1' CS
  have HR1 := hid hR1
  clear hR1
  obtain ⟨zO1_0, zO1_1, zO1_2, zO1_3, zO1_4, zO1_5, zO1_6, zO1_7, fO1_0, fO1_1, fO1_2, fO1_3, fO1_4, fO1_5, fO1_6, fO1_7⟩ := KO1.out.all8
  obtain ⟨zE1_0, zE1_1, zE1_2, zE1_3, fE1_0, fE1_1, fE1_2, fE1_3⟩ := KE1.out.all4
  go_wp2_with fail
  refine (CE.out _ HW1.out HR1.out).mono ?_; rintro e w2 ⟨s2, rb2, p2, L2, rfl, hi2, hd2, ha2⟩
  have HQ := hid (And.intro hi2 (And.intro hd2 ha2))
  clear hi2 hd2 ha2
  clear zO1_0 zO1_1 zO1_2 zO1_3 zO1_4 zO1_5 zO1_6 zO1_7 fO1_0 fO1_1 fO1_2 fO1_3 fO1_4 fO1_5 fO1_6 fO1_7 zE1_0 zE1_1 zE1_2 zE1_3 fE1_0 fE1_1 fE1_2 fE1_3
  go_wp2
  go_ret
  exact ⟨s2, rb2, p2, L2, rfl, HQ.out.1, HQ.out.2.1, HB1.out.trans HQ.out.2.2 (fun x hx => .inl hx)⟩
set_option maxRecDepth 100000 in
set_option maxHeartbeats 1600000 in
theorem ed_remove_no {w : World} {b : Nat} {t : ByteArray} {m : KPc} {u ro : SPc} {so : Bool} {g : EPc} {rb : Nat} {p : Option Addr} {L : List ByteArray} (h : IsEd w b ⟨t, m, u, ro, so, g⟩ rb p L) (k i n : Int) (x : ByteArray) (hi : i64P i) (h1 : delE t i n ≠ 0) : Calls Tryz.prog 61 #[.pointer (some ⟨b, 0, none⟩), (.agg #[.int .i64 k, .int .i64 i, .int .i64 n, .string x])] w (RetEd w b ((Sta.d ⟨t, m, u, ro, so, g⟩), delE t i n)) := by
  have hbl : b < w.heap.size := h.lt
  obtain ⟨wX, hwX, kE, hb0, hz⟩ := box1 w #[.int .i64 k, .int .i64 i, .int .i64 n, .string x] 36
  have KO0 := hid (show Blk wX b #[.bool true, .pointer (some ⟨rb, 0, none⟩), .string ⟨#[]⟩, .slice m.a m.l.length m.c, .slice u.a u.l.length u.c, .slice ro.a ro.l.length ro.c, .bool so, .slice g.a g.l.length g.c] 54 from h.blk.onto hb0)
  have KE0 := hid (kE)
  have RS0 := hid ((h.rows.wide (S' := [b, w.heap.size]) (fun i hi => by simp only [List.mem_cons, List.not_mem_nil, or_false] at hi; rcases hi with rfl | rfl; exact .inl (by simp); exact .inr (Nat.le_refl _))).later hb0)
  have HB0 := hid ((Apart.of_below hb0 : Apart [b] w wX))
  have HG0 := hid (Nat.le_refl wX.heap.size)
  have hlt2 : ∀ W : World, wX.heap.size ≤ W.heap.size → ∀ i ∈ [b, w.heap.size], i < W.heap.size := fun W h i hi => by simp only [List.mem_cons, List.not_mem_nil, or_false] at hi; rcases hi with rfl | rfl <;> omega
  have HLT := hid hlt2; have H := hid h; have HB := hid hb0
  clear hlt2 kE
  obtain ⟨zO0_0, zO0_1, zO0_2, zO0_3, zO0_4, zO0_5, zO0_6, zO0_7, fO0_0, fO0_1, fO0_2, fO0_3, fO0_4, fO0_5, fO0_6, fO0_7⟩ := KO0.out.all8
  obtain ⟨zE0_0, zE0_1, zE0_2, zE0_3, fE0_0, fE0_1, fE0_2, fE0_3⟩ := KE0.out.all4
  have hfs : ∀ W, Below wX.heap.size wX W → W.cell? ⟨b, 1, none⟩ = some (.pointer (some ⟨rb, 0, none⟩)) ∧ W.cell? ⟨w.heap.size, 0, none⟩ = some (.int .i64 k) ∧ W.cell? ⟨w.heap.size, 1, none⟩ = some (.int .i64 i) ∧ W.cell? ⟨w.heap.size, 2, none⟩ = some (.int .i64 n) ∧ W.cell? ⟨w.heap.size, 3, none⟩ = some (.string x) := fun W h => ⟨(KO0.out.onto h).cell 1 _ rfl, (KE0.out.onto h).cell 0 _ rfl, (KE0.out.onto h).cell 1 _ rfl, (KE0.out.onto h).cell 2 _ rfl, (KE0.out.onto h).cell 3 _ rfl⟩
  have FS := hid hfs
  clear hfs
  have cs := fun W (hW : Below wX.heap.size wX W) => (ro_del (n := n) (i := i) ((h.rope.later hb0).later hW) (show t.size ≤ 4096 from h.inv.z) hi).mono fun e w' h => h.no h1
  have h1e : (delE t i n == 0) = false := beq_eq_false_iff_ne.2 h1
  obtain ⟨E, hE⟩ : ∃ E, delE t i n = E := ⟨_, rfl⟩
  rw [hE] at cs h1e ⊢
  have CS := hid cs
  clear cs h hb0 hz h1 hi hE
  go_enter Tryz.func61, Tryz.ntmps61
  go_wp2_with fail
  clear zO0_0 zO0_1 zO0_2 zO0_3 zO0_4 zO0_5 zO0_6 zO0_7 fO0_0 fO0_1 fO0_2 fO0_3 fO0_4 fO0_5 fO0_6 fO0_7 zE0_0 zE0_1 zE0_2 zE0_3 fE0_0 fE0_1 fE0_2 fE0_3
  clear hwX
  refine wp_region_held_drew (S := (fun W : World => W.cell? ⟨b, 1, none⟩ = some (.pointer (some ⟨rb, 0, none⟩)) ∧ W.cell? ⟨w.heap.size, 0, none⟩ = some (.int .i64 k) ∧ W.cell? ⟨w.heap.size, 1, none⟩ = some (.int .i64 i) ∧ W.cell? ⟨w.heap.size, 2, none⟩ = some (.int .i64 n) ∧ W.cell? ⟨w.heap.size, 3, none⟩ = some (.string x))) (by kernel_rfl) (FS.out _ (Below.refl _ _).drew) (fun hHeld => ?_)
  refine sqt 0 ?_
  try simp only [Act.put, sqp]
  refine sqt 1 ?_
  try simp only [Act.put, sqp]
  refine sqt 2 ?_
  try simp only [Act.put, sqp]
  refine sqt 3 ?_
  try simp only [Act.put, sqp]
  refine sqt 4 ?_
  try simp only [Act.put, sqp]
  refine sqt 5 ?_
  try simp only [Act.put, sqp]
  refine sqt 6 ?_
  try simp only [Act.put, sqp]
  refine sqt 7 ?_
  try simp only [Act.put, sqp]
  refine wpAnyH_ready (rs := [8]) (by kernel_rfl) (by simp) ?_
  refine AllReadyH.cons (by simp only [sqg]; rfl) (fun K hK => ?_) AllReadyH.nil
  go_simp
  (go_at_call 100; refine (CS.out _ (Below.refl _ _).drew).mono ?_; rintro e w1 ⟨rfl, hb1⟩; have hb1' : Below wX.heap.size wX w1 := (Below.refl _ _).drew.trans hb1)
  try go_wp2_with fail
  refine hK.out _ _ ?_ (fun hHeld => ?_)
  · exact FS.out _ hb1'
  clear hK K
  try simp only [Act.put, sqp]
  refine sqt 9 ?_
  try simp only [Act.put, sqp]
  refine sqt 10 ?_
  try simp only [Act.put, sqp]
  refine sqt 11 ?_
  try simp only [Act.put, sqp]
  refine sqt 12 ?_
  try simp only [Act.put, sqp]
  refine sqt 13 ?_
  try simp only [Act.put, sqp]
  refine wpAnyH_done (by kernel_rfl) ?_ _
  have KO1 := hid (KO0.out.onto hb1')
  have KE1 := hid (KE0.out.onto hb1')
  have RS1 := hid (RS0.out.later hb1')
  have HB1 := hid (HB0.out.trans (S' := []) (.of_below hb1') (by simp))
  have HG1 := hid (Nat.le_trans HG0.out hb1'.size)
  have HW1 := hid hb1'
  clear hb1 hb1' CS
  obtain ⟨zO1_0, zO1_1, zO1_2, zO1_3, zO1_4, zO1_5, zO1_6, zO1_7, fO1_0, fO1_1, fO1_2, fO1_3, fO1_4, fO1_5, fO1_6, fO1_7⟩ := KO1.out.all8
  obtain ⟨zE1_0, zE1_1, zE1_2, zE1_3, fE1_0, fE1_1, fE1_2, fE1_3⟩ := KE1.out.all4
  go_wp2
  go_ret
  exact ⟨⟨t, m, u, ro, so, g⟩, rb, p, L, rfl, ⟨KO1.out, H.out.rope.apart H.out.blk rfl HB1.out, RS1.out.wide down1, H.out.ml, H.out.mc, H.out.inv⟩, rfl, HB1.out⟩
set_option maxRecDepth 100000 in
set_option maxHeartbeats 1600000 in
theorem ed_remove_yes {w : World} {b : Nat} {t : ByteArray} {m : KPc} {u ro : SPc} {so : Bool} {g : EPc} {rb : Nat} {p : Option Addr} {L : List ByteArray} (h : IsEd w b ⟨t, m, u, ro, so, g⟩ rb p L) (k i n : Int) (x : ByteArray) (hi : i64P i) (h1 : delE t i n = 0) : Calls Tryz.prog 61 #[.pointer (some ⟨b, 0, none⟩), (.agg #[.int .i64 k, .int .i64 i, .int .i64 n, .string x])] w (RetEd w b (delD (Sta.d ⟨t, m, u, ro, so, g⟩) i n)) := by
  have hbl : b < w.heap.size := h.lt
  obtain ⟨wX, hwX, kE, hb0, hz⟩ := box1 w #[.int .i64 k, .int .i64 i, .int .i64 n, .string x] 36
  have KO0 := hid (show Blk wX b #[.bool true, .pointer (some ⟨rb, 0, none⟩), .string ⟨#[]⟩, .slice m.a m.l.length m.c, .slice u.a u.l.length u.c, .slice ro.a ro.l.length ro.c, .bool so, .slice g.a g.l.length g.c] 54 from h.blk.onto hb0)
  have KE0 := hid (kE)
  have RS0 := hid ((h.rows.wide (S' := [b, w.heap.size]) (fun i hi => by simp only [List.mem_cons, List.not_mem_nil, or_false] at hi; rcases hi with rfl | rfl; exact .inl (by simp); exact .inr (Nat.le_refl _))).later hb0)
  have HB0 := hid ((Apart.of_below hb0 : Apart [b] w wX))
  have HG0 := hid (Nat.le_refl wX.heap.size)
  have hlt2 : ∀ W : World, wX.heap.size ≤ W.heap.size → ∀ i ∈ [b, w.heap.size], i < W.heap.size := fun W h i hi => by simp only [List.mem_cons, List.not_mem_nil, or_false] at hi; rcases hi with rfl | rfl <;> omega
  have HLT := hid hlt2; have H := hid h; have HB := hid hb0
  clear hlt2 kE
  obtain ⟨zO0_0, zO0_1, zO0_2, zO0_3, zO0_4, zO0_5, zO0_6, zO0_7, fO0_0, fO0_1, fO0_2, fO0_3, fO0_4, fO0_5, fO0_6, fO0_7⟩ := KO0.out.all8
  obtain ⟨zE0_0, zE0_1, zE0_2, zE0_3, fE0_0, fE0_1, fE0_2, fE0_3⟩ := KE0.out.all4
  have hfs : ∀ W, Below wX.heap.size wX W → W.cell? ⟨b, 1, none⟩ = some (.pointer (some ⟨rb, 0, none⟩)) ∧ W.cell? ⟨w.heap.size, 0, none⟩ = some (.int .i64 k) ∧ W.cell? ⟨w.heap.size, 1, none⟩ = some (.int .i64 i) ∧ W.cell? ⟨w.heap.size, 2, none⟩ = some (.int .i64 n) ∧ W.cell? ⟨w.heap.size, 3, none⟩ = some (.string x) := fun W h => ⟨(KO0.out.onto h).cell 1 _ rfl, (KE0.out.onto h).cell 0 _ rfl, (KE0.out.onto h).cell 1 _ rfl, (KE0.out.onto h).cell 2 _ rfl, (KE0.out.onto h).cell 3 _ rfl⟩
  have FS := hid hfs
  clear hfs
  have cs := fun W (hW : Below wX.heap.size wX W) => (ro_del (n := n) (i := i) ((h.rope.later hb0).later hW) (show t.size ≤ 4096 from h.inv.z) hi).mono fun e w' h => h.yes h1
  obtain ⟨da, dz⟩ := del_app (i := i) (n := n) h.inv.v h.inv.z h1
  have hst := stand_iff.1 (delE_zero h1).1
  obtain ⟨i', rfl⟩ := Int.eq_ofNat_of_zero_le hst.1
  obtain ⟨n', rfl⟩ := Int.eq_ofNat_of_zero_le hst.2.1
  have hle : i' + n' ≤ t.size := by omega
  have hdx : (delX (Sta.d ⟨t, m, u, ro, so, g⟩).t (i' : Int) (n' : Int)).o = t.extract i' (i' + n') := by show t.extract _ _ = _; congr 1
  have c2 := fun W (hW : Below wX.heap.size wX W) => ro_slice ((h.rope.later hb0).later hW) hle
  have ce := fun W (hW : Below wX.heap.size wX W) {rb' : Nat} {p' : Option Addr} {L' : List ByteArray} (hR : RopeW W (some ⟨rb', 0, none⟩) p' L' (delS t i' n')) => ed_edit_any ((h.later hb0).later hW) i' (delX (Sta.d ⟨t, m, u, ro, so, g⟩).t i' n').o ⟨#[]⟩ (by have := h.inv.z; replace this : t.size ≤ 4096 := this; omega) (Nat.zero_le _) da hR
  rw [edtD_del (s := Sta.d ⟨t, m, u, ro, so, g⟩) h1 dz, hdx] at ce
  obtain ⟨R, hR⟩ : ∃ R, delD (Sta.d ⟨t, m, u, ro, so, g⟩) (i' : Int) (n' : Int) = R := ⟨_, rfl⟩
  rw [hR] at ce ⊢
  obtain ⟨Rs, Re⟩ := R
  obtain ⟨old, hold⟩ : ∃ old, t.extract i' (i' + n') = old := ⟨_, rfl⟩
  rw [hold] at ce c2
  have CE := hid ce
  have C2 := hid c2
  clear ce c2 hR hdx da dz hst hle hold
  have CS := hid cs
  clear cs h hb0 hz h1 hi
  go_enter Tryz.func61, Tryz.ntmps61
  go_wp2_with fail
  clear zO0_0 zO0_1 zO0_2 zO0_3 zO0_4 zO0_5 zO0_6 zO0_7 fO0_0 fO0_1 fO0_2 fO0_3 fO0_4 fO0_5 fO0_6 fO0_7 zE0_0 zE0_1 zE0_2 zE0_3 fE0_0 fE0_1 fE0_2 fE0_3
  clear hwX
  refine wp_region_held_drew (S := (fun W : World => W.cell? ⟨b, 1, none⟩ = some (.pointer (some ⟨rb, 0, none⟩)) ∧ W.cell? ⟨w.heap.size, 0, none⟩ = some (.int .i64 k) ∧ W.cell? ⟨w.heap.size, 1, none⟩ = some (.int .i64 (i' : Int)) ∧ W.cell? ⟨w.heap.size, 2, none⟩ = some (.int .i64 (n' : Int)) ∧ W.cell? ⟨w.heap.size, 3, none⟩ = some (.string x))) (by kernel_rfl) (FS.out _ (Below.refl _ _).drew) (fun hHeld => ?_)
  refine sqt 0 ?_
  try simp only [Act.put, sqp]
  refine sqt 1 ?_
  try simp only [Act.put, sqp]
  refine sqt 2 ?_
  try simp only [Act.put, sqp]
  refine sqt 3 ?_
  try simp only [Act.put, sqp]
  refine sqt 4 ?_
  try simp only [Act.put, sqp]
  refine sqt 5 ?_
  try simp only [Act.put, sqp]
  refine sqt 6 ?_
  try simp only [Act.put, sqp]
  refine sqt 7 ?_
  try simp only [Act.put, sqp]
  refine wpAnyH_ready (rs := [8]) (by kernel_rfl) (by simp) ?_
  refine AllReadyH.cons (by simp only [sqg]; rfl) (fun K hK => ?_) AllReadyH.nil
  go_simp
  (go_at_call 100; refine (CS.out _ (Below.refl _ _).drew).mono ?_; rintro e w1 ⟨rb', p', L', rfl, hR1, hb1⟩; have hb1' : Below wX.heap.size wX w1 := (Below.refl _ _).drew.trans hb1)
  try go_wp2_with fail
  refine hK.out _ _ ?_ (fun hHeld => ?_)
  · exact FS.out _ hb1'
  clear hK K
  try simp only [Act.put, sqp]
  refine sqt 9 ?_
  try simp only [Act.put, sqp]
  refine sqt 10 ?_
  try simp only [Act.put, sqp]
  refine sqt 11 ?_
  try simp only [Act.put, sqp]
  refine sqt 12 ?_
  try simp only [Act.put, sqp]
  refine sqt 13 ?_
  try simp only [Act.put, sqp]
  refine wpAnyH_done (by kernel_rfl) ?_ _
  have KO1 := hid (KO0.out.onto hb1')
  have KE1 := hid (KE0.out.onto hb1')
  have RS1 := hid (RS0.out.later hb1')
  have HB1 := hid (HB0.out.trans (S' := []) (.of_below hb1') (by simp))
  have HG1 := hid (Nat.le_trans HG0.out hb1'.size)
  have HW1 := hid hb1'
  clear hb1 hb1' CS
  have HR1 := hid hR1
  clear hR1
  obtain ⟨zO1_0, zO1_1, zO1_2, zO1_3, zO1_4, zO1_5, zO1_6, zO1_7, fO1_0, fO1_1, fO1_2, fO1_3, fO1_4, fO1_5, fO1_6, fO1_7⟩ := KO1.out.all8
  obtain ⟨zE1_0, zE1_1, zE1_2, zE1_3, fE1_0, fE1_1, fE1_2, fE1_3⟩ := KE1.out.all4
  go_wp2_with fail
  clear zO1_0 zO1_1 zO1_2 zO1_3 zO1_4 zO1_5 zO1_6 zO1_7 fO1_0 fO1_1 fO1_2 fO1_3 fO1_4 fO1_5 fO1_6 fO1_7 zE1_0 zE1_1 zE1_2 zE1_3 fE1_0 fE1_1 fE1_2 fE1_3
  refine wp_region_held_drew (S := (fun W : World => W.cell? ⟨b, 1, none⟩ = some (.pointer (some ⟨rb, 0, none⟩)) ∧ W.cell? ⟨w.heap.size, 0, none⟩ = some (.int .i64 k) ∧ W.cell? ⟨w.heap.size, 1, none⟩ = some (.int .i64 (i' : Int)) ∧ W.cell? ⟨w.heap.size, 2, none⟩ = some (.int .i64 (n' : Int)) ∧ W.cell? ⟨w.heap.size, 3, none⟩ = some (.string x))) (by kernel_rfl) (FS.out _ HW1.out.drew) (fun hHeld => ?_)
  refine sqt 0 ?_
  try simp only [Act.put, sqp]
  refine sqt 1 ?_
  try simp only [Act.put, sqp]
  refine sqt 2 ?_
  try simp only [Act.put, sqp]
  refine sqt 3 ?_
  try simp only [Act.put, sqp]
  refine sqt 4 ?_
  try simp only [Act.put, sqp]
  refine sqt 5 ?_
  try simp only [Act.put, sqp]
  refine sqt 6 ?_
  try simp only [Act.put, sqp]
  refine sqt 7 ?_
  try simp only [Act.put, sqp]
  refine wpAnyH_ready (rs := [8]) (by kernel_rfl) (by simp) ?_
  refine AllReadyH.cons (by simp only [sqg]; rfl) (fun K hK => ?_) AllReadyH.nil
  go_simp
  (go_at_call 101; refine (C2.out _ HW1.out.drew).mono ?_; rintro e w2 ⟨rfl, hb2⟩; have hb2' : Below w1.heap.size w1 w2 := (Below.refl _ _).drew.trans hb2; have HW2 := hid (HW1.out.trans (hb2'.mono HW1.out.size)))
  try go_wp2_with fail
  refine hK.out _ _ ?_ (fun hHeld => ?_)
  · exact FS.out _ HW2.out
  clear hK K
  try simp only [Act.put, sqp]
  refine sqt 9 ?_
  try simp only [Act.put, sqp]
  refine sqt 10 ?_
  try simp only [Act.put, sqp]
  refine sqt 11 ?_
  try simp only [Act.put, sqp]
  refine sqt 12 ?_
  try simp only [Act.put, sqp]
  refine sqt 13 ?_
  try simp only [Act.put, sqp]
  refine wpAnyH_done (by kernel_rfl) ?_ _
  have KO2 := hid (KO1.out.onto hb2')
  have KE2 := hid (KE1.out.onto hb2')
  have RS2 := hid (RS1.out.later hb2')
  have HB2 := hid (HB1.out.trans (S' := []) (.of_below hb2') (by simp))
  have HG2 := hid (Nat.le_trans HG1.out hb2'.size)
  have HR2 := hid (HR1.out.later hb2')
  clear hb2 hb2' C2 HR1
  obtain ⟨zO2_0, zO2_1, zO2_2, zO2_3, zO2_4, zO2_5, zO2_6, zO2_7, fO2_0, fO2_1, fO2_2, fO2_3, fO2_4, fO2_5, fO2_6, fO2_7⟩ := KO2.out.all8
  obtain ⟨zE2_0, zE2_1, zE2_2, zE2_3, fE2_0, fE2_1, fE2_2, fE2_3⟩ := KE2.out.all4
  go_wp2_with fail
  refine (CE.out _ HW2.out HR2.out).mono ?_; rintro e w3 ⟨s2, rb2, p2, L2, rfl, hi2, hd2, ha2⟩
  have HQ := hid (And.intro hi2 (And.intro hd2 ha2))
  clear hi2 hd2 ha2
  clear zO2_0 zO2_1 zO2_2 zO2_3 zO2_4 zO2_5 zO2_6 zO2_7 fO2_0 fO2_1 fO2_2 fO2_3 fO2_4 fO2_5 fO2_6 fO2_7 zE2_0 zE2_1 zE2_2 zE2_3 fE2_0 fE2_1 fE2_2 fE2_3
  go_wp2
  go_ret
  exact ⟨s2, rb2, p2, L2, rfl, HQ.out.1, HQ.out.2.1, HB2.out.trans HQ.out.2.2 (fun x hx => .inl hx)⟩
end Go.Proofs.YtfiobemeogaaiaaGreat
namespace Go.Proofs.YtfiobemeogaaiaaGreat
open Go.RowKit
set_option linter.unusedVariables false
set_option linter.unusedSimpArgs false
theorem InvS.bare {s : StaD} (h : InvS s) (ho : s.o = false) : s.g = [] := by
  rcases h.go with g | g
  · exact g
  · rw [ho] at g; cases g.1
theorem undo_run {s : StaD} (h : InvS s) (ho : s.o = false) {k : Nat} (hk : s.u.length = k + 1) : ∃ t', runE s.t (invL s.u[k]!) = (t', 0) ∧ vldB t'.data.toList = true ∧ t'.size ≤ 4096 := by
  have hu := h.u
  rw [h.bare ho] at hu
  obtain ⟨hr, -⟩ := goes16_last hk hu
  obtain ⟨t', e, hv, hz, -⟩ := h.runs hr
  exact ⟨t', e, hv, hz⟩
theorem redo_run {s : StaD} (h : InvS s) {k : Nat} (hk : s.r.length = k + 1) : ∃ t', runE s.t s.r[k]! = (t', 0) ∧ vldB t'.data.toList = true ∧ t'.size ≤ 4096 := by
  obtain ⟨hr, -⟩ := goes16_last hk h.r
  obtain ⟨t', e, hv, hz, -⟩ := h.runs (st := s.r[k]!) hr
  exact ⟨t', e, hv, hz⟩
theorem undoD_yes {s : StaD} (ho : s.o = false) {k : Nat} (hk : s.u.length = k + 1) {t' : ByteArray} (hr : runE s.t (invL s.u[k]!) = (t', 0)) : undoD s = (⟨t', shfL s.m (invL s.u[k]!), s.u.take k, pushL s.r s.u[k]!, false, s.g⟩, 0) := by
  unfold undoD
  rw [if_neg (by rw [ho]; decide), if_neg (by omega), show s.u.length - 1 = k by omega, hr, ho]
theorem redoD_yes {s : StaD} (ho : s.o = false) {k : Nat} (hk : s.r.length = k + 1) {t' : ByteArray} (hr : runE s.t s.r[k]! = (t', 0)) : redoD s = (⟨t', shfL s.m s.r[k]!, pushL s.u s.r[k]!, s.r.take k, false, s.g⟩, 0) := by
  unfold redoD
  rw [if_neg (by rw [ho]; decide), if_neg (by omega), show s.r.length - 1 = k by omega, hr, ho]
end Go.Proofs.YtfiobemeogaaiaaGreat
namespace Go.Proofs.YtfiobemeogaaiaaGreat
open Go.RowKit
set_option linter.unusedVariables false
set_option linter.unusedSimpArgs false
def fwdL (t : ByteArray) (Q : List (List Edt)) : ByteArray := Q.foldl (fun t st => (runE t st).1) t
structure MidT (a d : StaD) (Q : List (List Edt)) : Prop where
  inv : InvS d
  o : d.o = false
  r : ∃ P, d.r = P ++ Q.reverse
  u : a.u = d.u ++ Q
  t : fwdL d.t Q = a.t
  n : a.u.length ≤ 16
theorem MidT.start {d : StaD} (h : InvS d) (ho : d.o = false) : MidT d d [] := ⟨h, ho, ⟨d.r, by simp⟩, by simp, rfl, h.ul.1⟩
theorem last_app {U : List (List Edt)} {st : List Edt} : (U ++ [st])[U.length]! = st := by
  rw [getElem!_pos _ _ (by simp)]; simp
theorem push_end {R P Q : List (List Edt)} {st : List Edt} (h : R = P ++ Q) (hq : Q.length < 16) : ∃ P', pushL R st = P' ++ (Q ++ [st]) := by
  refine ⟨P.drop (R.length + 1 - 16), ?_⟩
  subst h
  unfold pushL
  rw [List.append_assoc, List.drop_append_of_le_length]
  rw [List.length_append]
  omega
theorem MidT.undo {a d : StaD} {Q : List (List Edt)} (h : MidT a d Q) (hd : 0 < d.u.length) : (undoD d).2 = 0 ∧ ∃ st, MidT a (undoD d).1 (st :: Q) ∧ d.u.length = (undoD d).1.u.length + 1 := by
  obtain ⟨U, st, hu⟩ : ∃ U st, d.u = U ++ [st] := ⟨d.u.dropLast, d.u.getLast (List.ne_nil_of_length_pos hd), (List.dropLast_concat_getLast _).symm⟩
  have hl : d.u.length = U.length + 1 := by rw [hu]; simp
  have hg : d.g = [] := by
    rcases h.inv.go with e | e
    · exact e
    · have := e.1; rw [h.o] at this; cases this
  have hgo := h.inv.u
  rw [hg, invL_nil, runE_nil] at hgo
  have h1 := (goes16_last hl hgo).1
  have hst : d.u[U.length]! = st := by rw [hu]; exact last_app
  rw [hst] at h1
  obtain ⟨t', r1, -, -, -, r2⟩ := h.inv.runs h1
  rw [invL_inv] at r2
  have hne : ¬ d.u.length = 0 := by omega
  have e : undoD d = (⟨t', shfL d.m (invL st), d.u.take U.length, pushL d.r st, d.o, d.g⟩, 0) := by
    unfold undoD
    rw [if_neg (by rw [h.o]; decide), if_neg hne, show d.u.length - 1 = U.length by omega, hst, r1]
  have ht : d.u.take U.length = U := by rw [hu]; simp
  have hi := inv_undo h.inv
  rw [e] at hi ⊢
  refine ⟨rfl, st, ⟨hi, h.o, ?_, ?_, ?_, h.n⟩, by show d.u.length = (d.u.take U.length).length + 1; rw [ht]; exact hl⟩
  · obtain ⟨P, hP⟩ := h.r
    have hn := h.n
    rw [h.u, List.length_append] at hn
    have := push_end (st := st) hP (by rw [List.length_reverse]; omega)
    rw [List.reverse_cons]
    exact this
  · show a.u = d.u.take U.length ++ st :: Q
    rw [ht, h.u, hu]
    simp
  · show fwdL t' (st :: Q) = a.t
    have : fwdL t' (st :: Q) = fwdL (runE t' st).1 Q := rfl
    rw [this, r2]
    exact h.t
theorem MidT.none {a d : StaD} {Q : List (List Edt)} (h : MidT a d Q) (hd : d.u.length = 0) : undoD d = (d, 10) := by
  unfold undoD
  rw [if_neg (by rw [h.o]; decide), if_pos hd]
theorem MidT.redo {a d : StaD} {q : List Edt} {Q : List (List Edt)} (h : MidT a d (q :: Q)) : (redoD d).2 = 0 ∧ MidT a (redoD d).1 Q ∧ (redoD d).1.u.length = d.u.length + 1 := by
  obtain ⟨P, hP⟩ := h.r
  rw [List.reverse_cons, ← List.append_assoc] at hP
  obtain ⟨R, hR⟩ : ∃ R, P ++ Q.reverse = R := ⟨_, rfl⟩
  rw [hR] at hP
  have hl : d.r.length = R.length + 1 := by rw [hP]; simp
  have hst : d.r[R.length]! = q := by rw [hP]; exact last_app
  have hn := h.n
  rw [h.u, List.length_append, List.length_cons] at hn
  have hp : pushL d.u q = d.u ++ [q] := pushL_few (by omega)
  have e : redoD d = (⟨(runE d.t q).1, shfL d.m q, d.u ++ [q], R, d.o, d.g⟩, 0) := by
    unfold redoD
    rw [if_neg (by rw [h.o]; decide), if_neg (by omega), show d.r.length - 1 = R.length by omega, hst, hp]
    rw [show d.r.take R.length = R by rw [hP]; simp]
  have hi := inv_redo h.inv
  rw [e] at hi ⊢
  refine ⟨rfl, ⟨hi, h.o, ⟨P, hR.symm⟩, ?_, h.t, h.n⟩, by simp⟩
  show a.u = (d.u ++ [q]) ++ Q
  rw [h.u]
  simp
theorem MidT.whole {a d : StaD} (h : MidT a d []) : d.t = a.t ∧ d.u.length = a.u.length := ⟨h.t, by rw [h.u]; simp⟩
theorem end_shut (s : StaD) : (endD s).1.o = false := by
  unfold endD
  cases h : s.o with
  | false => rw [if_pos rfl]; exact h
  | true => rw [if_neg (by decide)]
theorem edit_shut {s : StaD} (x : Edt) (ho : s.o = false) (hx : (appE s.t x.p x.o x.n).2 = 0) (h : InvS s) (hk : okE5 x = true) :
    (editD s x).2 = 0 ∧ MidT (editD s x).1 (editD s x).1 [] ∧ (undoD (editD s x).1).1.t = s.t ∧ 0 < (editD s x).1.u.length := by
  obtain ⟨t', ht⟩ : ∃ t', (appE s.t x.p x.o x.n).1 = t' := ⟨_, rfl⟩
  have hap : appE s.t x.p x.o x.n = (t', 0) := by rw [← ht, ← hx]
  have hi := inv_edit h hap hk
  have e : editD s x = (⟨t', shfM s.m (shiftI x.p x.o.size x.n.size), pushL s.u [x], [], s.o, s.g⟩, 0) := by
    unfold editD
    rw [if_neg (by rw [ho]; simp), ht, ho]
    simp
  rw [e] at hi ⊢
  have hul := h.ul.1
  have hlen : (pushL s.u [x]).length = min (s.u.length + 1) 16 := by
    unfold pushL
    rw [List.length_drop, List.length_append]
    simp
    omega
  have hpos : 0 < (pushL s.u [x]).length := by omega
  refine ⟨rfl, MidT.start hi ho, ?_, hpos⟩
  have hlast : (pushL s.u [x])[(pushL s.u [x]).length - 1]! = [x] := by
    obtain ⟨P', hP⟩ := push_end (R := s.u) (P := s.u) (Q := []) (st := [x]) (by simp) (by decide)
    rw [List.nil_append] at hP
    rw [hP, List.length_append]
    exact last_app
  have hb := (run_back h.v h.z (run_one hap)).2.2
  show (undoD ⟨t', _, pushL s.u [x], [], s.o, s.g⟩).1.t = s.t
  unfold undoD
  rw [if_neg (by rw [ho]; simp), if_neg (by show ¬ (pushL s.u [x]).length = 0; omega)]
  show (runE t' (invL (pushL s.u [x])[(pushL s.u [x]).length - 1]!)).1 = s.t
  rw [hlast, hb]
theorem do_shut {s : StaD} {k i n : Int} {x : ByteArray} (hk : k = 1 ∨ k = 2) (ho : s.o = false) (h : InvS s) (h0 : (doD s k i n x).2 = 0) :
    (doD s k i n x).1.o = false ∧ ((doD s k i n x).1.t = s.t ∨ (MidT (doD s k i n x).1 (doD s k i n x).1 [] ∧ (undoD (doD s k i n x).1).1.t = s.t ∧ 0 < (doD s k i n x).1.u.length)) := by
  rcases hk with rfl | rfl
  · have e : doD s 1 i n x = insD s i x := by unfold doD; rw [if_pos rfl]
    rw [e] at h0 ⊢
    unfold insD at h0 ⊢
    by_cases c1 : insE s.t i x ≠ 0
    · rw [if_pos c1] at h0 ⊢; exact ⟨ho, .inl rfl⟩
    rw [if_neg c1] at h0 ⊢
    by_cases c2 : 512 < x.size
    · rw [if_pos c2] at h0 ⊢; exact ⟨ho, .inl rfl⟩
    rw [if_neg c2] at h0 ⊢
    by_cases c3 : x.size = 0
    · rw [if_pos c3] at h0 ⊢; exact ⟨ho, .inl rfl⟩
    rw [if_neg c3] at h0 ⊢
    have ha := ins_app (Decidable.not_not.1 c1)
    have := edit_shut (insX i x) ho (by rw [ha]) h ((okE5_iff _).2 ⟨Nat.zero_le _, by show x.size ≤ 512; omega, .inr (by show 1 ≤ x.size; omega)⟩)
    exact ⟨this.2.1.o, .inr this.2⟩
  · have e : doD s 2 i n x = delD s i n := by unfold doD; rw [if_neg (by decide), if_pos rfl]
    rw [e] at h0 ⊢
    unfold delD at h0 ⊢
    by_cases c1 : delE s.t i n ≠ 0
    · rw [if_pos c1] at h0 ⊢; exact ⟨ho, .inl rfl⟩
    rw [if_neg c1] at h0 ⊢
    by_cases c2 : 512 < n
    · rw [if_pos c2] at h0 ⊢; exact ⟨ho, .inl rfl⟩
    rw [if_neg c2] at h0 ⊢
    by_cases c3 : n = 0
    · rw [if_pos c3] at h0 ⊢; exact ⟨ho, .inl rfl⟩
    rw [if_neg c3] at h0 ⊢
    have ha := del_app h.v h.z (Decidable.not_not.1 c1)
    have hsz := ha.2
    have := edit_shut (delX s.t i n) ho (by rw [ha.1]) h ((okE5_iff _).2 ⟨by show (delX s.t i n).o.size ≤ 512; omega, Nat.zero_le _, .inl (by show 1 ≤ (delX s.t i n).o.size; omega)⟩)
    exact ⟨this.2.1.o, .inr this.2⟩
end Go.Proofs.YtfiobemeogaaiaaGreat
