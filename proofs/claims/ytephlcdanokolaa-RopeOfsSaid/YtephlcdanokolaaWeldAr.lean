/-
  Contract of around: the chunk to which one comes by going down as a function says, and the trees on both its sides. (gen_weld.py writes AR's two forms: of a function that captures nothing, of one that captures one variable.)
-/
import Derived.Test.YtephlcdanokolaaWeldTogether
namespace Go.Proofs.Ytephlcdanokolaa
open Go.RowKit
set_option linter.unusedVariables false
set_option linter.unusedSimpArgs false

/-- A function that says at which knot one goes down, by a number that it may turn. -/
structure Pick (S : List Nat) (F : FuncId) (caps : Array Value) (Inv : Int → World → Prop) (Good : Int → List Kid → Nat → Int → Prop) : Prop where
  on : ∀ q w w', Inv q w → Below w.heap.size w w' → Inv q w'
  call : ∀ q w g c h (K : List Kid), g ∉ S → Inv q w → InS S w → JoinP w (Off S w) g 0 K.length h K → 2 ≤ K.length → K.length ≤ 8 → Calls Try.prog F (#[.slice (some ⟨g, 0, none⟩) K.length c] ++ caps) w fun e w' =>
    ∃ (i : Nat) (q1 : Int), e = .returned (.int .i64 i) ∧ i < K.length ∧ Good q K i q1 ∧ Inv q1 w' ∧ Apart S w w'
/-- What follows from how one goes down. -/
structure Way (Good : Int → List Kid → Nat → Int → Prop) (Rel : Int → List ByteArray → List ByteArray → ByteArray → List ByteArray → Int → Prop) : Prop where
  base : ∀ q s, fitsP s → Rel q [s] [] s [] q
  step : ∀ q K i q1 A s C q', (h : i < K.length) → Good q K i q1 → Rel q1 K[i].L A s C q' → Rel q (flat K) (flat (K.take i) ++ A) s (C ++ flat (K.drop (i + 1))) q'
def RetAr (S : List Nat) (Inv : Int → World → Prop) (Rel : Int → List ByteArray → List ByteArray → ByteArray → List ByteArray → Int → Prop) (w : World) (q : Int) (L : List ByteArray) (e : Ending) (w' : World) : Prop :=
  ∃ p1 A s p2 C q', e = .returned (.tuple #[.pointer p1, .string s, .pointer p2]) ∧ Tr w' S p1 A ∧ Tr w' S p2 C ∧ L = A ++ ([s] ++ C) ∧ Rel q L A s C q' ∧ Inv q' w' ∧ Apart S w w'
theorem ptr2_row (w : World) (p q : Option Addr) : PRow (w.alloc (.cells #[.pointer p, .pointer q] 44)) w.heap.size 0 [.pointer p, .pointer q] :=
  ⟨by simp, fun j hj => by
    match j, hj with
    | 0, _ => simp [World.cell?_alloc_new]
    | 1, _ => simp [World.cell?_alloc_new]⟩
theorem ptr3_row (w : World) (p q r : Option Addr) : PRow (w.alloc (.cells #[.pointer p, .pointer q, .pointer r] 44)) w.heap.size 0 [.pointer p, .pointer q, .pointer r] :=
  ⟨by simp, fun j hj => by
    match j, hj with
    | 0, _ => simp [World.cell?_alloc_new]
    | 1, _ => simp [World.cell?_alloc_new]
    | 2, _ => simp [World.cell?_alloc_new]⟩
/-- Two sides put together, three. -/
theorem together_two {S : List Nat} {w : World} {p q : Option Addr} {L R : List ByteArray} (hS : InS S w) (t1 : Tr w S p L) (t2 : Tr w S q R) (hz : (wholeL (L ++ R)).size ≤ 6000) :
    Calls Try.prog 62 #[.slice (some ⟨w.heap.size, 0, none⟩) (2 : Nat) (2 : Nat)] (w.alloc (.cells #[.pointer p, .pointer q] 44)) (RetTr S w (L ++ R)) := by
  have hb : Below w.heap.size w (w.alloc (.cells #[.pointer p, .pointer q] 44)) := (Below.refl _ _).alloc (Nat.le_refl _) _
  have hc : cat [(p, L), (q, R)] = L ++ R := by simp [cat]
  refine (together_any (X := [(p, L), (q, R)]) (n := 2) (c := 2) (hS.on hb.size) (ptr2_row w p q) rfl (by decide) (fun x hx => ?_) (by rw [hc]; exact hz)).mono fun e w' h => by rw [hc] at h; exact h.from hb
  simp at hx
  rcases hx with rfl | rfl
  · exact t1.later hb
  · exact t2.later hb
theorem together_three {S : List Nat} {w : World} {p q r : Option Addr} {L R X : List ByteArray} (hS : InS S w) (t1 : Tr w S p L) (t2 : Tr w S q R) (t3 : Tr w S r X) (hz : (wholeL (L ++ (R ++ X))).size ≤ 6000) :
    Calls Try.prog 62 #[.slice (some ⟨w.heap.size, 0, none⟩) (3 : Nat) (3 : Nat)] (w.alloc (.cells #[.pointer p, .pointer q, .pointer r] 44)) (RetTr S w (L ++ (R ++ X))) := by
  have hb : Below w.heap.size w (w.alloc (.cells #[.pointer p, .pointer q, .pointer r] 44)) := (Below.refl _ _).alloc (Nat.le_refl _) _
  have hc : cat [(p, L), (q, R), (r, X)] = L ++ (R ++ X) := by simp [cat]
  refine (together_any (X := [(p, L), (q, R), (r, X)]) (n := 3) (c := 3) (hS.on hb.size) (ptr3_row w p q r) rfl (by decide) (fun x hx => ?_) (by rw [hc]; exact hz)).mono fun e w' h => by rw [hc] at h; exact h.from hb
  simp at hx
  rcases hx with rfl | rfl | rfl
  · exact t1.later hb
  · exact t2.later hb
  · exact t3.later hb
/-- Up at whatever stands on a side. -/
theorem up_side {S : List Nat} {w : World} {g o n c h : Nat} {K : List Kid} (hS : InS S w) (p : JoinP w (Off S w) g o n h K) (h8 : n ≤ 8) :
    Calls Try.prog 68 #[.slice (some ⟨g, o, none⟩) n c] w (RetTr S w (flat K)) := by
  rcases Nat.eq_zero_or_pos n with rfl | h0
  · obtain rfl : K = [] := List.eq_nil_of_length_eq_zero p.len
    exact (up_zero w).mono fun e w' ⟨he, hb⟩ => ⟨none, he, .inl ⟨rfl, rfl⟩, hb⟩
  · exact up_few hS p h0 h8
theorem JoinP.apartS {S : List Nat} {w w' : World} {g o n h : Nat} {K : List Kid} (p : JoinP w (Off S w) g o n h K) (hg : g ∉ S) (ha : Apart S w w') : JoinP w' (Off S w') g o n h K :=
  ⟨p.len, p.row.keep ha.size (ha.block g p.row.1 hg), fun k hk => (p.kids k hk).apartS ha, fun i hi => hi.1, p.hh, p.size⟩
theorem JoinP.later {S : List Nat} {w w' : World} {g o n h : Nat} {K : List Kid} (p : JoinP w (Off S w) g o n h K) (hb : Below w.heap.size w w') : JoinP w' (Off S w') g o n h K :=
  ⟨p.len, p.row.on hb, fun k hk => (p.kids k hk).later hb, fun i hi => hi.1, p.hh, p.size⟩
/-- What stands behind all is none. -/
theorem JoinP.none {S : List Nat} {w : World} {g o n h : Nat} {K : List Kid} (p : JoinP w (Off S w) g o n h K) (hn : n = 0) (o' : Nat) : JoinP w (Off S w) g o' n h K := by
  subst hn
  obtain rfl : K = [] := List.eq_nil_of_length_eq_zero p.len
  exact ⟨rfl, ⟨p.row.1, fun j hj => absurd hj (by simp [ptrs])⟩, p.kids, p.lt, p.hh, p.size⟩
theorem whole_szs (A B : List ByteArray) : (wholeL (A ++ B)).size = (wholeL A).size + (wholeL B).size := by rw [whole_app, ByteArray.size_append]
theorem flat_pick {K : List Kid} {i : Nat} (h : i < K.length) : flat K = flat (K.take i) ++ (K[i].L ++ flat (K.drop (i + 1))) := by
  rw [← flat_one, ← flat_app, ← flat_app, List.singleton_append, ← List.drop_eq_getElem_cons, List.take_append_drop]
set_option maxRecDepth 100000 in
set_option maxHeartbeats 800000 in
theorem around_nil (f : Value) (w : World) : Calls Try.prog 63 #[.pointer none, f] w fun e w' => e = .returned (.tuple #[.pointer none, .string ⟨#[]⟩, .pointer none]) ∧ Below w.heap.size w w' := by
  have cb := below_nil w
  have cf := first_nil
  have CB := Lib.hid cb; have CF := Lib.hid cf
  clear cb cf
  go_enter Try.func63, Try.ntmps63
  go_wp2_with fail
  refine CB.out.mono ?_; rintro e w1 ⟨rfl, hb1⟩
  have HB1 := Lib.hid hb1
  clear hb1
  go_wp2_with fail
  refine (onward HB1.out (CF.out w1)).mono ?_; rintro e w2 ⟨rfl, hb2⟩
  have HB2 := Lib.hid hb2
  clear hb2
  go_wp2
  refine bodyPost_ret (v := .tuple #[.pointer none, .string ⟨#[]⟩, .pointer none]) (by simp [results, Try.results63, go_sem]) rfl ?_
  exact ⟨rfl, HB2.out⟩
-- GEN AR
def AroundC1 (S : List Nat)  (Inv : Int → World → Prop) (Rel : Int → List ByteArray → List ByteArray → ByteArray → List ByteArray → Int → Prop) (h : Nat) : Prop := ∀ (w : World) (b : Nat) (L : List ByteArray) (q : Int), KnotW w (Off S w) h b L → InS S w → Inv q w → (wholeL L).size ≤ 6000 →
  Calls Try.prog 63 #[pv b, (.func (.func 64) #[] #[])] w (RetAr S Inv Rel w q L)
set_option maxRecDepth 100000 in
set_option maxHeartbeats 800000 in
theorem ar1_zero {S : List Nat}  {Inv : Int → World → Prop} {Good : Int → List Kid → Nat → Int → Prop} {Rel : Int → List ByteArray → List ByteArray → ByteArray → List ByteArray → Int → Prop} (hp : Pick S 64 #[] Inv Good) (hy : Way Good Rel) : AroundC1 S  Inv Rel 0 := by
  intro w b L q k hS hq hz
  have cb := below_leaf k
  obtain ⟨-, s, rfl, hf, hB⟩ := k
  have cf := fun W (hW : Below w.heap.size w W) => first_blk (hB.onto hW)
  have HR := Lib.hid (fun W (hW : Below w.heap.size w W) => (show RetAr S Inv Rel w q [s] (.returned (.tuple #[.pointer none, .string s, .pointer none])) W from ⟨none, [], s, none, [], q, rfl, .inl ⟨rfl, rfl⟩, .inl ⟨rfl, rfl⟩, rfl, hy.base q s hf, hp.on q w W hq hW, .of_below hW⟩))
  have CB := Lib.hid cb; have CF := Lib.hid cf
  clear cb cf hB hf hq hS hz hp hy
  go_enter Try.func63, Try.ntmps63
  go_wp2_with fail
  refine CB.out.mono ?_; rintro e w1 ⟨rfl, hb1⟩
  have HB1 := Lib.hid hb1
  clear hb1
  go_wp2_with fail
  refine (onward HB1.out (CF.out w1 HB1.out)).mono ?_; rintro e w2 ⟨rfl, hb2⟩
  have HB2 := Lib.hid hb2
  clear hb2
  go_wp2
  refine bodyPost_ret (v := .tuple #[.pointer none, .string s, .pointer none]) (by simp [results, Try.results63, go_sem]) rfl ?_
  exact HR.out w2 HB2.out
set_option maxRecDepth 100000 in
set_option maxHeartbeats 1600000 in
theorem ar1_succ {S : List Nat}  {Inv : Int → World → Prop} {Good : Int → List Kid → Nat → Int → Prop} {Rel : Int → List ByteArray → List ByteArray → ByteArray → List ByteArray → Int → Prop} (hp : Pick S 64 #[] Inv Good) (hy : Way Good Rel) {h : Nat} (hh : h ≤ 20) (ih : AroundC1 S  Inv Rel h) : AroundC1 S  Inv Rel (h + 1) := by
  intro w b L q k hS hq hz
  obtain ⟨M, g, c, hM, rfl, -⟩ := k.node
  have cb := below_node hM (by omega)
  have h2 := hM.two
  have h8 := hM.eight
  obtain ⟨n, hn⟩ : ∃ n, M.length = n := ⟨_, rfl⟩
  rw [hn] at h2 h8
  have hj : ∀ (w1 : World) (g' : Nat), Below w.heap.size w w1 → PRow w1 g' 0 (ptrs M) → JoinP w1 (Off S w1) g' 0 n h M := fun w1 g' hb hr => ⟨hn, hr, fun k hk => (hM.kids k hk).later hb, fun i hi => hi.1, by omega, by omega⟩
  have hcall : ∀ (w1 : World) (g' c' : Nat), g' ∉ S → Below w.heap.size w w1 → PRow w1 g' 0 (ptrs M) → Calls Try.prog 64 #[.slice (some ⟨g', 0, none⟩) n c'] w1 fun e w' => ∃ (i : Nat) (q1 : Int), e = .returned (.int .i64 i) ∧ i < n ∧ Good q M i q1 ∧ Inv q1 w' ∧ Apart S w1 w' := fun w1 g' c' hgS hb hr => by
    have := hp.call q w1 g' c' h M hgS (hp.on q w w1 hq hb) (hS.on hb.size) (by rw [hn]; exact hj w1 g' hb hr) (by omega) (by omega)
    rw [hn] at this
    exact this
  have CB := Lib.hid cb; have CC := Lib.hid hcall; have HJ := Lib.hid hj; have HN := Lib.hid hn; have HS := Lib.hid hS; have HY := Lib.hid hy; have HI := Lib.hid ih; have HZ := Lib.hid hz; have HPO := Lib.hid hp.on
  clear cb hcall hj hn hS hy ih hz hp hM k hq
  go_enter Try.func63, Try.ntmps63
  go_wp2_with fail
  refine CB.out.mono ?_; rintro e w1 ⟨v1, rfl, ho1, hb1⟩
  obtain ⟨g', c', rfl, hc', hg', hr1⟩ := own_row ho1 (by rw [HN.out]; omega)
  rw [HN.out] at hc' ⊢
  have HGS := Lib.hid (show g' ∉ S from fun hm => by have := HS.out g' hm; omega)
  have cw := CC.out w1 g' c' HGS.out hb1 hr1
  have CW := Lib.hid cw
  have HJ1 := Lib.hid (HJ.out w1 g' hb1 hr1); have HB1 := Lib.hid hb1
  clear ho1 hb1 hg' hr1 cw
  have b0 : ((n : Int) == 0) = false := by simpa using (show ¬ (n : Int) = 0 by omega)
  have b0' : (n == 0) = false := by simpa using (show ¬ n = 0 by omega)
  go_wp2_with fail
  refine CW.out.mono ?_; rintro e w2 ⟨i, q1, rfl, hin, hgood, hq1, ha2⟩
  have hj2 := HJ1.out.apartS HGS.out ha2
  have q0 := hj2.cell hin
  rw [Nat.zero_add] at q0
  have hil : i < M.length := by rw [HN.out]; exact hin
  have hS2 : InS S w2 := HS.out.on (Nat.le_trans HB1.out.size ha2.size)
  have e0 := flat_pick hil
  have hxz : (wholeL M[i].L).size ≤ 6000 := by
    have := HZ.out
    rw [e0, whole_app, whole_app, ByteArray.size_append, ByteArray.size_append] at this
    omega
  have ci := HI.out w2 M[i].b M[i].L q1 (hj2.kids _ (List.getElem_mem hil)) hS2 hq1 hxz
  have HST := Lib.hid (fun A s C q' => HY.out.step q M i q1 A s C q' hil hgood)
  have HXL := Lib.hid e0
  obtain ⟨xb, hxb⟩ : ∃ xb, M[i].b = xb := ⟨_, rfl⟩
  obtain ⟨xL, hxL⟩ : ∃ xL, M[i].L = xL := ⟨_, rfl⟩
  rw [hxb] at q0 ci
  rw [hxL] at ci HST HXL
  have CI := Lib.hid ci; have HJ2 := Lib.hid hj2; have HA2 := Lib.hid ((Apart.of_below HB1.out : Apart S w w1).trans ha2 (fun x hx => .inl hx)); have HS2 := Lib.hid hS2
  have b1 : (0 : Int) ≤ (i : Int) := by omega
  have b2 : (i : Int) < (n : Int) := by omega
  clear ci hj2 ha2 hgood hq1 hxz hil hxb hxL e0 hS2
  go_wp2_with fail
  refine CI.out.mono ?_; rintro e w3 ⟨p1, A, s, p2, C, q', rfl, t1, t2, hL, hrel, hq3, ha3⟩
  have hj3 := HJ2.out.apartS HGS.out ha3
  have hsA : InS S w3 := HS2.out.on ha3.size
  have hall : flat M = (flat (M.take i) ++ A) ++ ([s] ++ (C ++ flat (M.drop (i + 1)))) := by rw [HXL.out, hL]; simp only [List.append_assoc]
  have hz1 : (wholeL (flat (M.take i) ++ A)).size ≤ 6000 := by
    have := HZ.out
    rw [hall] at this
    simp only [whole_szs] at this ⊢
    omega
  have hz2 : (wholeL (C ++ flat (M.drop (i + 1)))).size ≤ 6000 := by
    have := HZ.out
    rw [hall] at this
    simp only [whole_szs] at this ⊢
    omega
  have ca : ∀ W, Below w3.heap.size w3 W → Calls Try.prog 68 #[.slice (some ⟨g', 0, none⟩) i c'] W (RetTr S W (flat (M.take i))) := fun W hW => up_side (hsA.on hW.size) ((hj3.later hW).head (by omega)) (by omega)
  have cc : ∀ W o (len cap : Nat), Below w3.heap.size w3 W → len = n - (i + 1) → (o = i + 1 ∨ n = i + 1) → Calls Try.prog 68 #[.slice (some ⟨g', o, none⟩) len cap] W (RetTr S W (flat (M.drop (i + 1)))) := fun W o len cap hW hlen ho => by
    subst hlen
    have := (hj3.later hW).tail (i + 1)
    rw [Nat.zero_add] at this
    rcases ho with rfl | ho
    · exact up_side (hsA.on hW.size) this (by omega)
    · exact up_side (hsA.on hW.size) (this.none (by omega) o) (by omega)
  have ct1 : ∀ W p, Below w3.heap.size w3 W → Tr W S p (flat (M.take i)) → Calls Try.prog 62 #[.slice (some ⟨W.heap.size, 0, none⟩) (2 : Nat) (2 : Nat)] (W.alloc (.cells #[.pointer p, .pointer p1] 44)) (RetTr S W (flat (M.take i) ++ A)) := fun W p hW hp =>
    together_two (hsA.on hW.size) hp (t1.later hW) hz1
  have ct2 : ∀ W p, Below w3.heap.size w3 W → Tr W S p (flat (M.drop (i + 1))) → Calls Try.prog 62 #[.slice (some ⟨W.heap.size, 0, none⟩) (2 : Nat) (2 : Nat)] (W.alloc (.cells #[.pointer p2, .pointer p] 44)) (RetTr S W (C ++ flat (M.drop (i + 1)))) := fun W p hW hp =>
    together_two (hsA.on hW.size) (t2.later hW) hp hz2
  have HEND := Lib.hid (fun W (hW : Below w3.heap.size w3 W) u v (hu : Tr W S u (flat (M.take i) ++ A)) (hv : Tr W S v (C ++ flat (M.drop (i + 1)))) => (show RetAr S Inv Rel w q (flat M) (.returned (.tuple #[.pointer u, .string s, .pointer v])) W from ⟨u, _, s, v, _, q', rfl, hu, hv, hall, HST.out A s C q' hrel, HPO.out q' w3 W hq3 hW, (HA2.out.trans ha3 (fun x hx => .inl hx)).trans (Apart.of_below hW : Apart S w3 W) (fun x hx => .inl hx)⟩))
  have CA := Lib.hid ca; have CD := Lib.hid cc; have T1 := Lib.hid ct1; have T2 := Lib.hid ct2
  have b3 : (i : Int) ≤ (c' : Int) := by omega
  have b3' : i ≤ c' := by omega
  have b4 : (i : Int) + 1 ≤ (n : Int) := by omega
  have b5 : (n : Int) ≤ (c' : Int) := by omega
  have b6 : IntKind.i64.wrap ((i : Int) + 1) = (i : Int) + 1 := IntWalk.i64_in _ (by omega)
  have b7 : ((i : Int) + 1).toNat = i + 1 := by omega
  have b8 : (0 : Int) ≤ (i : Int) + 1 := by omega
  clear ca cc ct1 ct2 hall hz1 hz2 hsA hj3 t1 t2 hL hrel hq3 ha3
  go_wp2_with fail
  by_cases hcz : c' = i + 1
  · subst hcz
    have b9 : (i : Int) ≤ (i : Int) + 1 := by omega
    refine wp_region_held_drew (S := (fun w' : World => Below w3.heap.size w3 w')) (by kernel_rfl) (Below.refl _ _).drew (fun hHeld => ?_)
    refine wpAnyH_take (i := 0) (v := ?_) (by simp only [List.getElem?_toArray, List.getElem?_cons_succ, List.getElem?_cons_zero]; rfl) (by kernel_rfl) (by kernel_rfl) (by kernel_rfl) (fun _ _ _ h => by exact h) (Or.inl ⟨by rfl, ?_⟩) (by assumption) ?_
    rotate_left
    · (intro w hSw; (try dsimp only at hSw); go_simp; try with_reducible rfl)
    try simp only [Act.put, List.setIfInBounds_toArray, List.set_cons_zero, List.set_cons_succ]
    refine wpAnyH_take (i := 1) (v := ?_) (by simp only [List.getElem?_toArray, List.getElem?_cons_succ, List.getElem?_cons_zero]; rfl) (by kernel_rfl) (by kernel_rfl) (by kernel_rfl) (fun _ _ _ h => by exact h) (Or.inl ⟨by rfl, ?_⟩) (by assumption) ?_
    rotate_left
    · (intro w hSw; (try dsimp only at hSw); go_simp; try with_reducible rfl)
    try simp only [Act.put, List.setIfInBounds_toArray, List.set_cons_zero, List.set_cons_succ]
    refine wpAnyH_take (i := 2) (v := ?_) (by simp only [List.getElem?_toArray, List.getElem?_cons_succ, List.getElem?_cons_zero]; rfl) (by kernel_rfl) (by kernel_rfl) (by kernel_rfl) (fun _ _ _ h => by exact h) (Or.inl ⟨by rfl, ?_⟩) (by assumption) ?_
    rotate_left
    · (intro w hSw; (try dsimp only at hSw); go_simp; try with_reducible rfl)
    try simp only [Act.put, List.setIfInBounds_toArray, List.set_cons_zero, List.set_cons_succ]
    refine wpAnyH_take (i := 4) (v := ?_) (by simp only [List.getElem?_toArray, List.getElem?_cons_succ, List.getElem?_cons_zero]; rfl) (by kernel_rfl) (by kernel_rfl) (by kernel_rfl) (fun _ _ _ h => by exact h) (Or.inl ⟨by rfl, ?_⟩) (by assumption) ?_
    rotate_left
    · (intro w hSw; (try dsimp only at hSw); go_simp; try with_reducible rfl)
    try simp only [Act.put, List.setIfInBounds_toArray, List.set_cons_zero, List.set_cons_succ]
    refine wpAnyH_take (i := 7) (v := ?_) (by simp only [List.getElem?_toArray, List.getElem?_cons_succ, List.getElem?_cons_zero]; rfl) (by kernel_rfl) (by kernel_rfl) (by kernel_rfl) (fun _ _ _ h => by exact h) (Or.inl ⟨by rfl, ?_⟩) (by assumption) ?_
    rotate_left
    · (intro w hSw; (try dsimp only at hSw); go_simp; try with_reducible rfl)
    try simp only [Act.put, List.setIfInBounds_toArray, List.set_cons_zero, List.set_cons_succ]
    refine wpAnyH_take (i := 8) (v := ?_) (by simp only [List.getElem?_toArray, List.getElem?_cons_succ, List.getElem?_cons_zero]; rfl) (by kernel_rfl) (by kernel_rfl) (by kernel_rfl) (fun _ _ _ h => by exact h) (Or.inl ⟨by rfl, ?_⟩) (by assumption) ?_
    rotate_left
    · (intro w hSw; (try dsimp only at hSw); go_simp; try with_reducible rfl)
    try simp only [Act.put, List.setIfInBounds_toArray, List.set_cons_zero, List.set_cons_succ]
    refine wpAnyH_take (i := 9) (v := ?_) (by simp only [List.getElem?_toArray, List.getElem?_cons_succ, List.getElem?_cons_zero]; rfl) (by kernel_rfl) (by kernel_rfl) (by kernel_rfl) (fun _ _ _ h => by exact h) (Or.inl ⟨by rfl, ?_⟩) (by assumption) ?_
    rotate_left
    · (intro w hSw; (try dsimp only at hSw); go_simp; try with_reducible rfl)
    try simp only [Act.put, List.setIfInBounds_toArray, List.set_cons_zero, List.set_cons_succ]
    refine wpAnyH_take (i := 10) (v := ?_) (by simp only [List.getElem?_toArray, List.getElem?_cons_succ, List.getElem?_cons_zero]; rfl) (by kernel_rfl) (by kernel_rfl) (by kernel_rfl) (fun _ _ _ h => by exact h) (Or.inl ⟨by rfl, ?_⟩) (by assumption) ?_
    rotate_left
    · (intro w hSw; (try dsimp only at hSw); go_simp; try with_reducible rfl)
    try simp only [Act.put, List.setIfInBounds_toArray, List.set_cons_zero, List.set_cons_succ]
    refine wpAnyH_take (i := 11) (v := ?_) (by simp only [List.getElem?_toArray, List.getElem?_cons_succ, List.getElem?_cons_zero]; rfl) (by kernel_rfl) (by kernel_rfl) (by kernel_rfl) (fun _ _ _ h => by exact h) (Or.inl ⟨by rfl, ?_⟩) (by assumption) ?_
    rotate_left
    · (intro w hSw; (try dsimp only at hSw); go_simp; try with_reducible rfl)
    try simp only [Act.put, List.setIfInBounds_toArray, List.set_cons_zero, List.set_cons_succ]
    refine wpAnyH_take (i := 12) (v := ?_) (by simp only [List.getElem?_toArray, List.getElem?_cons_succ, List.getElem?_cons_zero]; rfl) (by kernel_rfl) (by kernel_rfl) (by kernel_rfl) (fun _ _ _ h => by exact h) (Or.inl ⟨by rfl, ?_⟩) (by assumption) ?_
    rotate_left
    · (intro w hSw; (try dsimp only at hSw); go_simp; try with_reducible rfl)
    try simp only [Act.put, List.setIfInBounds_toArray, List.set_cons_zero, List.set_cons_succ]
    refine wpAnyH_ready (rs := [3]) (by kernel_rfl) (by simp) ?_
    refine AllReadyH.cons (by simp only [List.getElem?_toArray, List.getElem?_cons_succ, List.getElem?_cons_zero]; rfl) (fun K hK => ?_) AllReadyH.nil
    go_simp
    (go_at_call 68; refine (CA.out _ hHeld).mono ?_; rintro e w4 ⟨u1, rfl, hu1, hb4⟩; have HB4 := Lib.hid (hHeld.trans (hb4.mono hHeld.size)); have HU1 := Lib.hid hu1; clear hu1 hb4)
    try go_wp2_with fail
    refine hK.out _ _ ?_ (fun hHeld => ?_)
    · exact HB4.out
    clear hK K
    try simp only [Act.put, List.setIfInBounds_toArray, List.set_cons_zero, List.set_cons_succ]
    refine wpAnyH_ready (rs := [5]) (by kernel_rfl) (by simp) ?_
    refine AllReadyH.cons (by simp only [List.getElem?_toArray, List.getElem?_cons_succ, List.getElem?_cons_zero]; rfl) (fun K hK => ?_) AllReadyH.nil
    go_simp
    have HB5 := Lib.hid (HB4.out.alloc HB4.out.size (.cells #[.pointer u1, .pointer p1] 44))
    try go_wp2_with fail
    refine hK.out _ _ ?_ (fun hHeld => ?_)
    · exact HB5.out
    clear hK K
    try simp only [Act.put, List.setIfInBounds_toArray, List.set_cons_zero, List.set_cons_succ]
    refine wpAnyH_ready (rs := [6]) (by kernel_rfl) (by simp) ?_
    refine AllReadyH.cons (by simp only [List.getElem?_toArray, List.getElem?_cons_succ, List.getElem?_cons_zero]; rfl) (fun K hK => ?_) AllReadyH.nil
    go_simp
    (go_at_call 62; refine (T1.out w4 u1 HB4.out HU1.out).mono ?_; rintro e w5 ⟨u2, rfl, hu2, hb5⟩; have HB6 := Lib.hid (HB4.out.trans (hb5.mono HB4.out.size)); have HU2 := Lib.hid hu2; clear hu2 hb5)
    try go_wp2_with fail
    refine hK.out _ _ ?_ (fun hHeld => ?_)
    · exact HB6.out
    clear hK K
    try simp only [Act.put, List.setIfInBounds_toArray, List.set_cons_zero, List.set_cons_succ]
    refine wpAnyH_ready (rs := [13]) (by kernel_rfl) (by simp) ?_
    refine AllReadyH.cons (by simp only [List.getElem?_toArray, List.getElem?_cons_succ, List.getElem?_cons_zero]; rfl) (fun K hK => ?_) AllReadyH.nil
    go_simp
    (go_at_call 68; refine (CD.out _ 0 0 _ HB6.out (by omega) (.inr (by omega))).mono ?_; rintro e w6 ⟨u3, rfl, hu3, hb6⟩; have HB7 := Lib.hid (HB6.out.trans (hb6.mono HB6.out.size)); have HX6 := Lib.hid hb6; have HU3 := Lib.hid hu3; clear hu3 hb6)
    try go_wp2_with fail
    refine hK.out _ _ ?_ (fun hHeld => ?_)
    · exact HB7.out
    clear hK K
    try simp only [Act.put, List.setIfInBounds_toArray, List.set_cons_zero, List.set_cons_succ]
    refine wpAnyH_ready (rs := [14]) (by kernel_rfl) (by simp) ?_
    refine AllReadyH.cons (by simp only [List.getElem?_toArray, List.getElem?_cons_succ, List.getElem?_cons_zero]; rfl) (fun K hK => ?_) AllReadyH.nil
    go_simp
    have HB8 := Lib.hid (HB7.out.alloc HB7.out.size (.cells #[.pointer p2, .pointer u3] 44))
    try go_wp2_with fail
    refine hK.out _ _ ?_ (fun hHeld => ?_)
    · exact HB8.out
    clear hK K
    try simp only [Act.put, List.setIfInBounds_toArray, List.set_cons_zero, List.set_cons_succ]
    refine wpAnyH_ready (rs := [15]) (by kernel_rfl) (by simp) ?_
    refine AllReadyH.cons (by simp only [List.getElem?_toArray, List.getElem?_cons_succ, List.getElem?_cons_zero]; rfl) (fun K hK => ?_) AllReadyH.nil
    go_simp
    (go_at_call 62; refine (T2.out w6 u3 HB7.out HU3.out).mono ?_; rintro e w7 ⟨u4, rfl, hu4, hb7⟩; have HB9 := Lib.hid (HB7.out.trans (hb7.mono HB7.out.size)); have HX7 := Lib.hid hb7; have HU4 := Lib.hid hu4; clear hu4 hb7)
    try go_wp2_with fail
    refine hK.out _ _ ?_ (fun hHeld => ?_)
    · exact HB9.out
    clear hK K
    try simp only [Act.put, List.setIfInBounds_toArray, List.set_cons_zero, List.set_cons_succ]
    refine wpAnyH_take (i := 16) (v := ?_) (by simp only [List.getElem?_toArray, List.getElem?_cons_succ, List.getElem?_cons_zero]; rfl) (by kernel_rfl) (by kernel_rfl) (by kernel_rfl) (fun _ _ _ h => by exact h) (Or.inl ⟨by rfl, ?_⟩) (by assumption) ?_
    rotate_left
    · (intro w hSw; (try dsimp only at hSw); go_simp; try with_reducible rfl)
    try simp only [Act.put, List.setIfInBounds_toArray, List.set_cons_zero, List.set_cons_succ]
    refine wpAnyH_take (i := 17) (v := ?_) (by simp only [List.getElem?_toArray, List.getElem?_cons_succ, List.getElem?_cons_zero]; rfl) (by kernel_rfl) (by kernel_rfl) (by kernel_rfl) (fun _ _ _ h => by exact h) (Or.inl ⟨by rfl, ?_⟩) (by assumption) ?_
    rotate_left
    · (intro w hSw; (try dsimp only at hSw); go_simp; try with_reducible rfl)
    try simp only [Act.put, List.setIfInBounds_toArray, List.set_cons_zero, List.set_cons_succ]
    refine wpAnyH_take (i := 18) (v := ?_) (by simp only [List.getElem?_toArray, List.getElem?_cons_succ, List.getElem?_cons_zero]; rfl) (by kernel_rfl) (by kernel_rfl) (by kernel_rfl) (fun _ _ _ h => by exact h) (Or.inl ⟨by rfl, ?_⟩) (by assumption) ?_
    rotate_left
    · (intro w hSw; (try dsimp only at hSw); go_simp; try with_reducible rfl)
    try simp only [Act.put, List.setIfInBounds_toArray, List.set_cons_zero, List.set_cons_succ]
    refine wpAnyH_done (by kernel_rfl) ?_ _
    go_wp2_with fail
    refine bodyPost_ret (v := .tuple #[.pointer u2, .string s, .pointer u4]) (by simp [results, Try.results63, go_sem]) rfl ?_
    exact HEND.out w7 HB9.out u2 u4 ((HU2.out.later HX6.out).later HX7.out) HU4.out
  ·
    refine wp_region_held_drew (S := (fun w' : World => Below w3.heap.size w3 w')) (by kernel_rfl) (Below.refl _ _).drew (fun hHeld => ?_)
    refine wpAnyH_take (i := 0) (v := ?_) (by simp only [List.getElem?_toArray, List.getElem?_cons_succ, List.getElem?_cons_zero]; rfl) (by kernel_rfl) (by kernel_rfl) (by kernel_rfl) (fun _ _ _ h => by exact h) (Or.inl ⟨by rfl, ?_⟩) (by assumption) ?_
    rotate_left
    · (intro w hSw; (try dsimp only at hSw); go_simp; try with_reducible rfl)
    try simp only [Act.put, List.setIfInBounds_toArray, List.set_cons_zero, List.set_cons_succ]
    refine wpAnyH_take (i := 1) (v := ?_) (by simp only [List.getElem?_toArray, List.getElem?_cons_succ, List.getElem?_cons_zero]; rfl) (by kernel_rfl) (by kernel_rfl) (by kernel_rfl) (fun _ _ _ h => by exact h) (Or.inl ⟨by rfl, ?_⟩) (by assumption) ?_
    rotate_left
    · (intro w hSw; (try dsimp only at hSw); go_simp; try with_reducible rfl)
    try simp only [Act.put, List.setIfInBounds_toArray, List.set_cons_zero, List.set_cons_succ]
    refine wpAnyH_take (i := 2) (v := ?_) (by simp only [List.getElem?_toArray, List.getElem?_cons_succ, List.getElem?_cons_zero]; rfl) (by kernel_rfl) (by kernel_rfl) (by kernel_rfl) (fun _ _ _ h => by exact h) (Or.inl ⟨by rfl, ?_⟩) (by assumption) ?_
    rotate_left
    · (intro w hSw; (try dsimp only at hSw); go_simp; try with_reducible rfl)
    try simp only [Act.put, List.setIfInBounds_toArray, List.set_cons_zero, List.set_cons_succ]
    refine wpAnyH_take (i := 4) (v := ?_) (by simp only [List.getElem?_toArray, List.getElem?_cons_succ, List.getElem?_cons_zero]; rfl) (by kernel_rfl) (by kernel_rfl) (by kernel_rfl) (fun _ _ _ h => by exact h) (Or.inl ⟨by rfl, ?_⟩) (by assumption) ?_
    rotate_left
    · (intro w hSw; (try dsimp only at hSw); go_simp; try with_reducible rfl)
    try simp only [Act.put, List.setIfInBounds_toArray, List.set_cons_zero, List.set_cons_succ]
    refine wpAnyH_take (i := 7) (v := ?_) (by simp only [List.getElem?_toArray, List.getElem?_cons_succ, List.getElem?_cons_zero]; rfl) (by kernel_rfl) (by kernel_rfl) (by kernel_rfl) (fun _ _ _ h => by exact h) (Or.inl ⟨by rfl, ?_⟩) (by assumption) ?_
    rotate_left
    · (intro w hSw; (try dsimp only at hSw); go_simp; try with_reducible rfl)
    try simp only [Act.put, List.setIfInBounds_toArray, List.set_cons_zero, List.set_cons_succ]
    refine wpAnyH_take (i := 8) (v := ?_) (by simp only [List.getElem?_toArray, List.getElem?_cons_succ, List.getElem?_cons_zero]; rfl) (by kernel_rfl) (by kernel_rfl) (by kernel_rfl) (fun _ _ _ h => by exact h) (Or.inl ⟨by rfl, ?_⟩) (by assumption) ?_
    rotate_left
    · (intro w hSw; (try dsimp only at hSw); go_simp; try with_reducible rfl)
    try simp only [Act.put, List.setIfInBounds_toArray, List.set_cons_zero, List.set_cons_succ]
    refine wpAnyH_take (i := 9) (v := ?_) (by simp only [List.getElem?_toArray, List.getElem?_cons_succ, List.getElem?_cons_zero]; rfl) (by kernel_rfl) (by kernel_rfl) (by kernel_rfl) (fun _ _ _ h => by exact h) (Or.inl ⟨by rfl, ?_⟩) (by assumption) ?_
    rotate_left
    · (intro w hSw; (try dsimp only at hSw); go_simp; try with_reducible rfl)
    try simp only [Act.put, List.setIfInBounds_toArray, List.set_cons_zero, List.set_cons_succ]
    refine wpAnyH_take (i := 10) (v := ?_) (by simp only [List.getElem?_toArray, List.getElem?_cons_succ, List.getElem?_cons_zero]; rfl) (by kernel_rfl) (by kernel_rfl) (by kernel_rfl) (fun _ _ _ h => by exact h) (Or.inl ⟨by rfl, ?_⟩) (by assumption) ?_
    rotate_left
    · (intro w hSw; (try dsimp only at hSw); go_simp; try with_reducible rfl)
    try simp only [Act.put, List.setIfInBounds_toArray, List.set_cons_zero, List.set_cons_succ]
    refine wpAnyH_take (i := 11) (v := ?_) (by simp only [List.getElem?_toArray, List.getElem?_cons_succ, List.getElem?_cons_zero]; rfl) (by kernel_rfl) (by kernel_rfl) (by kernel_rfl) (fun _ _ _ h => by exact h) (Or.inl ⟨by rfl, ?_⟩) (by assumption) ?_
    rotate_left
    · (intro w hSw; (try dsimp only at hSw); go_simp; try with_reducible rfl)
    try simp only [Act.put, List.setIfInBounds_toArray, List.set_cons_zero, List.set_cons_succ]
    refine wpAnyH_take (i := 12) (v := ?_) (by simp only [List.getElem?_toArray, List.getElem?_cons_succ, List.getElem?_cons_zero]; rfl) (by kernel_rfl) (by kernel_rfl) (by kernel_rfl) (fun _ _ _ h => by exact h) (Or.inl ⟨by rfl, ?_⟩) (by assumption) ?_
    rotate_left
    · (intro w hSw; (try dsimp only at hSw); go_simp; try with_reducible rfl)
    try simp only [Act.put, List.setIfInBounds_toArray, List.set_cons_zero, List.set_cons_succ]
    refine wpAnyH_ready (rs := [3]) (by kernel_rfl) (by simp) ?_
    refine AllReadyH.cons (by simp only [List.getElem?_toArray, List.getElem?_cons_succ, List.getElem?_cons_zero]; rfl) (fun K hK => ?_) AllReadyH.nil
    go_simp
    (go_at_call 68; refine (CA.out _ hHeld).mono ?_; rintro e w4 ⟨u1, rfl, hu1, hb4⟩; have HB4 := Lib.hid (hHeld.trans (hb4.mono hHeld.size)); have HU1 := Lib.hid hu1; clear hu1 hb4)
    try go_wp2_with fail
    refine hK.out _ _ ?_ (fun hHeld => ?_)
    · exact HB4.out
    clear hK K
    try simp only [Act.put, List.setIfInBounds_toArray, List.set_cons_zero, List.set_cons_succ]
    refine wpAnyH_ready (rs := [5]) (by kernel_rfl) (by simp) ?_
    refine AllReadyH.cons (by simp only [List.getElem?_toArray, List.getElem?_cons_succ, List.getElem?_cons_zero]; rfl) (fun K hK => ?_) AllReadyH.nil
    go_simp
    have HB5 := Lib.hid (HB4.out.alloc HB4.out.size (.cells #[.pointer u1, .pointer p1] 44))
    try go_wp2_with fail
    refine hK.out _ _ ?_ (fun hHeld => ?_)
    · exact HB5.out
    clear hK K
    try simp only [Act.put, List.setIfInBounds_toArray, List.set_cons_zero, List.set_cons_succ]
    refine wpAnyH_ready (rs := [6]) (by kernel_rfl) (by simp) ?_
    refine AllReadyH.cons (by simp only [List.getElem?_toArray, List.getElem?_cons_succ, List.getElem?_cons_zero]; rfl) (fun K hK => ?_) AllReadyH.nil
    go_simp
    (go_at_call 62; refine (T1.out w4 u1 HB4.out HU1.out).mono ?_; rintro e w5 ⟨u2, rfl, hu2, hb5⟩; have HB6 := Lib.hid (HB4.out.trans (hb5.mono HB4.out.size)); have HU2 := Lib.hid hu2; clear hu2 hb5)
    try go_wp2_with fail
    refine hK.out _ _ ?_ (fun hHeld => ?_)
    · exact HB6.out
    clear hK K
    try simp only [Act.put, List.setIfInBounds_toArray, List.set_cons_zero, List.set_cons_succ]
    refine wpAnyH_ready (rs := [13]) (by kernel_rfl) (by simp) ?_
    refine AllReadyH.cons (by simp only [List.getElem?_toArray, List.getElem?_cons_succ, List.getElem?_cons_zero]; rfl) (fun K hK => ?_) AllReadyH.nil
    go_simp
    (go_at_call 68; refine (CD.out _ (i + 1) (n - (i + 1)) _ HB6.out (by omega) (.inl rfl)).mono ?_; rintro e w6 ⟨u3, rfl, hu3, hb6⟩; have HB7 := Lib.hid (HB6.out.trans (hb6.mono HB6.out.size)); have HX6 := Lib.hid hb6; have HU3 := Lib.hid hu3; clear hu3 hb6)
    try go_wp2_with fail
    refine hK.out _ _ ?_ (fun hHeld => ?_)
    · exact HB7.out
    clear hK K
    try simp only [Act.put, List.setIfInBounds_toArray, List.set_cons_zero, List.set_cons_succ]
    refine wpAnyH_ready (rs := [14]) (by kernel_rfl) (by simp) ?_
    refine AllReadyH.cons (by simp only [List.getElem?_toArray, List.getElem?_cons_succ, List.getElem?_cons_zero]; rfl) (fun K hK => ?_) AllReadyH.nil
    go_simp
    have HB8 := Lib.hid (HB7.out.alloc HB7.out.size (.cells #[.pointer p2, .pointer u3] 44))
    try go_wp2_with fail
    refine hK.out _ _ ?_ (fun hHeld => ?_)
    · exact HB8.out
    clear hK K
    try simp only [Act.put, List.setIfInBounds_toArray, List.set_cons_zero, List.set_cons_succ]
    refine wpAnyH_ready (rs := [15]) (by kernel_rfl) (by simp) ?_
    refine AllReadyH.cons (by simp only [List.getElem?_toArray, List.getElem?_cons_succ, List.getElem?_cons_zero]; rfl) (fun K hK => ?_) AllReadyH.nil
    go_simp
    (go_at_call 62; refine (T2.out w6 u3 HB7.out HU3.out).mono ?_; rintro e w7 ⟨u4, rfl, hu4, hb7⟩; have HB9 := Lib.hid (HB7.out.trans (hb7.mono HB7.out.size)); have HX7 := Lib.hid hb7; have HU4 := Lib.hid hu4; clear hu4 hb7)
    try go_wp2_with fail
    refine hK.out _ _ ?_ (fun hHeld => ?_)
    · exact HB9.out
    clear hK K
    try simp only [Act.put, List.setIfInBounds_toArray, List.set_cons_zero, List.set_cons_succ]
    refine wpAnyH_take (i := 16) (v := ?_) (by simp only [List.getElem?_toArray, List.getElem?_cons_succ, List.getElem?_cons_zero]; rfl) (by kernel_rfl) (by kernel_rfl) (by kernel_rfl) (fun _ _ _ h => by exact h) (Or.inl ⟨by rfl, ?_⟩) (by assumption) ?_
    rotate_left
    · (intro w hSw; (try dsimp only at hSw); go_simp; try with_reducible rfl)
    try simp only [Act.put, List.setIfInBounds_toArray, List.set_cons_zero, List.set_cons_succ]
    refine wpAnyH_take (i := 17) (v := ?_) (by simp only [List.getElem?_toArray, List.getElem?_cons_succ, List.getElem?_cons_zero]; rfl) (by kernel_rfl) (by kernel_rfl) (by kernel_rfl) (fun _ _ _ h => by exact h) (Or.inl ⟨by rfl, ?_⟩) (by assumption) ?_
    rotate_left
    · (intro w hSw; (try dsimp only at hSw); go_simp; try with_reducible rfl)
    try simp only [Act.put, List.setIfInBounds_toArray, List.set_cons_zero, List.set_cons_succ]
    refine wpAnyH_take (i := 18) (v := ?_) (by simp only [List.getElem?_toArray, List.getElem?_cons_succ, List.getElem?_cons_zero]; rfl) (by kernel_rfl) (by kernel_rfl) (by kernel_rfl) (fun _ _ _ h => by exact h) (Or.inl ⟨by rfl, ?_⟩) (by assumption) ?_
    rotate_left
    · (intro w hSw; (try dsimp only at hSw); go_simp; try with_reducible rfl)
    try simp only [Act.put, List.setIfInBounds_toArray, List.set_cons_zero, List.set_cons_succ]
    refine wpAnyH_done (by kernel_rfl) ?_ _
    go_wp2_with fail
    refine bodyPost_ret (v := .tuple #[.pointer u2, .string s, .pointer u4]) (by simp [results, Try.results63, go_sem]) rfl ?_
    exact HEND.out w7 HB9.out u2 u4 ((HU2.out.later HX6.out).later HX7.out) HU4.out
theorem around1_any {S : List Nat}  {Inv : Int → World → Prop} {Good : Int → List Kid → Nat → Int → Prop} {Rel : Int → List ByteArray → List ByteArray → ByteArray → List ByteArray → Int → Prop} (hp : Pick S 64 #[] Inv Good) (hy : Way Good Rel) (h : Nat) (hh : h ≤ 20) : AroundC1 S  Inv Rel h := by
  induction h with
  | zero => exact ar1_zero hp hy
  | succ h ih => exact ar1_succ hp hy (by omega) (ih (by omega))
def AroundC2 (S : List Nat)  (Inv : Int → World → Prop) (Rel : Int → List ByteArray → List ByteArray → ByteArray → List ByteArray → Int → Prop) (h : Nat) : Prop := ∀ (w : World) (b : Nat) (L : List ByteArray) (q : Int), KnotW w (Off S w) h b L → InS S w → Inv q w → (wholeL L).size ≤ 6000 →
  Calls Try.prog 63 #[pv b, (.func (.func 65) #[] #[])] w (RetAr S Inv Rel w q L)
set_option maxRecDepth 100000 in
set_option maxHeartbeats 800000 in
theorem ar2_zero {S : List Nat}  {Inv : Int → World → Prop} {Good : Int → List Kid → Nat → Int → Prop} {Rel : Int → List ByteArray → List ByteArray → ByteArray → List ByteArray → Int → Prop} (hp : Pick S 65 #[] Inv Good) (hy : Way Good Rel) : AroundC2 S  Inv Rel 0 := by
  intro w b L q k hS hq hz
  have cb := below_leaf k
  obtain ⟨-, s, rfl, hf, hB⟩ := k
  have cf := fun W (hW : Below w.heap.size w W) => first_blk (hB.onto hW)
  have HR := Lib.hid (fun W (hW : Below w.heap.size w W) => (show RetAr S Inv Rel w q [s] (.returned (.tuple #[.pointer none, .string s, .pointer none])) W from ⟨none, [], s, none, [], q, rfl, .inl ⟨rfl, rfl⟩, .inl ⟨rfl, rfl⟩, rfl, hy.base q s hf, hp.on q w W hq hW, .of_below hW⟩))
  have CB := Lib.hid cb; have CF := Lib.hid cf
  clear cb cf hB hf hq hS hz hp hy
  go_enter Try.func63, Try.ntmps63
  go_wp2_with fail
  refine CB.out.mono ?_; rintro e w1 ⟨rfl, hb1⟩
  have HB1 := Lib.hid hb1
  clear hb1
  go_wp2_with fail
  refine (onward HB1.out (CF.out w1 HB1.out)).mono ?_; rintro e w2 ⟨rfl, hb2⟩
  have HB2 := Lib.hid hb2
  clear hb2
  go_wp2
  refine bodyPost_ret (v := .tuple #[.pointer none, .string s, .pointer none]) (by simp [results, Try.results63, go_sem]) rfl ?_
  exact HR.out w2 HB2.out
set_option maxRecDepth 100000 in
set_option maxHeartbeats 1600000 in
theorem ar2_succ {S : List Nat}  {Inv : Int → World → Prop} {Good : Int → List Kid → Nat → Int → Prop} {Rel : Int → List ByteArray → List ByteArray → ByteArray → List ByteArray → Int → Prop} (hp : Pick S 65 #[] Inv Good) (hy : Way Good Rel) {h : Nat} (hh : h ≤ 20) (ih : AroundC2 S  Inv Rel h) : AroundC2 S  Inv Rel (h + 1) := by
  intro w b L q k hS hq hz
  obtain ⟨M, g, c, hM, rfl, -⟩ := k.node
  have cb := below_node hM (by omega)
  have h2 := hM.two
  have h8 := hM.eight
  obtain ⟨n, hn⟩ : ∃ n, M.length = n := ⟨_, rfl⟩
  rw [hn] at h2 h8
  have hj : ∀ (w1 : World) (g' : Nat), Below w.heap.size w w1 → PRow w1 g' 0 (ptrs M) → JoinP w1 (Off S w1) g' 0 n h M := fun w1 g' hb hr => ⟨hn, hr, fun k hk => (hM.kids k hk).later hb, fun i hi => hi.1, by omega, by omega⟩
  have hcall : ∀ (w1 : World) (g' c' : Nat), g' ∉ S → Below w.heap.size w w1 → PRow w1 g' 0 (ptrs M) → Calls Try.prog 65 #[.slice (some ⟨g', 0, none⟩) n c'] w1 fun e w' => ∃ (i : Nat) (q1 : Int), e = .returned (.int .i64 i) ∧ i < n ∧ Good q M i q1 ∧ Inv q1 w' ∧ Apart S w1 w' := fun w1 g' c' hgS hb hr => by
    have := hp.call q w1 g' c' h M hgS (hp.on q w w1 hq hb) (hS.on hb.size) (by rw [hn]; exact hj w1 g' hb hr) (by omega) (by omega)
    rw [hn] at this
    exact this
  have CB := Lib.hid cb; have CC := Lib.hid hcall; have HJ := Lib.hid hj; have HN := Lib.hid hn; have HS := Lib.hid hS; have HY := Lib.hid hy; have HI := Lib.hid ih; have HZ := Lib.hid hz; have HPO := Lib.hid hp.on
  clear cb hcall hj hn hS hy ih hz hp hM k hq
  go_enter Try.func63, Try.ntmps63
  go_wp2_with fail
  refine CB.out.mono ?_; rintro e w1 ⟨v1, rfl, ho1, hb1⟩
  obtain ⟨g', c', rfl, hc', hg', hr1⟩ := own_row ho1 (by rw [HN.out]; omega)
  rw [HN.out] at hc' ⊢
  have HGS := Lib.hid (show g' ∉ S from fun hm => by have := HS.out g' hm; omega)
  have cw := CC.out w1 g' c' HGS.out hb1 hr1
  have CW := Lib.hid cw
  have HJ1 := Lib.hid (HJ.out w1 g' hb1 hr1); have HB1 := Lib.hid hb1
  clear ho1 hb1 hg' hr1 cw
  have b0 : ((n : Int) == 0) = false := by simpa using (show ¬ (n : Int) = 0 by omega)
  have b0' : (n == 0) = false := by simpa using (show ¬ n = 0 by omega)
  go_wp2_with fail
  refine CW.out.mono ?_; rintro e w2 ⟨i, q1, rfl, hin, hgood, hq1, ha2⟩
  have hj2 := HJ1.out.apartS HGS.out ha2
  have q0 := hj2.cell hin
  rw [Nat.zero_add] at q0
  have hil : i < M.length := by rw [HN.out]; exact hin
  have hS2 : InS S w2 := HS.out.on (Nat.le_trans HB1.out.size ha2.size)
  have e0 := flat_pick hil
  have hxz : (wholeL M[i].L).size ≤ 6000 := by
    have := HZ.out
    rw [e0, whole_app, whole_app, ByteArray.size_append, ByteArray.size_append] at this
    omega
  have ci := HI.out w2 M[i].b M[i].L q1 (hj2.kids _ (List.getElem_mem hil)) hS2 hq1 hxz
  have HST := Lib.hid (fun A s C q' => HY.out.step q M i q1 A s C q' hil hgood)
  have HXL := Lib.hid e0
  obtain ⟨xb, hxb⟩ : ∃ xb, M[i].b = xb := ⟨_, rfl⟩
  obtain ⟨xL, hxL⟩ : ∃ xL, M[i].L = xL := ⟨_, rfl⟩
  rw [hxb] at q0 ci
  rw [hxL] at ci HST HXL
  have CI := Lib.hid ci; have HJ2 := Lib.hid hj2; have HA2 := Lib.hid ((Apart.of_below HB1.out : Apart S w w1).trans ha2 (fun x hx => .inl hx)); have HS2 := Lib.hid hS2
  have b1 : (0 : Int) ≤ (i : Int) := by omega
  have b2 : (i : Int) < (n : Int) := by omega
  clear ci hj2 ha2 hgood hq1 hxz hil hxb hxL e0 hS2
  go_wp2_with fail
  refine CI.out.mono ?_; rintro e w3 ⟨p1, A, s, p2, C, q', rfl, t1, t2, hL, hrel, hq3, ha3⟩
  have hj3 := HJ2.out.apartS HGS.out ha3
  have hsA : InS S w3 := HS2.out.on ha3.size
  have hall : flat M = (flat (M.take i) ++ A) ++ ([s] ++ (C ++ flat (M.drop (i + 1)))) := by rw [HXL.out, hL]; simp only [List.append_assoc]
  have hz1 : (wholeL (flat (M.take i) ++ A)).size ≤ 6000 := by
    have := HZ.out
    rw [hall] at this
    simp only [whole_szs] at this ⊢
    omega
  have hz2 : (wholeL (C ++ flat (M.drop (i + 1)))).size ≤ 6000 := by
    have := HZ.out
    rw [hall] at this
    simp only [whole_szs] at this ⊢
    omega
  have ca : ∀ W, Below w3.heap.size w3 W → Calls Try.prog 68 #[.slice (some ⟨g', 0, none⟩) i c'] W (RetTr S W (flat (M.take i))) := fun W hW => up_side (hsA.on hW.size) ((hj3.later hW).head (by omega)) (by omega)
  have cc : ∀ W o (len cap : Nat), Below w3.heap.size w3 W → len = n - (i + 1) → (o = i + 1 ∨ n = i + 1) → Calls Try.prog 68 #[.slice (some ⟨g', o, none⟩) len cap] W (RetTr S W (flat (M.drop (i + 1)))) := fun W o len cap hW hlen ho => by
    subst hlen
    have := (hj3.later hW).tail (i + 1)
    rw [Nat.zero_add] at this
    rcases ho with rfl | ho
    · exact up_side (hsA.on hW.size) this (by omega)
    · exact up_side (hsA.on hW.size) (this.none (by omega) o) (by omega)
  have ct1 : ∀ W p, Below w3.heap.size w3 W → Tr W S p (flat (M.take i)) → Calls Try.prog 62 #[.slice (some ⟨W.heap.size, 0, none⟩) (2 : Nat) (2 : Nat)] (W.alloc (.cells #[.pointer p, .pointer p1] 44)) (RetTr S W (flat (M.take i) ++ A)) := fun W p hW hp =>
    together_two (hsA.on hW.size) hp (t1.later hW) hz1
  have ct2 : ∀ W p, Below w3.heap.size w3 W → Tr W S p (flat (M.drop (i + 1))) → Calls Try.prog 62 #[.slice (some ⟨W.heap.size, 0, none⟩) (2 : Nat) (2 : Nat)] (W.alloc (.cells #[.pointer p2, .pointer p] 44)) (RetTr S W (C ++ flat (M.drop (i + 1)))) := fun W p hW hp =>
    together_two (hsA.on hW.size) (t2.later hW) hp hz2
  have HEND := Lib.hid (fun W (hW : Below w3.heap.size w3 W) u v (hu : Tr W S u (flat (M.take i) ++ A)) (hv : Tr W S v (C ++ flat (M.drop (i + 1)))) => (show RetAr S Inv Rel w q (flat M) (.returned (.tuple #[.pointer u, .string s, .pointer v])) W from ⟨u, _, s, v, _, q', rfl, hu, hv, hall, HST.out A s C q' hrel, HPO.out q' w3 W hq3 hW, (HA2.out.trans ha3 (fun x hx => .inl hx)).trans (Apart.of_below hW : Apart S w3 W) (fun x hx => .inl hx)⟩))
  have CA := Lib.hid ca; have CD := Lib.hid cc; have T1 := Lib.hid ct1; have T2 := Lib.hid ct2
  have b3 : (i : Int) ≤ (c' : Int) := by omega
  have b3' : i ≤ c' := by omega
  have b4 : (i : Int) + 1 ≤ (n : Int) := by omega
  have b5 : (n : Int) ≤ (c' : Int) := by omega
  have b6 : IntKind.i64.wrap ((i : Int) + 1) = (i : Int) + 1 := IntWalk.i64_in _ (by omega)
  have b7 : ((i : Int) + 1).toNat = i + 1 := by omega
  have b8 : (0 : Int) ≤ (i : Int) + 1 := by omega
  clear ca cc ct1 ct2 hall hz1 hz2 hsA hj3 t1 t2 hL hrel hq3 ha3
  go_wp2_with fail
  by_cases hcz : c' = i + 1
  · subst hcz
    have b9 : (i : Int) ≤ (i : Int) + 1 := by omega
    refine wp_region_held_drew (S := (fun w' : World => Below w3.heap.size w3 w')) (by kernel_rfl) (Below.refl _ _).drew (fun hHeld => ?_)
    refine wpAnyH_take (i := 0) (v := ?_) (by simp only [List.getElem?_toArray, List.getElem?_cons_succ, List.getElem?_cons_zero]; rfl) (by kernel_rfl) (by kernel_rfl) (by kernel_rfl) (fun _ _ _ h => by exact h) (Or.inl ⟨by rfl, ?_⟩) (by assumption) ?_
    rotate_left
    · (intro w hSw; (try dsimp only at hSw); go_simp; try with_reducible rfl)
    try simp only [Act.put, List.setIfInBounds_toArray, List.set_cons_zero, List.set_cons_succ]
    refine wpAnyH_take (i := 1) (v := ?_) (by simp only [List.getElem?_toArray, List.getElem?_cons_succ, List.getElem?_cons_zero]; rfl) (by kernel_rfl) (by kernel_rfl) (by kernel_rfl) (fun _ _ _ h => by exact h) (Or.inl ⟨by rfl, ?_⟩) (by assumption) ?_
    rotate_left
    · (intro w hSw; (try dsimp only at hSw); go_simp; try with_reducible rfl)
    try simp only [Act.put, List.setIfInBounds_toArray, List.set_cons_zero, List.set_cons_succ]
    refine wpAnyH_take (i := 2) (v := ?_) (by simp only [List.getElem?_toArray, List.getElem?_cons_succ, List.getElem?_cons_zero]; rfl) (by kernel_rfl) (by kernel_rfl) (by kernel_rfl) (fun _ _ _ h => by exact h) (Or.inl ⟨by rfl, ?_⟩) (by assumption) ?_
    rotate_left
    · (intro w hSw; (try dsimp only at hSw); go_simp; try with_reducible rfl)
    try simp only [Act.put, List.setIfInBounds_toArray, List.set_cons_zero, List.set_cons_succ]
    refine wpAnyH_take (i := 4) (v := ?_) (by simp only [List.getElem?_toArray, List.getElem?_cons_succ, List.getElem?_cons_zero]; rfl) (by kernel_rfl) (by kernel_rfl) (by kernel_rfl) (fun _ _ _ h => by exact h) (Or.inl ⟨by rfl, ?_⟩) (by assumption) ?_
    rotate_left
    · (intro w hSw; (try dsimp only at hSw); go_simp; try with_reducible rfl)
    try simp only [Act.put, List.setIfInBounds_toArray, List.set_cons_zero, List.set_cons_succ]
    refine wpAnyH_take (i := 7) (v := ?_) (by simp only [List.getElem?_toArray, List.getElem?_cons_succ, List.getElem?_cons_zero]; rfl) (by kernel_rfl) (by kernel_rfl) (by kernel_rfl) (fun _ _ _ h => by exact h) (Or.inl ⟨by rfl, ?_⟩) (by assumption) ?_
    rotate_left
    · (intro w hSw; (try dsimp only at hSw); go_simp; try with_reducible rfl)
    try simp only [Act.put, List.setIfInBounds_toArray, List.set_cons_zero, List.set_cons_succ]
    refine wpAnyH_take (i := 8) (v := ?_) (by simp only [List.getElem?_toArray, List.getElem?_cons_succ, List.getElem?_cons_zero]; rfl) (by kernel_rfl) (by kernel_rfl) (by kernel_rfl) (fun _ _ _ h => by exact h) (Or.inl ⟨by rfl, ?_⟩) (by assumption) ?_
    rotate_left
    · (intro w hSw; (try dsimp only at hSw); go_simp; try with_reducible rfl)
    try simp only [Act.put, List.setIfInBounds_toArray, List.set_cons_zero, List.set_cons_succ]
    refine wpAnyH_take (i := 9) (v := ?_) (by simp only [List.getElem?_toArray, List.getElem?_cons_succ, List.getElem?_cons_zero]; rfl) (by kernel_rfl) (by kernel_rfl) (by kernel_rfl) (fun _ _ _ h => by exact h) (Or.inl ⟨by rfl, ?_⟩) (by assumption) ?_
    rotate_left
    · (intro w hSw; (try dsimp only at hSw); go_simp; try with_reducible rfl)
    try simp only [Act.put, List.setIfInBounds_toArray, List.set_cons_zero, List.set_cons_succ]
    refine wpAnyH_take (i := 10) (v := ?_) (by simp only [List.getElem?_toArray, List.getElem?_cons_succ, List.getElem?_cons_zero]; rfl) (by kernel_rfl) (by kernel_rfl) (by kernel_rfl) (fun _ _ _ h => by exact h) (Or.inl ⟨by rfl, ?_⟩) (by assumption) ?_
    rotate_left
    · (intro w hSw; (try dsimp only at hSw); go_simp; try with_reducible rfl)
    try simp only [Act.put, List.setIfInBounds_toArray, List.set_cons_zero, List.set_cons_succ]
    refine wpAnyH_take (i := 11) (v := ?_) (by simp only [List.getElem?_toArray, List.getElem?_cons_succ, List.getElem?_cons_zero]; rfl) (by kernel_rfl) (by kernel_rfl) (by kernel_rfl) (fun _ _ _ h => by exact h) (Or.inl ⟨by rfl, ?_⟩) (by assumption) ?_
    rotate_left
    · (intro w hSw; (try dsimp only at hSw); go_simp; try with_reducible rfl)
    try simp only [Act.put, List.setIfInBounds_toArray, List.set_cons_zero, List.set_cons_succ]
    refine wpAnyH_take (i := 12) (v := ?_) (by simp only [List.getElem?_toArray, List.getElem?_cons_succ, List.getElem?_cons_zero]; rfl) (by kernel_rfl) (by kernel_rfl) (by kernel_rfl) (fun _ _ _ h => by exact h) (Or.inl ⟨by rfl, ?_⟩) (by assumption) ?_
    rotate_left
    · (intro w hSw; (try dsimp only at hSw); go_simp; try with_reducible rfl)
    try simp only [Act.put, List.setIfInBounds_toArray, List.set_cons_zero, List.set_cons_succ]
    refine wpAnyH_ready (rs := [3]) (by kernel_rfl) (by simp) ?_
    refine AllReadyH.cons (by simp only [List.getElem?_toArray, List.getElem?_cons_succ, List.getElem?_cons_zero]; rfl) (fun K hK => ?_) AllReadyH.nil
    go_simp
    (go_at_call 68; refine (CA.out _ hHeld).mono ?_; rintro e w4 ⟨u1, rfl, hu1, hb4⟩; have HB4 := Lib.hid (hHeld.trans (hb4.mono hHeld.size)); have HU1 := Lib.hid hu1; clear hu1 hb4)
    try go_wp2_with fail
    refine hK.out _ _ ?_ (fun hHeld => ?_)
    · exact HB4.out
    clear hK K
    try simp only [Act.put, List.setIfInBounds_toArray, List.set_cons_zero, List.set_cons_succ]
    refine wpAnyH_ready (rs := [5]) (by kernel_rfl) (by simp) ?_
    refine AllReadyH.cons (by simp only [List.getElem?_toArray, List.getElem?_cons_succ, List.getElem?_cons_zero]; rfl) (fun K hK => ?_) AllReadyH.nil
    go_simp
    have HB5 := Lib.hid (HB4.out.alloc HB4.out.size (.cells #[.pointer u1, .pointer p1] 44))
    try go_wp2_with fail
    refine hK.out _ _ ?_ (fun hHeld => ?_)
    · exact HB5.out
    clear hK K
    try simp only [Act.put, List.setIfInBounds_toArray, List.set_cons_zero, List.set_cons_succ]
    refine wpAnyH_ready (rs := [6]) (by kernel_rfl) (by simp) ?_
    refine AllReadyH.cons (by simp only [List.getElem?_toArray, List.getElem?_cons_succ, List.getElem?_cons_zero]; rfl) (fun K hK => ?_) AllReadyH.nil
    go_simp
    (go_at_call 62; refine (T1.out w4 u1 HB4.out HU1.out).mono ?_; rintro e w5 ⟨u2, rfl, hu2, hb5⟩; have HB6 := Lib.hid (HB4.out.trans (hb5.mono HB4.out.size)); have HU2 := Lib.hid hu2; clear hu2 hb5)
    try go_wp2_with fail
    refine hK.out _ _ ?_ (fun hHeld => ?_)
    · exact HB6.out
    clear hK K
    try simp only [Act.put, List.setIfInBounds_toArray, List.set_cons_zero, List.set_cons_succ]
    refine wpAnyH_ready (rs := [13]) (by kernel_rfl) (by simp) ?_
    refine AllReadyH.cons (by simp only [List.getElem?_toArray, List.getElem?_cons_succ, List.getElem?_cons_zero]; rfl) (fun K hK => ?_) AllReadyH.nil
    go_simp
    (go_at_call 68; refine (CD.out _ 0 0 _ HB6.out (by omega) (.inr (by omega))).mono ?_; rintro e w6 ⟨u3, rfl, hu3, hb6⟩; have HB7 := Lib.hid (HB6.out.trans (hb6.mono HB6.out.size)); have HX6 := Lib.hid hb6; have HU3 := Lib.hid hu3; clear hu3 hb6)
    try go_wp2_with fail
    refine hK.out _ _ ?_ (fun hHeld => ?_)
    · exact HB7.out
    clear hK K
    try simp only [Act.put, List.setIfInBounds_toArray, List.set_cons_zero, List.set_cons_succ]
    refine wpAnyH_ready (rs := [14]) (by kernel_rfl) (by simp) ?_
    refine AllReadyH.cons (by simp only [List.getElem?_toArray, List.getElem?_cons_succ, List.getElem?_cons_zero]; rfl) (fun K hK => ?_) AllReadyH.nil
    go_simp
    have HB8 := Lib.hid (HB7.out.alloc HB7.out.size (.cells #[.pointer p2, .pointer u3] 44))
    try go_wp2_with fail
    refine hK.out _ _ ?_ (fun hHeld => ?_)
    · exact HB8.out
    clear hK K
    try simp only [Act.put, List.setIfInBounds_toArray, List.set_cons_zero, List.set_cons_succ]
    refine wpAnyH_ready (rs := [15]) (by kernel_rfl) (by simp) ?_
    refine AllReadyH.cons (by simp only [List.getElem?_toArray, List.getElem?_cons_succ, List.getElem?_cons_zero]; rfl) (fun K hK => ?_) AllReadyH.nil
    go_simp
    (go_at_call 62; refine (T2.out w6 u3 HB7.out HU3.out).mono ?_; rintro e w7 ⟨u4, rfl, hu4, hb7⟩; have HB9 := Lib.hid (HB7.out.trans (hb7.mono HB7.out.size)); have HX7 := Lib.hid hb7; have HU4 := Lib.hid hu4; clear hu4 hb7)
    try go_wp2_with fail
    refine hK.out _ _ ?_ (fun hHeld => ?_)
    · exact HB9.out
    clear hK K
    try simp only [Act.put, List.setIfInBounds_toArray, List.set_cons_zero, List.set_cons_succ]
    refine wpAnyH_take (i := 16) (v := ?_) (by simp only [List.getElem?_toArray, List.getElem?_cons_succ, List.getElem?_cons_zero]; rfl) (by kernel_rfl) (by kernel_rfl) (by kernel_rfl) (fun _ _ _ h => by exact h) (Or.inl ⟨by rfl, ?_⟩) (by assumption) ?_
    rotate_left
    · (intro w hSw; (try dsimp only at hSw); go_simp; try with_reducible rfl)
    try simp only [Act.put, List.setIfInBounds_toArray, List.set_cons_zero, List.set_cons_succ]
    refine wpAnyH_take (i := 17) (v := ?_) (by simp only [List.getElem?_toArray, List.getElem?_cons_succ, List.getElem?_cons_zero]; rfl) (by kernel_rfl) (by kernel_rfl) (by kernel_rfl) (fun _ _ _ h => by exact h) (Or.inl ⟨by rfl, ?_⟩) (by assumption) ?_
    rotate_left
    · (intro w hSw; (try dsimp only at hSw); go_simp; try with_reducible rfl)
    try simp only [Act.put, List.setIfInBounds_toArray, List.set_cons_zero, List.set_cons_succ]
    refine wpAnyH_take (i := 18) (v := ?_) (by simp only [List.getElem?_toArray, List.getElem?_cons_succ, List.getElem?_cons_zero]; rfl) (by kernel_rfl) (by kernel_rfl) (by kernel_rfl) (fun _ _ _ h => by exact h) (Or.inl ⟨by rfl, ?_⟩) (by assumption) ?_
    rotate_left
    · (intro w hSw; (try dsimp only at hSw); go_simp; try with_reducible rfl)
    try simp only [Act.put, List.setIfInBounds_toArray, List.set_cons_zero, List.set_cons_succ]
    refine wpAnyH_done (by kernel_rfl) ?_ _
    go_wp2_with fail
    refine bodyPost_ret (v := .tuple #[.pointer u2, .string s, .pointer u4]) (by simp [results, Try.results63, go_sem]) rfl ?_
    exact HEND.out w7 HB9.out u2 u4 ((HU2.out.later HX6.out).later HX7.out) HU4.out
  ·
    refine wp_region_held_drew (S := (fun w' : World => Below w3.heap.size w3 w')) (by kernel_rfl) (Below.refl _ _).drew (fun hHeld => ?_)
    refine wpAnyH_take (i := 0) (v := ?_) (by simp only [List.getElem?_toArray, List.getElem?_cons_succ, List.getElem?_cons_zero]; rfl) (by kernel_rfl) (by kernel_rfl) (by kernel_rfl) (fun _ _ _ h => by exact h) (Or.inl ⟨by rfl, ?_⟩) (by assumption) ?_
    rotate_left
    · (intro w hSw; (try dsimp only at hSw); go_simp; try with_reducible rfl)
    try simp only [Act.put, List.setIfInBounds_toArray, List.set_cons_zero, List.set_cons_succ]
    refine wpAnyH_take (i := 1) (v := ?_) (by simp only [List.getElem?_toArray, List.getElem?_cons_succ, List.getElem?_cons_zero]; rfl) (by kernel_rfl) (by kernel_rfl) (by kernel_rfl) (fun _ _ _ h => by exact h) (Or.inl ⟨by rfl, ?_⟩) (by assumption) ?_
    rotate_left
    · (intro w hSw; (try dsimp only at hSw); go_simp; try with_reducible rfl)
    try simp only [Act.put, List.setIfInBounds_toArray, List.set_cons_zero, List.set_cons_succ]
    refine wpAnyH_take (i := 2) (v := ?_) (by simp only [List.getElem?_toArray, List.getElem?_cons_succ, List.getElem?_cons_zero]; rfl) (by kernel_rfl) (by kernel_rfl) (by kernel_rfl) (fun _ _ _ h => by exact h) (Or.inl ⟨by rfl, ?_⟩) (by assumption) ?_
    rotate_left
    · (intro w hSw; (try dsimp only at hSw); go_simp; try with_reducible rfl)
    try simp only [Act.put, List.setIfInBounds_toArray, List.set_cons_zero, List.set_cons_succ]
    refine wpAnyH_take (i := 4) (v := ?_) (by simp only [List.getElem?_toArray, List.getElem?_cons_succ, List.getElem?_cons_zero]; rfl) (by kernel_rfl) (by kernel_rfl) (by kernel_rfl) (fun _ _ _ h => by exact h) (Or.inl ⟨by rfl, ?_⟩) (by assumption) ?_
    rotate_left
    · (intro w hSw; (try dsimp only at hSw); go_simp; try with_reducible rfl)
    try simp only [Act.put, List.setIfInBounds_toArray, List.set_cons_zero, List.set_cons_succ]
    refine wpAnyH_take (i := 7) (v := ?_) (by simp only [List.getElem?_toArray, List.getElem?_cons_succ, List.getElem?_cons_zero]; rfl) (by kernel_rfl) (by kernel_rfl) (by kernel_rfl) (fun _ _ _ h => by exact h) (Or.inl ⟨by rfl, ?_⟩) (by assumption) ?_
    rotate_left
    · (intro w hSw; (try dsimp only at hSw); go_simp; try with_reducible rfl)
    try simp only [Act.put, List.setIfInBounds_toArray, List.set_cons_zero, List.set_cons_succ]
    refine wpAnyH_take (i := 8) (v := ?_) (by simp only [List.getElem?_toArray, List.getElem?_cons_succ, List.getElem?_cons_zero]; rfl) (by kernel_rfl) (by kernel_rfl) (by kernel_rfl) (fun _ _ _ h => by exact h) (Or.inl ⟨by rfl, ?_⟩) (by assumption) ?_
    rotate_left
    · (intro w hSw; (try dsimp only at hSw); go_simp; try with_reducible rfl)
    try simp only [Act.put, List.setIfInBounds_toArray, List.set_cons_zero, List.set_cons_succ]
    refine wpAnyH_take (i := 9) (v := ?_) (by simp only [List.getElem?_toArray, List.getElem?_cons_succ, List.getElem?_cons_zero]; rfl) (by kernel_rfl) (by kernel_rfl) (by kernel_rfl) (fun _ _ _ h => by exact h) (Or.inl ⟨by rfl, ?_⟩) (by assumption) ?_
    rotate_left
    · (intro w hSw; (try dsimp only at hSw); go_simp; try with_reducible rfl)
    try simp only [Act.put, List.setIfInBounds_toArray, List.set_cons_zero, List.set_cons_succ]
    refine wpAnyH_take (i := 10) (v := ?_) (by simp only [List.getElem?_toArray, List.getElem?_cons_succ, List.getElem?_cons_zero]; rfl) (by kernel_rfl) (by kernel_rfl) (by kernel_rfl) (fun _ _ _ h => by exact h) (Or.inl ⟨by rfl, ?_⟩) (by assumption) ?_
    rotate_left
    · (intro w hSw; (try dsimp only at hSw); go_simp; try with_reducible rfl)
    try simp only [Act.put, List.setIfInBounds_toArray, List.set_cons_zero, List.set_cons_succ]
    refine wpAnyH_take (i := 11) (v := ?_) (by simp only [List.getElem?_toArray, List.getElem?_cons_succ, List.getElem?_cons_zero]; rfl) (by kernel_rfl) (by kernel_rfl) (by kernel_rfl) (fun _ _ _ h => by exact h) (Or.inl ⟨by rfl, ?_⟩) (by assumption) ?_
    rotate_left
    · (intro w hSw; (try dsimp only at hSw); go_simp; try with_reducible rfl)
    try simp only [Act.put, List.setIfInBounds_toArray, List.set_cons_zero, List.set_cons_succ]
    refine wpAnyH_take (i := 12) (v := ?_) (by simp only [List.getElem?_toArray, List.getElem?_cons_succ, List.getElem?_cons_zero]; rfl) (by kernel_rfl) (by kernel_rfl) (by kernel_rfl) (fun _ _ _ h => by exact h) (Or.inl ⟨by rfl, ?_⟩) (by assumption) ?_
    rotate_left
    · (intro w hSw; (try dsimp only at hSw); go_simp; try with_reducible rfl)
    try simp only [Act.put, List.setIfInBounds_toArray, List.set_cons_zero, List.set_cons_succ]
    refine wpAnyH_ready (rs := [3]) (by kernel_rfl) (by simp) ?_
    refine AllReadyH.cons (by simp only [List.getElem?_toArray, List.getElem?_cons_succ, List.getElem?_cons_zero]; rfl) (fun K hK => ?_) AllReadyH.nil
    go_simp
    (go_at_call 68; refine (CA.out _ hHeld).mono ?_; rintro e w4 ⟨u1, rfl, hu1, hb4⟩; have HB4 := Lib.hid (hHeld.trans (hb4.mono hHeld.size)); have HU1 := Lib.hid hu1; clear hu1 hb4)
    try go_wp2_with fail
    refine hK.out _ _ ?_ (fun hHeld => ?_)
    · exact HB4.out
    clear hK K
    try simp only [Act.put, List.setIfInBounds_toArray, List.set_cons_zero, List.set_cons_succ]
    refine wpAnyH_ready (rs := [5]) (by kernel_rfl) (by simp) ?_
    refine AllReadyH.cons (by simp only [List.getElem?_toArray, List.getElem?_cons_succ, List.getElem?_cons_zero]; rfl) (fun K hK => ?_) AllReadyH.nil
    go_simp
    have HB5 := Lib.hid (HB4.out.alloc HB4.out.size (.cells #[.pointer u1, .pointer p1] 44))
    try go_wp2_with fail
    refine hK.out _ _ ?_ (fun hHeld => ?_)
    · exact HB5.out
    clear hK K
    try simp only [Act.put, List.setIfInBounds_toArray, List.set_cons_zero, List.set_cons_succ]
    refine wpAnyH_ready (rs := [6]) (by kernel_rfl) (by simp) ?_
    refine AllReadyH.cons (by simp only [List.getElem?_toArray, List.getElem?_cons_succ, List.getElem?_cons_zero]; rfl) (fun K hK => ?_) AllReadyH.nil
    go_simp
    (go_at_call 62; refine (T1.out w4 u1 HB4.out HU1.out).mono ?_; rintro e w5 ⟨u2, rfl, hu2, hb5⟩; have HB6 := Lib.hid (HB4.out.trans (hb5.mono HB4.out.size)); have HU2 := Lib.hid hu2; clear hu2 hb5)
    try go_wp2_with fail
    refine hK.out _ _ ?_ (fun hHeld => ?_)
    · exact HB6.out
    clear hK K
    try simp only [Act.put, List.setIfInBounds_toArray, List.set_cons_zero, List.set_cons_succ]
    refine wpAnyH_ready (rs := [13]) (by kernel_rfl) (by simp) ?_
    refine AllReadyH.cons (by simp only [List.getElem?_toArray, List.getElem?_cons_succ, List.getElem?_cons_zero]; rfl) (fun K hK => ?_) AllReadyH.nil
    go_simp
    (go_at_call 68; refine (CD.out _ (i + 1) (n - (i + 1)) _ HB6.out (by omega) (.inl rfl)).mono ?_; rintro e w6 ⟨u3, rfl, hu3, hb6⟩; have HB7 := Lib.hid (HB6.out.trans (hb6.mono HB6.out.size)); have HX6 := Lib.hid hb6; have HU3 := Lib.hid hu3; clear hu3 hb6)
    try go_wp2_with fail
    refine hK.out _ _ ?_ (fun hHeld => ?_)
    · exact HB7.out
    clear hK K
    try simp only [Act.put, List.setIfInBounds_toArray, List.set_cons_zero, List.set_cons_succ]
    refine wpAnyH_ready (rs := [14]) (by kernel_rfl) (by simp) ?_
    refine AllReadyH.cons (by simp only [List.getElem?_toArray, List.getElem?_cons_succ, List.getElem?_cons_zero]; rfl) (fun K hK => ?_) AllReadyH.nil
    go_simp
    have HB8 := Lib.hid (HB7.out.alloc HB7.out.size (.cells #[.pointer p2, .pointer u3] 44))
    try go_wp2_with fail
    refine hK.out _ _ ?_ (fun hHeld => ?_)
    · exact HB8.out
    clear hK K
    try simp only [Act.put, List.setIfInBounds_toArray, List.set_cons_zero, List.set_cons_succ]
    refine wpAnyH_ready (rs := [15]) (by kernel_rfl) (by simp) ?_
    refine AllReadyH.cons (by simp only [List.getElem?_toArray, List.getElem?_cons_succ, List.getElem?_cons_zero]; rfl) (fun K hK => ?_) AllReadyH.nil
    go_simp
    (go_at_call 62; refine (T2.out w6 u3 HB7.out HU3.out).mono ?_; rintro e w7 ⟨u4, rfl, hu4, hb7⟩; have HB9 := Lib.hid (HB7.out.trans (hb7.mono HB7.out.size)); have HX7 := Lib.hid hb7; have HU4 := Lib.hid hu4; clear hu4 hb7)
    try go_wp2_with fail
    refine hK.out _ _ ?_ (fun hHeld => ?_)
    · exact HB9.out
    clear hK K
    try simp only [Act.put, List.setIfInBounds_toArray, List.set_cons_zero, List.set_cons_succ]
    refine wpAnyH_take (i := 16) (v := ?_) (by simp only [List.getElem?_toArray, List.getElem?_cons_succ, List.getElem?_cons_zero]; rfl) (by kernel_rfl) (by kernel_rfl) (by kernel_rfl) (fun _ _ _ h => by exact h) (Or.inl ⟨by rfl, ?_⟩) (by assumption) ?_
    rotate_left
    · (intro w hSw; (try dsimp only at hSw); go_simp; try with_reducible rfl)
    try simp only [Act.put, List.setIfInBounds_toArray, List.set_cons_zero, List.set_cons_succ]
    refine wpAnyH_take (i := 17) (v := ?_) (by simp only [List.getElem?_toArray, List.getElem?_cons_succ, List.getElem?_cons_zero]; rfl) (by kernel_rfl) (by kernel_rfl) (by kernel_rfl) (fun _ _ _ h => by exact h) (Or.inl ⟨by rfl, ?_⟩) (by assumption) ?_
    rotate_left
    · (intro w hSw; (try dsimp only at hSw); go_simp; try with_reducible rfl)
    try simp only [Act.put, List.setIfInBounds_toArray, List.set_cons_zero, List.set_cons_succ]
    refine wpAnyH_take (i := 18) (v := ?_) (by simp only [List.getElem?_toArray, List.getElem?_cons_succ, List.getElem?_cons_zero]; rfl) (by kernel_rfl) (by kernel_rfl) (by kernel_rfl) (fun _ _ _ h => by exact h) (Or.inl ⟨by rfl, ?_⟩) (by assumption) ?_
    rotate_left
    · (intro w hSw; (try dsimp only at hSw); go_simp; try with_reducible rfl)
    try simp only [Act.put, List.setIfInBounds_toArray, List.set_cons_zero, List.set_cons_succ]
    refine wpAnyH_done (by kernel_rfl) ?_ _
    go_wp2_with fail
    refine bodyPost_ret (v := .tuple #[.pointer u2, .string s, .pointer u4]) (by simp [results, Try.results63, go_sem]) rfl ?_
    exact HEND.out w7 HB9.out u2 u4 ((HU2.out.later HX6.out).later HX7.out) HU4.out
theorem around2_any {S : List Nat}  {Inv : Int → World → Prop} {Good : Int → List Kid → Nat → Int → Prop} {Rel : Int → List ByteArray → List ByteArray → ByteArray → List ByteArray → Int → Prop} (hp : Pick S 65 #[] Inv Good) (hy : Way Good Rel) (h : Nat) (hh : h ≤ 20) : AroundC2 S  Inv Rel h := by
  induction h with
  | zero => exact ar2_zero hp hy
  | succ h ih => exact ar2_succ hp hy (by omega) (ih (by omega))
def AroundC3 (S : List Nat) (bt : Nat) (Inv : Int → World → Prop) (Rel : Int → List ByteArray → List ByteArray → ByteArray → List ByteArray → Int → Prop) (h : Nat) : Prop := ∀ (w : World) (b : Nat) (L : List ByteArray) (q : Int), KnotW w (Off S w) h b L → InS S w → Inv q w → (wholeL L).size ≤ 6000 →
  Calls Try.prog 63 #[pv b, (.func (.func 78) #[] #[.pointer (some ⟨bt, 0, none⟩)])] w (RetAr S Inv Rel w q L)
set_option maxRecDepth 100000 in
set_option maxHeartbeats 800000 in
theorem ar3_zero {S : List Nat} {bt : Nat} {Inv : Int → World → Prop} {Good : Int → List Kid → Nat → Int → Prop} {Rel : Int → List ByteArray → List ByteArray → ByteArray → List ByteArray → Int → Prop} (hp : Pick S 78 #[.pointer (some ⟨bt, 0, none⟩)] Inv Good) (hy : Way Good Rel) : AroundC3 S bt Inv Rel 0 := by
  intro w b L q k hS hq hz
  have cb := below_leaf k
  obtain ⟨-, s, rfl, hf, hB⟩ := k
  have cf := fun W (hW : Below w.heap.size w W) => first_blk (hB.onto hW)
  have HR := Lib.hid (fun W (hW : Below w.heap.size w W) => (show RetAr S Inv Rel w q [s] (.returned (.tuple #[.pointer none, .string s, .pointer none])) W from ⟨none, [], s, none, [], q, rfl, .inl ⟨rfl, rfl⟩, .inl ⟨rfl, rfl⟩, rfl, hy.base q s hf, hp.on q w W hq hW, .of_below hW⟩))
  have CB := Lib.hid cb; have CF := Lib.hid cf
  clear cb cf hB hf hq hS hz hp hy
  go_enter Try.func63, Try.ntmps63
  go_wp2_with fail
  refine CB.out.mono ?_; rintro e w1 ⟨rfl, hb1⟩
  have HB1 := Lib.hid hb1
  clear hb1
  go_wp2_with fail
  refine (onward HB1.out (CF.out w1 HB1.out)).mono ?_; rintro e w2 ⟨rfl, hb2⟩
  have HB2 := Lib.hid hb2
  clear hb2
  go_wp2
  refine bodyPost_ret (v := .tuple #[.pointer none, .string s, .pointer none]) (by simp [results, Try.results63, go_sem]) rfl ?_
  exact HR.out w2 HB2.out
set_option maxRecDepth 100000 in
set_option maxHeartbeats 1600000 in
theorem ar3_succ {S : List Nat} {bt : Nat} {Inv : Int → World → Prop} {Good : Int → List Kid → Nat → Int → Prop} {Rel : Int → List ByteArray → List ByteArray → ByteArray → List ByteArray → Int → Prop} (hp : Pick S 78 #[.pointer (some ⟨bt, 0, none⟩)] Inv Good) (hy : Way Good Rel) {h : Nat} (hh : h ≤ 20) (ih : AroundC3 S bt Inv Rel h) : AroundC3 S bt Inv Rel (h + 1) := by
  intro w b L q k hS hq hz
  obtain ⟨M, g, c, hM, rfl, -⟩ := k.node
  have cb := below_node hM (by omega)
  have h2 := hM.two
  have h8 := hM.eight
  obtain ⟨n, hn⟩ : ∃ n, M.length = n := ⟨_, rfl⟩
  rw [hn] at h2 h8
  have hj : ∀ (w1 : World) (g' : Nat), Below w.heap.size w w1 → PRow w1 g' 0 (ptrs M) → JoinP w1 (Off S w1) g' 0 n h M := fun w1 g' hb hr => ⟨hn, hr, fun k hk => (hM.kids k hk).later hb, fun i hi => hi.1, by omega, by omega⟩
  have hcall : ∀ (w1 : World) (g' c' : Nat), g' ∉ S → Below w.heap.size w w1 → PRow w1 g' 0 (ptrs M) → Calls Try.prog 78 #[.slice (some ⟨g', 0, none⟩) n c', .pointer (some ⟨bt, 0, none⟩)] w1 fun e w' => ∃ (i : Nat) (q1 : Int), e = .returned (.int .i64 i) ∧ i < n ∧ Good q M i q1 ∧ Inv q1 w' ∧ Apart S w1 w' := fun w1 g' c' hgS hb hr => by
    have := hp.call q w1 g' c' h M hgS (hp.on q w w1 hq hb) (hS.on hb.size) (by rw [hn]; exact hj w1 g' hb hr) (by omega) (by omega)
    rw [hn] at this
    exact this
  have CB := Lib.hid cb; have CC := Lib.hid hcall; have HJ := Lib.hid hj; have HN := Lib.hid hn; have HS := Lib.hid hS; have HY := Lib.hid hy; have HI := Lib.hid ih; have HZ := Lib.hid hz; have HPO := Lib.hid hp.on
  clear cb hcall hj hn hS hy ih hz hp hM k hq
  go_enter Try.func63, Try.ntmps63
  go_wp2_with fail
  refine CB.out.mono ?_; rintro e w1 ⟨v1, rfl, ho1, hb1⟩
  obtain ⟨g', c', rfl, hc', hg', hr1⟩ := own_row ho1 (by rw [HN.out]; omega)
  rw [HN.out] at hc' ⊢
  have HGS := Lib.hid (show g' ∉ S from fun hm => by have := HS.out g' hm; omega)
  have cw := CC.out w1 g' c' HGS.out hb1 hr1
  have CW := Lib.hid cw
  have HJ1 := Lib.hid (HJ.out w1 g' hb1 hr1); have HB1 := Lib.hid hb1
  clear ho1 hb1 hg' hr1 cw
  have b0 : ((n : Int) == 0) = false := by simpa using (show ¬ (n : Int) = 0 by omega)
  have b0' : (n == 0) = false := by simpa using (show ¬ n = 0 by omega)
  go_wp2_with fail
  refine CW.out.mono ?_; rintro e w2 ⟨i, q1, rfl, hin, hgood, hq1, ha2⟩
  have hj2 := HJ1.out.apartS HGS.out ha2
  have q0 := hj2.cell hin
  rw [Nat.zero_add] at q0
  have hil : i < M.length := by rw [HN.out]; exact hin
  have hS2 : InS S w2 := HS.out.on (Nat.le_trans HB1.out.size ha2.size)
  have e0 := flat_pick hil
  have hxz : (wholeL M[i].L).size ≤ 6000 := by
    have := HZ.out
    rw [e0, whole_app, whole_app, ByteArray.size_append, ByteArray.size_append] at this
    omega
  have ci := HI.out w2 M[i].b M[i].L q1 (hj2.kids _ (List.getElem_mem hil)) hS2 hq1 hxz
  have HST := Lib.hid (fun A s C q' => HY.out.step q M i q1 A s C q' hil hgood)
  have HXL := Lib.hid e0
  obtain ⟨xb, hxb⟩ : ∃ xb, M[i].b = xb := ⟨_, rfl⟩
  obtain ⟨xL, hxL⟩ : ∃ xL, M[i].L = xL := ⟨_, rfl⟩
  rw [hxb] at q0 ci
  rw [hxL] at ci HST HXL
  have CI := Lib.hid ci; have HJ2 := Lib.hid hj2; have HA2 := Lib.hid ((Apart.of_below HB1.out : Apart S w w1).trans ha2 (fun x hx => .inl hx)); have HS2 := Lib.hid hS2
  have b1 : (0 : Int) ≤ (i : Int) := by omega
  have b2 : (i : Int) < (n : Int) := by omega
  clear ci hj2 ha2 hgood hq1 hxz hil hxb hxL e0 hS2
  go_wp2_with fail
  refine CI.out.mono ?_; rintro e w3 ⟨p1, A, s, p2, C, q', rfl, t1, t2, hL, hrel, hq3, ha3⟩
  have hj3 := HJ2.out.apartS HGS.out ha3
  have hsA : InS S w3 := HS2.out.on ha3.size
  have hall : flat M = (flat (M.take i) ++ A) ++ ([s] ++ (C ++ flat (M.drop (i + 1)))) := by rw [HXL.out, hL]; simp only [List.append_assoc]
  have hz1 : (wholeL (flat (M.take i) ++ A)).size ≤ 6000 := by
    have := HZ.out
    rw [hall] at this
    simp only [whole_szs] at this ⊢
    omega
  have hz2 : (wholeL (C ++ flat (M.drop (i + 1)))).size ≤ 6000 := by
    have := HZ.out
    rw [hall] at this
    simp only [whole_szs] at this ⊢
    omega
  have ca : ∀ W, Below w3.heap.size w3 W → Calls Try.prog 68 #[.slice (some ⟨g', 0, none⟩) i c'] W (RetTr S W (flat (M.take i))) := fun W hW => up_side (hsA.on hW.size) ((hj3.later hW).head (by omega)) (by omega)
  have cc : ∀ W o (len cap : Nat), Below w3.heap.size w3 W → len = n - (i + 1) → (o = i + 1 ∨ n = i + 1) → Calls Try.prog 68 #[.slice (some ⟨g', o, none⟩) len cap] W (RetTr S W (flat (M.drop (i + 1)))) := fun W o len cap hW hlen ho => by
    subst hlen
    have := (hj3.later hW).tail (i + 1)
    rw [Nat.zero_add] at this
    rcases ho with rfl | ho
    · exact up_side (hsA.on hW.size) this (by omega)
    · exact up_side (hsA.on hW.size) (this.none (by omega) o) (by omega)
  have ct1 : ∀ W p, Below w3.heap.size w3 W → Tr W S p (flat (M.take i)) → Calls Try.prog 62 #[.slice (some ⟨W.heap.size, 0, none⟩) (2 : Nat) (2 : Nat)] (W.alloc (.cells #[.pointer p, .pointer p1] 44)) (RetTr S W (flat (M.take i) ++ A)) := fun W p hW hp =>
    together_two (hsA.on hW.size) hp (t1.later hW) hz1
  have ct2 : ∀ W p, Below w3.heap.size w3 W → Tr W S p (flat (M.drop (i + 1))) → Calls Try.prog 62 #[.slice (some ⟨W.heap.size, 0, none⟩) (2 : Nat) (2 : Nat)] (W.alloc (.cells #[.pointer p2, .pointer p] 44)) (RetTr S W (C ++ flat (M.drop (i + 1)))) := fun W p hW hp =>
    together_two (hsA.on hW.size) (t2.later hW) hp hz2
  have HEND := Lib.hid (fun W (hW : Below w3.heap.size w3 W) u v (hu : Tr W S u (flat (M.take i) ++ A)) (hv : Tr W S v (C ++ flat (M.drop (i + 1)))) => (show RetAr S Inv Rel w q (flat M) (.returned (.tuple #[.pointer u, .string s, .pointer v])) W from ⟨u, _, s, v, _, q', rfl, hu, hv, hall, HST.out A s C q' hrel, HPO.out q' w3 W hq3 hW, (HA2.out.trans ha3 (fun x hx => .inl hx)).trans (Apart.of_below hW : Apart S w3 W) (fun x hx => .inl hx)⟩))
  have CA := Lib.hid ca; have CD := Lib.hid cc; have T1 := Lib.hid ct1; have T2 := Lib.hid ct2
  have b3 : (i : Int) ≤ (c' : Int) := by omega
  have b3' : i ≤ c' := by omega
  have b4 : (i : Int) + 1 ≤ (n : Int) := by omega
  have b5 : (n : Int) ≤ (c' : Int) := by omega
  have b6 : IntKind.i64.wrap ((i : Int) + 1) = (i : Int) + 1 := IntWalk.i64_in _ (by omega)
  have b7 : ((i : Int) + 1).toNat = i + 1 := by omega
  have b8 : (0 : Int) ≤ (i : Int) + 1 := by omega
  clear ca cc ct1 ct2 hall hz1 hz2 hsA hj3 t1 t2 hL hrel hq3 ha3
  go_wp2_with fail
  by_cases hcz : c' = i + 1
  · subst hcz
    have b9 : (i : Int) ≤ (i : Int) + 1 := by omega
    refine wp_region_held_drew (S := (fun w' : World => Below w3.heap.size w3 w')) (by kernel_rfl) (Below.refl _ _).drew (fun hHeld => ?_)
    refine wpAnyH_take (i := 0) (v := ?_) (by simp only [List.getElem?_toArray, List.getElem?_cons_succ, List.getElem?_cons_zero]; rfl) (by kernel_rfl) (by kernel_rfl) (by kernel_rfl) (fun _ _ _ h => by exact h) (Or.inl ⟨by rfl, ?_⟩) (by assumption) ?_
    rotate_left
    · (intro w hSw; (try dsimp only at hSw); go_simp; try with_reducible rfl)
    try simp only [Act.put, List.setIfInBounds_toArray, List.set_cons_zero, List.set_cons_succ]
    refine wpAnyH_take (i := 1) (v := ?_) (by simp only [List.getElem?_toArray, List.getElem?_cons_succ, List.getElem?_cons_zero]; rfl) (by kernel_rfl) (by kernel_rfl) (by kernel_rfl) (fun _ _ _ h => by exact h) (Or.inl ⟨by rfl, ?_⟩) (by assumption) ?_
    rotate_left
    · (intro w hSw; (try dsimp only at hSw); go_simp; try with_reducible rfl)
    try simp only [Act.put, List.setIfInBounds_toArray, List.set_cons_zero, List.set_cons_succ]
    refine wpAnyH_take (i := 2) (v := ?_) (by simp only [List.getElem?_toArray, List.getElem?_cons_succ, List.getElem?_cons_zero]; rfl) (by kernel_rfl) (by kernel_rfl) (by kernel_rfl) (fun _ _ _ h => by exact h) (Or.inl ⟨by rfl, ?_⟩) (by assumption) ?_
    rotate_left
    · (intro w hSw; (try dsimp only at hSw); go_simp; try with_reducible rfl)
    try simp only [Act.put, List.setIfInBounds_toArray, List.set_cons_zero, List.set_cons_succ]
    refine wpAnyH_take (i := 4) (v := ?_) (by simp only [List.getElem?_toArray, List.getElem?_cons_succ, List.getElem?_cons_zero]; rfl) (by kernel_rfl) (by kernel_rfl) (by kernel_rfl) (fun _ _ _ h => by exact h) (Or.inl ⟨by rfl, ?_⟩) (by assumption) ?_
    rotate_left
    · (intro w hSw; (try dsimp only at hSw); go_simp; try with_reducible rfl)
    try simp only [Act.put, List.setIfInBounds_toArray, List.set_cons_zero, List.set_cons_succ]
    refine wpAnyH_take (i := 7) (v := ?_) (by simp only [List.getElem?_toArray, List.getElem?_cons_succ, List.getElem?_cons_zero]; rfl) (by kernel_rfl) (by kernel_rfl) (by kernel_rfl) (fun _ _ _ h => by exact h) (Or.inl ⟨by rfl, ?_⟩) (by assumption) ?_
    rotate_left
    · (intro w hSw; (try dsimp only at hSw); go_simp; try with_reducible rfl)
    try simp only [Act.put, List.setIfInBounds_toArray, List.set_cons_zero, List.set_cons_succ]
    refine wpAnyH_take (i := 8) (v := ?_) (by simp only [List.getElem?_toArray, List.getElem?_cons_succ, List.getElem?_cons_zero]; rfl) (by kernel_rfl) (by kernel_rfl) (by kernel_rfl) (fun _ _ _ h => by exact h) (Or.inl ⟨by rfl, ?_⟩) (by assumption) ?_
    rotate_left
    · (intro w hSw; (try dsimp only at hSw); go_simp; try with_reducible rfl)
    try simp only [Act.put, List.setIfInBounds_toArray, List.set_cons_zero, List.set_cons_succ]
    refine wpAnyH_take (i := 9) (v := ?_) (by simp only [List.getElem?_toArray, List.getElem?_cons_succ, List.getElem?_cons_zero]; rfl) (by kernel_rfl) (by kernel_rfl) (by kernel_rfl) (fun _ _ _ h => by exact h) (Or.inl ⟨by rfl, ?_⟩) (by assumption) ?_
    rotate_left
    · (intro w hSw; (try dsimp only at hSw); go_simp; try with_reducible rfl)
    try simp only [Act.put, List.setIfInBounds_toArray, List.set_cons_zero, List.set_cons_succ]
    refine wpAnyH_take (i := 10) (v := ?_) (by simp only [List.getElem?_toArray, List.getElem?_cons_succ, List.getElem?_cons_zero]; rfl) (by kernel_rfl) (by kernel_rfl) (by kernel_rfl) (fun _ _ _ h => by exact h) (Or.inl ⟨by rfl, ?_⟩) (by assumption) ?_
    rotate_left
    · (intro w hSw; (try dsimp only at hSw); go_simp; try with_reducible rfl)
    try simp only [Act.put, List.setIfInBounds_toArray, List.set_cons_zero, List.set_cons_succ]
    refine wpAnyH_take (i := 11) (v := ?_) (by simp only [List.getElem?_toArray, List.getElem?_cons_succ, List.getElem?_cons_zero]; rfl) (by kernel_rfl) (by kernel_rfl) (by kernel_rfl) (fun _ _ _ h => by exact h) (Or.inl ⟨by rfl, ?_⟩) (by assumption) ?_
    rotate_left
    · (intro w hSw; (try dsimp only at hSw); go_simp; try with_reducible rfl)
    try simp only [Act.put, List.setIfInBounds_toArray, List.set_cons_zero, List.set_cons_succ]
    refine wpAnyH_take (i := 12) (v := ?_) (by simp only [List.getElem?_toArray, List.getElem?_cons_succ, List.getElem?_cons_zero]; rfl) (by kernel_rfl) (by kernel_rfl) (by kernel_rfl) (fun _ _ _ h => by exact h) (Or.inl ⟨by rfl, ?_⟩) (by assumption) ?_
    rotate_left
    · (intro w hSw; (try dsimp only at hSw); go_simp; try with_reducible rfl)
    try simp only [Act.put, List.setIfInBounds_toArray, List.set_cons_zero, List.set_cons_succ]
    refine wpAnyH_ready (rs := [3]) (by kernel_rfl) (by simp) ?_
    refine AllReadyH.cons (by simp only [List.getElem?_toArray, List.getElem?_cons_succ, List.getElem?_cons_zero]; rfl) (fun K hK => ?_) AllReadyH.nil
    go_simp
    (go_at_call 68; refine (CA.out _ hHeld).mono ?_; rintro e w4 ⟨u1, rfl, hu1, hb4⟩; have HB4 := Lib.hid (hHeld.trans (hb4.mono hHeld.size)); have HU1 := Lib.hid hu1; clear hu1 hb4)
    try go_wp2_with fail
    refine hK.out _ _ ?_ (fun hHeld => ?_)
    · exact HB4.out
    clear hK K
    try simp only [Act.put, List.setIfInBounds_toArray, List.set_cons_zero, List.set_cons_succ]
    refine wpAnyH_ready (rs := [5]) (by kernel_rfl) (by simp) ?_
    refine AllReadyH.cons (by simp only [List.getElem?_toArray, List.getElem?_cons_succ, List.getElem?_cons_zero]; rfl) (fun K hK => ?_) AllReadyH.nil
    go_simp
    have HB5 := Lib.hid (HB4.out.alloc HB4.out.size (.cells #[.pointer u1, .pointer p1] 44))
    try go_wp2_with fail
    refine hK.out _ _ ?_ (fun hHeld => ?_)
    · exact HB5.out
    clear hK K
    try simp only [Act.put, List.setIfInBounds_toArray, List.set_cons_zero, List.set_cons_succ]
    refine wpAnyH_ready (rs := [6]) (by kernel_rfl) (by simp) ?_
    refine AllReadyH.cons (by simp only [List.getElem?_toArray, List.getElem?_cons_succ, List.getElem?_cons_zero]; rfl) (fun K hK => ?_) AllReadyH.nil
    go_simp
    (go_at_call 62; refine (T1.out w4 u1 HB4.out HU1.out).mono ?_; rintro e w5 ⟨u2, rfl, hu2, hb5⟩; have HB6 := Lib.hid (HB4.out.trans (hb5.mono HB4.out.size)); have HU2 := Lib.hid hu2; clear hu2 hb5)
    try go_wp2_with fail
    refine hK.out _ _ ?_ (fun hHeld => ?_)
    · exact HB6.out
    clear hK K
    try simp only [Act.put, List.setIfInBounds_toArray, List.set_cons_zero, List.set_cons_succ]
    refine wpAnyH_ready (rs := [13]) (by kernel_rfl) (by simp) ?_
    refine AllReadyH.cons (by simp only [List.getElem?_toArray, List.getElem?_cons_succ, List.getElem?_cons_zero]; rfl) (fun K hK => ?_) AllReadyH.nil
    go_simp
    (go_at_call 68; refine (CD.out _ 0 0 _ HB6.out (by omega) (.inr (by omega))).mono ?_; rintro e w6 ⟨u3, rfl, hu3, hb6⟩; have HB7 := Lib.hid (HB6.out.trans (hb6.mono HB6.out.size)); have HX6 := Lib.hid hb6; have HU3 := Lib.hid hu3; clear hu3 hb6)
    try go_wp2_with fail
    refine hK.out _ _ ?_ (fun hHeld => ?_)
    · exact HB7.out
    clear hK K
    try simp only [Act.put, List.setIfInBounds_toArray, List.set_cons_zero, List.set_cons_succ]
    refine wpAnyH_ready (rs := [14]) (by kernel_rfl) (by simp) ?_
    refine AllReadyH.cons (by simp only [List.getElem?_toArray, List.getElem?_cons_succ, List.getElem?_cons_zero]; rfl) (fun K hK => ?_) AllReadyH.nil
    go_simp
    have HB8 := Lib.hid (HB7.out.alloc HB7.out.size (.cells #[.pointer p2, .pointer u3] 44))
    try go_wp2_with fail
    refine hK.out _ _ ?_ (fun hHeld => ?_)
    · exact HB8.out
    clear hK K
    try simp only [Act.put, List.setIfInBounds_toArray, List.set_cons_zero, List.set_cons_succ]
    refine wpAnyH_ready (rs := [15]) (by kernel_rfl) (by simp) ?_
    refine AllReadyH.cons (by simp only [List.getElem?_toArray, List.getElem?_cons_succ, List.getElem?_cons_zero]; rfl) (fun K hK => ?_) AllReadyH.nil
    go_simp
    (go_at_call 62; refine (T2.out w6 u3 HB7.out HU3.out).mono ?_; rintro e w7 ⟨u4, rfl, hu4, hb7⟩; have HB9 := Lib.hid (HB7.out.trans (hb7.mono HB7.out.size)); have HX7 := Lib.hid hb7; have HU4 := Lib.hid hu4; clear hu4 hb7)
    try go_wp2_with fail
    refine hK.out _ _ ?_ (fun hHeld => ?_)
    · exact HB9.out
    clear hK K
    try simp only [Act.put, List.setIfInBounds_toArray, List.set_cons_zero, List.set_cons_succ]
    refine wpAnyH_take (i := 16) (v := ?_) (by simp only [List.getElem?_toArray, List.getElem?_cons_succ, List.getElem?_cons_zero]; rfl) (by kernel_rfl) (by kernel_rfl) (by kernel_rfl) (fun _ _ _ h => by exact h) (Or.inl ⟨by rfl, ?_⟩) (by assumption) ?_
    rotate_left
    · (intro w hSw; (try dsimp only at hSw); go_simp; try with_reducible rfl)
    try simp only [Act.put, List.setIfInBounds_toArray, List.set_cons_zero, List.set_cons_succ]
    refine wpAnyH_take (i := 17) (v := ?_) (by simp only [List.getElem?_toArray, List.getElem?_cons_succ, List.getElem?_cons_zero]; rfl) (by kernel_rfl) (by kernel_rfl) (by kernel_rfl) (fun _ _ _ h => by exact h) (Or.inl ⟨by rfl, ?_⟩) (by assumption) ?_
    rotate_left
    · (intro w hSw; (try dsimp only at hSw); go_simp; try with_reducible rfl)
    try simp only [Act.put, List.setIfInBounds_toArray, List.set_cons_zero, List.set_cons_succ]
    refine wpAnyH_take (i := 18) (v := ?_) (by simp only [List.getElem?_toArray, List.getElem?_cons_succ, List.getElem?_cons_zero]; rfl) (by kernel_rfl) (by kernel_rfl) (by kernel_rfl) (fun _ _ _ h => by exact h) (Or.inl ⟨by rfl, ?_⟩) (by assumption) ?_
    rotate_left
    · (intro w hSw; (try dsimp only at hSw); go_simp; try with_reducible rfl)
    try simp only [Act.put, List.setIfInBounds_toArray, List.set_cons_zero, List.set_cons_succ]
    refine wpAnyH_done (by kernel_rfl) ?_ _
    go_wp2_with fail
    refine bodyPost_ret (v := .tuple #[.pointer u2, .string s, .pointer u4]) (by simp [results, Try.results63, go_sem]) rfl ?_
    exact HEND.out w7 HB9.out u2 u4 ((HU2.out.later HX6.out).later HX7.out) HU4.out
  ·
    refine wp_region_held_drew (S := (fun w' : World => Below w3.heap.size w3 w')) (by kernel_rfl) (Below.refl _ _).drew (fun hHeld => ?_)
    refine wpAnyH_take (i := 0) (v := ?_) (by simp only [List.getElem?_toArray, List.getElem?_cons_succ, List.getElem?_cons_zero]; rfl) (by kernel_rfl) (by kernel_rfl) (by kernel_rfl) (fun _ _ _ h => by exact h) (Or.inl ⟨by rfl, ?_⟩) (by assumption) ?_
    rotate_left
    · (intro w hSw; (try dsimp only at hSw); go_simp; try with_reducible rfl)
    try simp only [Act.put, List.setIfInBounds_toArray, List.set_cons_zero, List.set_cons_succ]
    refine wpAnyH_take (i := 1) (v := ?_) (by simp only [List.getElem?_toArray, List.getElem?_cons_succ, List.getElem?_cons_zero]; rfl) (by kernel_rfl) (by kernel_rfl) (by kernel_rfl) (fun _ _ _ h => by exact h) (Or.inl ⟨by rfl, ?_⟩) (by assumption) ?_
    rotate_left
    · (intro w hSw; (try dsimp only at hSw); go_simp; try with_reducible rfl)
    try simp only [Act.put, List.setIfInBounds_toArray, List.set_cons_zero, List.set_cons_succ]
    refine wpAnyH_take (i := 2) (v := ?_) (by simp only [List.getElem?_toArray, List.getElem?_cons_succ, List.getElem?_cons_zero]; rfl) (by kernel_rfl) (by kernel_rfl) (by kernel_rfl) (fun _ _ _ h => by exact h) (Or.inl ⟨by rfl, ?_⟩) (by assumption) ?_
    rotate_left
    · (intro w hSw; (try dsimp only at hSw); go_simp; try with_reducible rfl)
    try simp only [Act.put, List.setIfInBounds_toArray, List.set_cons_zero, List.set_cons_succ]
    refine wpAnyH_take (i := 4) (v := ?_) (by simp only [List.getElem?_toArray, List.getElem?_cons_succ, List.getElem?_cons_zero]; rfl) (by kernel_rfl) (by kernel_rfl) (by kernel_rfl) (fun _ _ _ h => by exact h) (Or.inl ⟨by rfl, ?_⟩) (by assumption) ?_
    rotate_left
    · (intro w hSw; (try dsimp only at hSw); go_simp; try with_reducible rfl)
    try simp only [Act.put, List.setIfInBounds_toArray, List.set_cons_zero, List.set_cons_succ]
    refine wpAnyH_take (i := 7) (v := ?_) (by simp only [List.getElem?_toArray, List.getElem?_cons_succ, List.getElem?_cons_zero]; rfl) (by kernel_rfl) (by kernel_rfl) (by kernel_rfl) (fun _ _ _ h => by exact h) (Or.inl ⟨by rfl, ?_⟩) (by assumption) ?_
    rotate_left
    · (intro w hSw; (try dsimp only at hSw); go_simp; try with_reducible rfl)
    try simp only [Act.put, List.setIfInBounds_toArray, List.set_cons_zero, List.set_cons_succ]
    refine wpAnyH_take (i := 8) (v := ?_) (by simp only [List.getElem?_toArray, List.getElem?_cons_succ, List.getElem?_cons_zero]; rfl) (by kernel_rfl) (by kernel_rfl) (by kernel_rfl) (fun _ _ _ h => by exact h) (Or.inl ⟨by rfl, ?_⟩) (by assumption) ?_
    rotate_left
    · (intro w hSw; (try dsimp only at hSw); go_simp; try with_reducible rfl)
    try simp only [Act.put, List.setIfInBounds_toArray, List.set_cons_zero, List.set_cons_succ]
    refine wpAnyH_take (i := 9) (v := ?_) (by simp only [List.getElem?_toArray, List.getElem?_cons_succ, List.getElem?_cons_zero]; rfl) (by kernel_rfl) (by kernel_rfl) (by kernel_rfl) (fun _ _ _ h => by exact h) (Or.inl ⟨by rfl, ?_⟩) (by assumption) ?_
    rotate_left
    · (intro w hSw; (try dsimp only at hSw); go_simp; try with_reducible rfl)
    try simp only [Act.put, List.setIfInBounds_toArray, List.set_cons_zero, List.set_cons_succ]
    refine wpAnyH_take (i := 10) (v := ?_) (by simp only [List.getElem?_toArray, List.getElem?_cons_succ, List.getElem?_cons_zero]; rfl) (by kernel_rfl) (by kernel_rfl) (by kernel_rfl) (fun _ _ _ h => by exact h) (Or.inl ⟨by rfl, ?_⟩) (by assumption) ?_
    rotate_left
    · (intro w hSw; (try dsimp only at hSw); go_simp; try with_reducible rfl)
    try simp only [Act.put, List.setIfInBounds_toArray, List.set_cons_zero, List.set_cons_succ]
    refine wpAnyH_take (i := 11) (v := ?_) (by simp only [List.getElem?_toArray, List.getElem?_cons_succ, List.getElem?_cons_zero]; rfl) (by kernel_rfl) (by kernel_rfl) (by kernel_rfl) (fun _ _ _ h => by exact h) (Or.inl ⟨by rfl, ?_⟩) (by assumption) ?_
    rotate_left
    · (intro w hSw; (try dsimp only at hSw); go_simp; try with_reducible rfl)
    try simp only [Act.put, List.setIfInBounds_toArray, List.set_cons_zero, List.set_cons_succ]
    refine wpAnyH_take (i := 12) (v := ?_) (by simp only [List.getElem?_toArray, List.getElem?_cons_succ, List.getElem?_cons_zero]; rfl) (by kernel_rfl) (by kernel_rfl) (by kernel_rfl) (fun _ _ _ h => by exact h) (Or.inl ⟨by rfl, ?_⟩) (by assumption) ?_
    rotate_left
    · (intro w hSw; (try dsimp only at hSw); go_simp; try with_reducible rfl)
    try simp only [Act.put, List.setIfInBounds_toArray, List.set_cons_zero, List.set_cons_succ]
    refine wpAnyH_ready (rs := [3]) (by kernel_rfl) (by simp) ?_
    refine AllReadyH.cons (by simp only [List.getElem?_toArray, List.getElem?_cons_succ, List.getElem?_cons_zero]; rfl) (fun K hK => ?_) AllReadyH.nil
    go_simp
    (go_at_call 68; refine (CA.out _ hHeld).mono ?_; rintro e w4 ⟨u1, rfl, hu1, hb4⟩; have HB4 := Lib.hid (hHeld.trans (hb4.mono hHeld.size)); have HU1 := Lib.hid hu1; clear hu1 hb4)
    try go_wp2_with fail
    refine hK.out _ _ ?_ (fun hHeld => ?_)
    · exact HB4.out
    clear hK K
    try simp only [Act.put, List.setIfInBounds_toArray, List.set_cons_zero, List.set_cons_succ]
    refine wpAnyH_ready (rs := [5]) (by kernel_rfl) (by simp) ?_
    refine AllReadyH.cons (by simp only [List.getElem?_toArray, List.getElem?_cons_succ, List.getElem?_cons_zero]; rfl) (fun K hK => ?_) AllReadyH.nil
    go_simp
    have HB5 := Lib.hid (HB4.out.alloc HB4.out.size (.cells #[.pointer u1, .pointer p1] 44))
    try go_wp2_with fail
    refine hK.out _ _ ?_ (fun hHeld => ?_)
    · exact HB5.out
    clear hK K
    try simp only [Act.put, List.setIfInBounds_toArray, List.set_cons_zero, List.set_cons_succ]
    refine wpAnyH_ready (rs := [6]) (by kernel_rfl) (by simp) ?_
    refine AllReadyH.cons (by simp only [List.getElem?_toArray, List.getElem?_cons_succ, List.getElem?_cons_zero]; rfl) (fun K hK => ?_) AllReadyH.nil
    go_simp
    (go_at_call 62; refine (T1.out w4 u1 HB4.out HU1.out).mono ?_; rintro e w5 ⟨u2, rfl, hu2, hb5⟩; have HB6 := Lib.hid (HB4.out.trans (hb5.mono HB4.out.size)); have HU2 := Lib.hid hu2; clear hu2 hb5)
    try go_wp2_with fail
    refine hK.out _ _ ?_ (fun hHeld => ?_)
    · exact HB6.out
    clear hK K
    try simp only [Act.put, List.setIfInBounds_toArray, List.set_cons_zero, List.set_cons_succ]
    refine wpAnyH_ready (rs := [13]) (by kernel_rfl) (by simp) ?_
    refine AllReadyH.cons (by simp only [List.getElem?_toArray, List.getElem?_cons_succ, List.getElem?_cons_zero]; rfl) (fun K hK => ?_) AllReadyH.nil
    go_simp
    (go_at_call 68; refine (CD.out _ (i + 1) (n - (i + 1)) _ HB6.out (by omega) (.inl rfl)).mono ?_; rintro e w6 ⟨u3, rfl, hu3, hb6⟩; have HB7 := Lib.hid (HB6.out.trans (hb6.mono HB6.out.size)); have HX6 := Lib.hid hb6; have HU3 := Lib.hid hu3; clear hu3 hb6)
    try go_wp2_with fail
    refine hK.out _ _ ?_ (fun hHeld => ?_)
    · exact HB7.out
    clear hK K
    try simp only [Act.put, List.setIfInBounds_toArray, List.set_cons_zero, List.set_cons_succ]
    refine wpAnyH_ready (rs := [14]) (by kernel_rfl) (by simp) ?_
    refine AllReadyH.cons (by simp only [List.getElem?_toArray, List.getElem?_cons_succ, List.getElem?_cons_zero]; rfl) (fun K hK => ?_) AllReadyH.nil
    go_simp
    have HB8 := Lib.hid (HB7.out.alloc HB7.out.size (.cells #[.pointer p2, .pointer u3] 44))
    try go_wp2_with fail
    refine hK.out _ _ ?_ (fun hHeld => ?_)
    · exact HB8.out
    clear hK K
    try simp only [Act.put, List.setIfInBounds_toArray, List.set_cons_zero, List.set_cons_succ]
    refine wpAnyH_ready (rs := [15]) (by kernel_rfl) (by simp) ?_
    refine AllReadyH.cons (by simp only [List.getElem?_toArray, List.getElem?_cons_succ, List.getElem?_cons_zero]; rfl) (fun K hK => ?_) AllReadyH.nil
    go_simp
    (go_at_call 62; refine (T2.out w6 u3 HB7.out HU3.out).mono ?_; rintro e w7 ⟨u4, rfl, hu4, hb7⟩; have HB9 := Lib.hid (HB7.out.trans (hb7.mono HB7.out.size)); have HX7 := Lib.hid hb7; have HU4 := Lib.hid hu4; clear hu4 hb7)
    try go_wp2_with fail
    refine hK.out _ _ ?_ (fun hHeld => ?_)
    · exact HB9.out
    clear hK K
    try simp only [Act.put, List.setIfInBounds_toArray, List.set_cons_zero, List.set_cons_succ]
    refine wpAnyH_take (i := 16) (v := ?_) (by simp only [List.getElem?_toArray, List.getElem?_cons_succ, List.getElem?_cons_zero]; rfl) (by kernel_rfl) (by kernel_rfl) (by kernel_rfl) (fun _ _ _ h => by exact h) (Or.inl ⟨by rfl, ?_⟩) (by assumption) ?_
    rotate_left
    · (intro w hSw; (try dsimp only at hSw); go_simp; try with_reducible rfl)
    try simp only [Act.put, List.setIfInBounds_toArray, List.set_cons_zero, List.set_cons_succ]
    refine wpAnyH_take (i := 17) (v := ?_) (by simp only [List.getElem?_toArray, List.getElem?_cons_succ, List.getElem?_cons_zero]; rfl) (by kernel_rfl) (by kernel_rfl) (by kernel_rfl) (fun _ _ _ h => by exact h) (Or.inl ⟨by rfl, ?_⟩) (by assumption) ?_
    rotate_left
    · (intro w hSw; (try dsimp only at hSw); go_simp; try with_reducible rfl)
    try simp only [Act.put, List.setIfInBounds_toArray, List.set_cons_zero, List.set_cons_succ]
    refine wpAnyH_take (i := 18) (v := ?_) (by simp only [List.getElem?_toArray, List.getElem?_cons_succ, List.getElem?_cons_zero]; rfl) (by kernel_rfl) (by kernel_rfl) (by kernel_rfl) (fun _ _ _ h => by exact h) (Or.inl ⟨by rfl, ?_⟩) (by assumption) ?_
    rotate_left
    · (intro w hSw; (try dsimp only at hSw); go_simp; try with_reducible rfl)
    try simp only [Act.put, List.setIfInBounds_toArray, List.set_cons_zero, List.set_cons_succ]
    refine wpAnyH_done (by kernel_rfl) ?_ _
    go_wp2_with fail
    refine bodyPost_ret (v := .tuple #[.pointer u2, .string s, .pointer u4]) (by simp [results, Try.results63, go_sem]) rfl ?_
    exact HEND.out w7 HB9.out u2 u4 ((HU2.out.later HX6.out).later HX7.out) HU4.out
theorem around3_any {S : List Nat} {bt : Nat} {Inv : Int → World → Prop} {Good : Int → List Kid → Nat → Int → Prop} {Rel : Int → List ByteArray → List ByteArray → ByteArray → List ByteArray → Int → Prop} (hp : Pick S 78 #[.pointer (some ⟨bt, 0, none⟩)] Inv Good) (hy : Way Good Rel) (h : Nat) (hh : h ≤ 20) : AroundC3 S bt Inv Rel h := by
  induction h with
  | zero => exact ar3_zero hp hy
  | succ h ih => exact ar3_succ hp hy (by omega) (ih (by omega))
-- END GEN AR
end Go.Proofs.Ytephlcdanokolaa
