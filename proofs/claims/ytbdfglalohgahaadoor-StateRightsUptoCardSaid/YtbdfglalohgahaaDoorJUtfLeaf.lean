/-
  Joined: UtfLeaf, UtfTake, Conv, UtfPut, UtfEdge, UtfLives, UtfBack, UtfDecode, LawPuts, UtfNumber, NumRef.
-/
import Derived.Test.YtbdfglalohgahaaDoorRows
import Derived.Test.YtbdfglalohgahaaDoorJCommon
namespace Go.Proofs.YtbdfglalohgahaaDoor
open Go.RowKit

set_option maxHeartbeats 400000 in
theorem size_any (c : Int) (w : World) :
    Calls Tryd.prog 91 #[.int .i32 c] w fun e w' => e = .returned (.int .i64 (sz c)) ∧ w = w' := by
  by_cases h0 : c < 0
  · go_enter Tryd.func91, Tryd.ntmps91
    go_wp2
    go_ret
    exact ⟨ret_int (by unfold sz; rw [if_pos (by omega)]; rfl), rfl⟩
  by_cases h1 : 1114111 < c
  · go_enter Tryd.func91, Tryd.ntmps91
    go_wp2
    go_ret
    exact ⟨ret_int (by unfold sz; rw [if_pos (by omega)]; rfl), rfl⟩
  by_cases h2 : c < 128
  · go_enter Tryd.func91, Tryd.ntmps91
    go_wp2
    go_ret
    exact ⟨ret_int (by unfold sz; rw [if_neg (by omega), if_pos (by omega)]; rfl), rfl⟩
  by_cases h3 : c < 2048
  · go_enter Tryd.func91, Tryd.ntmps91
    go_wp2
    go_ret
    exact ⟨ret_int (by unfold sz; rw [if_neg (by omega), if_neg (by omega), if_pos (by omega)]; rfl), rfl⟩
  by_cases h4 : 55296 ≤ c
  · by_cases h5 : c ≤ 57343
    · go_enter Tryd.func91, Tryd.ntmps91
      go_wp2
      go_ret
      exact ⟨ret_int (by unfold sz; rw [if_pos (by omega)]; rfl), rfl⟩
    by_cases h6 : c < 65536
    · go_enter Tryd.func91, Tryd.ntmps91
      go_wp2
      go_ret
      exact ⟨ret_int (by unfold sz; rw [if_neg (by omega), if_neg (by omega), if_neg (by omega), if_pos (by omega)]; rfl), rfl⟩
    · go_enter Tryd.func91, Tryd.ntmps91
      go_wp2
      go_ret
      exact ⟨ret_int (by unfold sz; rw [if_neg (by omega), if_neg (by omega), if_neg (by omega), if_neg (by omega)]; rfl), rfl⟩
  · have h6 : c < 65536 := by omega
    go_enter Tryd.func91, Tryd.ntmps91
    go_wp2
    go_ret
    exact ⟨ret_int (by unfold sz; rw [if_neg (by omega), if_neg (by omega), if_neg (by omega), if_pos (by omega)]; rfl), rfl⟩

theorem goesOn_yes (b : Nat) (h1 : 128 ≤ b) (h2 : b ≤ 191) (w : World) :
    Calls Tryd.prog 74 #[.int .u8 b] w fun e w' => e = .returned (.bool true) ∧ w = w' := by
  go_enter Tryd.func74, Tryd.ntmps74
  go_wp2
  go_ret
  exact ⟨by simp; omega, rfl⟩
theorem goesOn_no (b : Nat) (h : ¬ (128 ≤ b ∧ b ≤ 191)) (w : World) :
    Calls Tryd.prog 74 #[.int .u8 b] w fun e w' => e = .returned (.bool false) ∧ w = w' := by
  by_cases h1 : 128 ≤ b
  · have h2 : ¬ b ≤ 191 := by omega
    clear h
    go_enter Tryd.func74, Tryd.ntmps74
    go_wp2
    go_ret
    exact ⟨by simp; omega, rfl⟩
  · clear h
    go_enter Tryd.func74, Tryd.ntmps74
    go_wp2
    go_ret
    exact ⟨rfl, rfl⟩
theorem on_yes (b : Nat) (h1 : 128 ≤ b) (h2 : b ≤ 191) (w : World) :
    Calls Tryd.prog 77 #[.int .u8 b] w fun e w' => e = .returned (.bool true) ∧ w = w' := by
  go_enter Tryd.func77, Tryd.ntmps77
  go_wp2
  go_ret
  exact ⟨by simp; omega, rfl⟩
theorem on_no (b : Nat) (h : ¬ (128 ≤ b ∧ b ≤ 191)) (w : World) :
    Calls Tryd.prog 77 #[.int .u8 b] w fun e w' => e = .returned (.bool false) ∧ w = w' := by
  by_cases h1 : 128 ≤ b
  · have h2 : ¬ b ≤ 191 := by omega
    clear h
    go_enter Tryd.func77, Tryd.ntmps77
    go_wp2
    go_ret
    exact ⟨by simp; omega, rfl⟩
  · clear h
    go_enter Tryd.func77, Tryd.ntmps77
    go_wp2
    go_ret
    exact ⟨rfl, rfl⟩

set_option maxRecDepth 100000 in
set_option maxHeartbeats 400000 in
theorem lead_1 (b : Nat) (h : b < 128) (w : World) :
    Calls Tryd.prog 90 #[.int .u8 b] w fun e w' => e = .returned (.tuple #[.int .i32 (ld b).1, .int .i64 (ld b).2]) ∧ w = w' := by
  have e0 : ld b = (b, 1) := by unfold ld; rw [if_pos h]
  rw [e0]
  clear e0
  go_enter Tryd.func90, Tryd.ntmps90
  go_wp2
  go_ret2
  exact ⟨by simp, rfl⟩
set_option maxRecDepth 100000 in
set_option maxHeartbeats 400000 in
theorem lead_on (b : Nat) (h : 128 ≤ b) (h' : b < 192) (w : World) :
    Calls Tryd.prog 90 #[.int .u8 b] w fun e w' => e = .returned (.tuple #[.int .i32 (ld b).1, .int .i64 (ld b).2]) ∧ w = w' := by
  have e0 : ld b = (0, 0) := by unfold ld; rw [if_neg (by omega), if_pos (by omega)]
  rw [e0]
  clear e0
  go_enter Tryd.func90, Tryd.ntmps90
  go_wp2
  go_ret2
  exact ⟨by simp, rfl⟩
set_option maxRecDepth 100000 in
set_option maxHeartbeats 400000 in
theorem lead_2 (b : Nat) (h : 192 ≤ b) (h' : b < 224) (w : World) :
    Calls Tryd.prog 90 #[.int .u8 b] w fun e w' => e = .returned (.tuple #[.int .i32 (ld b).1, .int .i64 (ld b).2]) ∧ w = w' := by
  have e0 : ld b = (b % 32, 2) := by unfold ld; rw [if_neg (by omega), if_neg (by omega), if_pos (by omega)]
  rw [e0]
  clear e0
  go_enter Tryd.func90, Tryd.ntmps90
  go_wp2
  go_ret2
  exact ⟨by simp, rfl⟩
set_option maxRecDepth 100000 in
set_option maxHeartbeats 400000 in
theorem lead_3 (b : Nat) (h : 224 ≤ b) (h' : b < 240) (w : World) :
    Calls Tryd.prog 90 #[.int .u8 b] w fun e w' => e = .returned (.tuple #[.int .i32 (ld b).1, .int .i64 (ld b).2]) ∧ w = w' := by
  have e0 : ld b = (b % 16, 3) := by unfold ld; rw [if_neg (by omega), if_neg (by omega), if_neg (by omega), if_pos (by omega)]
  rw [e0]
  clear e0
  go_enter Tryd.func90, Tryd.ntmps90
  go_wp2
  go_ret2
  exact ⟨by simp, rfl⟩
set_option maxRecDepth 100000 in
set_option maxHeartbeats 400000 in
theorem lead_4 (b : Nat) (h : 240 ≤ b) (h' : b < 248) (w : World) :
    Calls Tryd.prog 90 #[.int .u8 b] w fun e w' => e = .returned (.tuple #[.int .i32 (ld b).1, .int .i64 (ld b).2]) ∧ w = w' := by
  have e0 : ld b = (b % 8, 4) := by unfold ld; rw [if_neg (by omega), if_neg (by omega), if_neg (by omega), if_neg (by omega), if_pos (by omega)]
  rw [e0]
  clear e0
  go_enter Tryd.func90, Tryd.ntmps90
  go_wp2
  go_ret2
  exact ⟨by simp, rfl⟩
set_option maxRecDepth 100000 in
set_option maxHeartbeats 400000 in
theorem lead_no (b : Nat) (h : 248 ≤ b) (h' : b < 256) (w : World) :
    Calls Tryd.prog 90 #[.int .u8 b] w fun e w' => e = .returned (.tuple #[.int .i32 (ld b).1, .int .i64 (ld b).2]) ∧ w = w' := by
  have e0 : ld b = (0, 0) := by unfold ld; rw [if_neg (by omega), if_neg (by omega), if_neg (by omega), if_neg (by omega), if_neg (by omega)]
  rw [e0]
  clear e0
  go_enter Tryd.func90, Tryd.ntmps90
  go_wp2
  go_ret2
  exact ⟨by simp, rfl⟩
theorem lead_any (b : Nat) (hb : b < 256) (w : World) :
    Calls Tryd.prog 90 #[.int .u8 b] w fun e w' => e = .returned (.tuple #[.int .i32 (ld b).1, .int .i64 (ld b).2]) ∧ w = w' := by
  by_cases h1 : b < 128
  · exact lead_1 b h1 w
  by_cases h2 : b < 192
  · exact lead_on b (by omega) h2 w
  by_cases h3 : b < 224
  · exact lead_2 b (by omega) h3 w
  by_cases h4 : b < 240
  · exact lead_3 b (by omega) h4 w
  by_cases h5 : b < 248
  · exact lead_4 b (by omega) h5 w
  · exact lead_no b (by omega) hb w
end Go.Proofs.YtbdfglalohgahaaDoor
namespace Go.Proofs.YtbdfglalohgahaaDoor
open Go.RowKit

def OnUp (l : List UInt8) (k j : Nat) : Prop := ∀ m, m < j → 128 ≤ bt l (k + 1 + m) ∧ bt l (k + 1 + m) ≤ 191
theorem onUp_zero (l : List UInt8) (k : Nat) : OnUp l k 0 := fun m h => absurd h (Nat.not_lt_zero m)
theorem onUp_succ {l : List UInt8} {k j : Nat} (h : OnUp l k j) (g : 128 ≤ bt l (k + 1 + j) ∧ bt l (k + 1 + j) ≤ 191) : OnUp l k (j + 1) := fun m hm => by
  by_cases e : m = j
  · subst e; exact g
  · exact h m (by omega)

set_option maxRecDepth 100000 in
set_option maxHeartbeats 400000 in
theorem take_in' (s : ByteArray) (hs : s.size ≤ maxLen) (k : Nat) (hk : k < s.size) (w : World) (r m : Nat) (hR0 : tkl (s.data.toList.drop k) = (r, m)) :
    Calls Tryd.prog 82 #[.string s, .int .i64 k] w fun e w' => e = .returned (.tuple #[.int .i32 r, .int .i64 m]) ∧ w = w' := by
  unfold maxLen at hs
  have hlen : s.data.toList.length = s.size := by simp
  have L := lead_any (s[k].toNat) s[k].toNat_lt
  have hb := bt_get s k hk
  have hld := ld_le (s[k].toNat)
  obtain ⟨v, n, hvn⟩ : ∃ v n, ld (s[k].toNat) = (v, n) := ⟨_, _, rfl⟩
  rw [hvn] at L hld
  simp only at L hld
  obtain ⟨hn4, hv⟩ := hld
  have HL := Lib.hid L; clear L
  have HR := Lib.hid hR0; clear hR0
  by_cases h0 : n = 0
  · have hr : tkl (s.data.toList.drop k) = (0, 0) := take_none _ _ (by omega) (by rw [hb, hvn]; exact h0)
    rw [HR.out] at hr
    simp only [Prod.mk.injEq] at hr
    obtain ⟨rfl, rfl⟩ := hr
    subst h0
    clear hb hvn hlen
    go_enter Tryd.func82, Tryd.ntmps82
    go_wp2_with (go_at_call 90; refine (HL.out _).mono ?_; rintro e w' ⟨rfl, rfl⟩)
    go_ret2
    exact ⟨rfl, rfl⟩
  · by_cases hsh : s.size < k + n
    · have hr : tkl (s.data.toList.drop k) = (0, 0) := take_short _ _ (by omega) (by rw [hb, hvn, hlen]; exact hsh)
      rw [HR.out] at hr
      simp only [Prod.mk.injEq] at hr
      obtain ⟨rfl, rfl⟩ := hr
      clear hb hvn hlen
      have hz : ((n : Int) == 0) = false := by simp; omega
      go_enter Tryd.func82, Tryd.ntmps82
      go_wp2_with (go_at_call 90; refine (HL.out _).mono ?_; rintro e w' ⟨rfl, rfl⟩)
      go_ret2
      exact ⟨rfl, rfl⟩
    · have hz : ((n : Int) == 0) = false := by simp; omega
      have HB := Lib.hid hb; clear hb
      have HV := Lib.hid hvn; clear hvn
      have HN := Lib.hid hlen; clear hlen
      go_enter Tryd.func82, Tryd.ntmps82
      go_wp2_with (go_at_call 90; refine (HL.out _).mono ?_; rintro e w' ⟨rfl, rfl⟩)
      go_loop [6, 37] (fun c i => ∃ j : Nat, j + 1 ≤ n ∧ i = .int .i64 j ∧ c = .int .i32 (acc s.data.toList k v j) ∧ OnUp s.data.toList k j) (fun _ i => n - (intOf i).toNat)
      case atStart => exact ⟨0, by omega, rfl, rfl, onUp_zero _ _⟩
      case round =>
        obtain ⟨j, hj, rfl, rfl, hon⟩ := hrel
        by_cases hlt : j + 1 < n
        · have hi : k + 1 + j < s.size := by omega
          have hbj := bt_get s (k + 1 + j) hi
          have hac : acc s.data.toList k v j < 32768 := by
            have h1 := acc_small s.data.toList k j
            rw [HB.out, HV.out] at h1
            exact h1 hlt
          have hb255 := s[k + 1 + j].toNat_lt
          obtain ⟨ac, ha⟩ : ∃ ac, acc s.data.toList k v j = ac := ⟨_, rfl⟩
          rw [ha] at hac ⊢
          have HA := Lib.hid ha; clear ha
          have HJ := Lib.hid hbj; clear hbj
          by_cases h1 : 128 ≤ s[k + 1 + j].toNat ∧ s[k + 1 + j].toNat ≤ 191
          · obtain ⟨h1, h2⟩ := h1
            go_wp2_with (go_at_call 74; refine (goesOn_yes _ h1 h2 _).mono ?_; rintro e w' ⟨rfl, rfl⟩)
            go_round
            case rel =>
              refine ⟨j + 1, by omega, by go_num, ?_, onUp_succ hon (by rw [HJ.out]; exact ⟨h1, h2⟩)⟩
              rw [show acc s.data.toList k v (j + 1) = acc s.data.toList k v j * 64 + bt s.data.toList (k + 1 + j) % 64 from rfl, HA.out, HJ.out]
              go_num
            case measure => simp [intOf]; omega
          · have hr : tkl (s.data.toList.drop k) = (0, 0) := take_off _ k j (by rw [HN.out]; omega) (by rw [HB.out, HV.out]; exact hlt) (by rw [HJ.out]; exact h1)
            rw [HR.out] at hr
            simp only [Prod.mk.injEq] at hr
            have HX := Lib.hid hr; clear hr
            have H1 := Lib.hid h1; clear h1
            go_wp2_with (go_at_call 74; refine (goesOn_no _ H1.out _).mono ?_; rintro e w' ⟨rfl, rfl⟩)
            go_ret2
            exact ⟨ret_two (by rw [HX.out.1]; rfl) (by rw [HX.out.2]; rfl), rfl⟩
        · obtain rfl : n = j + 1 := by omega
          have hall := take_all s.data.toList k (by rw [HN.out]; exact hk) (by rw [HB.out, HV.out]; simp) (by rw [HB.out, HV.out]; exact fun m hm => hon m (by simp at hm; exact hm))
          rw [HB.out, HV.out] at hall
          simp only [Nat.add_sub_cancel] at hall
          obtain ⟨ac, ha⟩ : ∃ ac, acc s.data.toList k v j = ac := ⟨_, rfl⟩
          rw [ha] at hall ⊢
          rw [HR.out] at hall
          clear hon ha
          by_cases hsz : sz (ac : Int) = j + 1
          · rw [if_pos hsz] at hall
            simp only [Prod.mk.injEq] at hall
            have HX := Lib.hid hall; clear hall
            have HS := Lib.hid hsz; clear hsz
            have hne : ((sz (ac : Int) : Int) != (j : Int) + 1) = false := by rw [HS.out]; simp
            go_wp2_with (go_at_call 91; refine (size_any _ _).mono ?_; rintro e w' ⟨rfl, rfl⟩)
            go_ret2
            exact ⟨ret_two (by rw [HX.out.1]) (by rw [HX.out.2]; simp), rfl⟩
          · rw [if_neg hsz] at hall
            simp only [Prod.mk.injEq] at hall
            have HX := Lib.hid hall; clear hall
            have hne : ((sz (ac : Int) : Int) != (j : Int) + 1) = true := by simp; omega
            clear hsz
            go_wp2_with (go_at_call 91; refine (size_any _ _).mono ?_; rintro e w' ⟨rfl, rfl⟩)
            go_ret2
            exact ⟨ret_two (by rw [HX.out.1]; rfl) (by rw [HX.out.2]; rfl), rfl⟩

set_option maxRecDepth 100000 in
theorem take_any (s : ByteArray) (hs : s.size ≤ maxLen) (p : Int) (w : World) :
    Calls Tryd.prog 82 #[.string s, .int .i64 p] w fun e w' => e = .returned (.tuple #[.int .i32 (takeI s.data.toList p).1, .int .i64 (takeI s.data.toList p).2]) ∧ w = w' := by
  by_cases h0 : p < 0
  · have e : takeI s.data.toList p = (0, 0) := by unfold takeI; rw [if_pos h0]
    rw [e]; clear e
    unfold maxLen at hs
    go_enter Tryd.func82, Tryd.ntmps82
    go_wp2
    go_ret2
    exact ⟨rfl, rfl⟩
  obtain ⟨k, rfl⟩ := Int.eq_ofNat_of_zero_le (Int.not_lt.1 h0)
  by_cases hk : k < s.size
  · have e : takeI s.data.toList k = tkl (s.data.toList.drop k) := by unfold takeI; rw [if_neg h0]; rfl
    rw [e]
    exact take_in' s hs k hk w _ _ rfl
  · have e : takeI s.data.toList k = (0, 0) := by
      unfold takeI; rw [if_neg h0, Int.toNat_natCast, List.drop_eq_nil_of_le (by simp; omega)]; rfl
    rw [e]; clear e
    unfold maxLen at hs
    go_enter Tryd.func82, Tryd.ntmps82
    go_wp2
    go_ret2
    exact ⟨rfl, rfl⟩
end Go.Proofs.YtbdfglalohgahaaDoor
namespace Go.Proofs.YtbdfglalohgahaaDoor
open Go.RowKit

theorem conv_row (xs : List Int) (n : Nat) (hn : xs.length = n) (w : World) :
    (convert 49 9 (.slice (some ⟨w.heap.size, 0, none⟩) n n)).run Tryd.prog (w.alloc (.cells (xs.map (Value.int .u8)).toArray 5)) = .ok (.string (strOfNums xs)) (w.alloc (.cells (xs.map (Value.int .u8)).toArray 5)) := by
  refine run_convert_bytes_arg _ 49 5 Tryd.underlying49 Tryd.underlying5 _ 0 n n xs hn (fun i hi => ?_) 9 Tryd.underlying9
  rw [Nat.zero_add, World.cell?_alloc_new]
  simp [List.getD_eq_getElem?_getD, List.getElem?_eq_getElem (show i < xs.length by omega)]

/-- A row of bytes of the call's own turned into a text. -/
theorem own_string {w : World} {base n : Nat} {v : Value} {l : List UInt8} (h : w.ownsRow base 5 1 v n (l.map fun b => Value.int .u8 (b.toNat : Nat))) :
    (convert 49 9 v).run Tryd.prog w = .ok (.string ⟨l.toArray⟩) w := by
  obtain ⟨hlen, h⟩ := h
  rw [List.length_map, Nat.mul_one] at hlen
  rcases h with ⟨rfl, rfl⟩ | ⟨g, cap, cur, rfl, _, hg, _, _, _, htake⟩
  · obtain rfl : l = [] := List.eq_nil_of_length_eq_zero hlen
    exact run_convert_bytes_nil w 49 5 Tryd.underlying49 Tryd.underlying5 0 0 9 Tryd.underlying9
  · subst hlen
    refine run_convert_bytes_back w 49 9 5 ⟨g, 0, none⟩ cap l Tryd.underlying49 Tryd.underlying5 Tryd.underlying9 fun j hj => ?_
    have hplain : (⟨g, 0, none⟩ : Addr).add j = ⟨g, 0 + j, none⟩ := by unfold Addr.add; split <;> simp_all
    rw [hplain, Nat.zero_add]
    have h2 : cur[j]? = some (.int .u8 ((l[j].toNat : Nat) : Int)) := by
      have h3 := congrArg (fun x => x[j]?) htake
      simp only [Nat.mul_one] at h3
      rw [List.getElem?_take_of_lt hj, List.getElem?_map, List.getElem?_eq_getElem hj] at h3
      simpa using h3
    show w.cell? ⟨g, j, none⟩ = _
    simp [World.cell?, hg, h2]
/-- Its block is one of the call's own. -/
theorem own_block {w : World} {base e size n : Nat} {v : Value} {xs : List Value} (h : w.ownsRow base e size v n xs) : ∀ k, v.ownBlock = some k → base ≤ k := by
  intro k hk
  rcases h.2 with ⟨rfl, _⟩ | ⟨g, cap, cur, rfl, hb, _⟩
  · simp [Value.ownBlock] at hk
  · simp [Value.ownBlock] at hk; omega
end Go.Proofs.YtbdfglalohgahaaDoor
namespace Go.Proofs.YtbdfglalohgahaaDoor
open Go.RowKit

/-- A rune's bytes; nothing, if it is no rune. -/
def putS (c : Int) : ByteArray := if sz c = 0 then ⟨#[]⟩ else Utf8.encode c

theorem ok_yes (c : Int) (h0 : 0 ≤ c) (h1 : c ≤ 1114111) (h2 : c < 55296 ∨ 57343 < c) (w : World) :
    Calls Tryd.prog 92 #[.int .i64 c] w fun e w' => e = .returned (.bool true) ∧ w = w' := by
  by_cases h3 : 55296 ≤ c
  · have h4 : ¬ c ≤ 57343 := by omega
    clear h2
    go_enter Tryd.func92, Tryd.ntmps92
    go_wp2
    go_ret
    exact ⟨by simp, rfl⟩
  · clear h2
    go_enter Tryd.func92, Tryd.ntmps92
    go_wp2
    go_ret
    exact ⟨by simp, rfl⟩
theorem ok_no (c : Int) (h : c < 0 ∨ 1114111 < c ∨ (55296 ≤ c ∧ c ≤ 57343)) (w : World) :
    Calls Tryd.prog 92 #[.int .i64 c] w fun e w' => e = .returned (.bool false) ∧ w = w' := by
  by_cases h0 : c < 0
  · clear h
    go_enter Tryd.func92, Tryd.ntmps92
    go_wp2
    go_ret
    exact ⟨rfl, rfl⟩
  by_cases h1 : 1114111 < c
  · clear h
    have h1' : ¬ c ≤ 1114111 := by omega
    go_enter Tryd.func92, Tryd.ntmps92
    go_wp2
    go_ret
    exact ⟨by simp, rfl⟩
  · have h2 : 55296 ≤ c := by omega
    have h3 : c ≤ 57343 := by omega
    clear h
    go_enter Tryd.func92, Tryd.ntmps92
    go_wp2
    go_ret
    exact ⟨by simp, rfl⟩
theorem octets_any (c : Int) (h0 : sz c ≠ 0) (w : World) :
    Calls Tryd.prog 93 #[.int .i64 c] w fun e w' => e = .returned (.int .i64 (sz c)) ∧ w = w' := by
  by_cases hb : c < 0 ∨ 1114111 < c ∨ (55296 ≤ c ∧ c ≤ 57343)
  · exact absurd (by unfold sz; rw [if_pos hb]) h0
  clear h0
  by_cases h1 : c < 128
  · have e : sz c = 1 := by unfold sz; rw [if_neg hb, if_pos h1]
    rw [e]; clear e hb
    go_enter Tryd.func93, Tryd.ntmps93
    go_wp2
    go_ret
    exact ⟨rfl, rfl⟩
  by_cases h2 : c < 2048
  · have e : sz c = 2 := by unfold sz; rw [if_neg hb, if_neg h1, if_pos h2]
    rw [e]; clear e hb
    go_enter Tryd.func93, Tryd.ntmps93
    go_wp2
    go_ret
    exact ⟨rfl, rfl⟩
  by_cases h3 : c < 65536
  · have e : sz c = 3 := by unfold sz; rw [if_neg hb, if_neg h1, if_neg h2, if_pos h3]
    rw [e]; clear e hb
    go_enter Tryd.func93, Tryd.ntmps93
    go_wp2
    go_ret
    exact ⟨rfl, rfl⟩
  · have e : sz c = 4 := by unfold sz; rw [if_neg hb, if_neg h1, if_neg h2, if_neg h3]
    rw [e]; clear e hb
    go_enter Tryd.func93, Tryd.ntmps93
    go_wp2
    go_ret
    exact ⟨rfl, rfl⟩

theorem putS_1 (c : Int) (h : 0 ≤ c) (h' : c < 128) : putS c = strOfNums [c] := by
  have hs : sz c = 1 := by unfold sz; rw [if_neg (by omega), if_pos (by omega)]
  have hv : Utf8.valid c = true := by unfold Utf8.valid; simp; omega
  unfold putS Utf8.encode
  rw [hs, if_neg (by omega), if_pos hv]
  simp only []
  rw [if_pos (by omega)]
  simp only [strOfNums, List.map_cons, List.map_nil]
set_option maxRecDepth 100000 in
set_option maxHeartbeats 400000 in
theorem rput_1 (c : Int) (h : 0 ≤ c) (h' : c < 128) (w : World) :
    Calls Tryd.prog 84 #[.int .i32 c] w fun e w' => e = .returned (.string (putS c)) ∧ Below w.heap.size w w' := by
  have hs : sz c = 1 := by unfold sz; rw [if_neg (by omega), if_pos (by omega)]
  have ho := octets_any c (by omega)
  rw [hs] at ho
  rw [putS_1 c h h']
  have HO := Lib.hid ho; clear ho
  clear hs
  have hk := ok_yes c (by omega) (by omega) (by omega)
  have HK := Lib.hid hk; clear hk
  have hcv : ∀ x : Int, _ := fun x => conv_row [x] 1 rfl w
  simp only [List.map_cons, List.map_nil] at hcv
  go_enter Tryd.func84, Tryd.ntmps84
  go_wp2_with (first | (go_at_call 92; refine (HK.out _).mono ?_; rintro e w' ⟨rfl, rfl⟩) | (go_at_call 93; refine (HO.out _).mono ?_; rintro e w' ⟨rfl, rfl⟩))
  go_ret
  exact ⟨rfl, (Below.refl _ _).alloc (Nat.le_refl _) _⟩
theorem putS_2 (c : Int) (h : 128 ≤ c) (h' : c < 2048) : putS c = strOfNums [192 + c / 64, 128 + c % 64] := by
  have hs : sz c = 2 := by unfold sz; rw [if_neg (by omega), if_neg (by omega), if_pos (by omega)]
  have hv : Utf8.valid c = true := by unfold Utf8.valid; simp; omega
  unfold putS Utf8.encode
  rw [hs, if_neg (by omega), if_pos hv]
  simp only []
  rw [if_neg (by omega), if_pos (by omega)]
  simp only [strOfNums, List.map_cons, List.map_nil, show (192 + c / 64).toNat = 192 + c.toNat / 64 by omega, show (128 + c % 64).toNat = 128 + c.toNat % 64 by omega]
set_option maxRecDepth 100000 in
set_option maxHeartbeats 400000 in
theorem rput_2 (c : Int) (h : 128 ≤ c) (h' : c < 2048) (w : World) :
    Calls Tryd.prog 84 #[.int .i32 c] w fun e w' => e = .returned (.string (putS c)) ∧ Below w.heap.size w w' := by
  have hs : sz c = 2 := by unfold sz; rw [if_neg (by omega), if_neg (by omega), if_pos (by omega)]
  have ho := octets_any c (by omega)
  rw [hs] at ho
  rw [putS_2 c h h']
  have HO := Lib.hid ho; clear ho
  clear hs
  have hk := ok_yes c (by omega) (by omega) (by omega)
  have HK := Lib.hid hk; clear hk
  have hcv : ∀ x y : Int, _ := fun x y => conv_row [x, y] 2 rfl w
  simp only [List.map_cons, List.map_nil] at hcv
  go_enter Tryd.func84, Tryd.ntmps84
  go_wp2_with (first | (go_at_call 92; refine (HK.out _).mono ?_; rintro e w' ⟨rfl, rfl⟩) | (go_at_call 93; refine (HO.out _).mono ?_; rintro e w' ⟨rfl, rfl⟩))
  go_ret
  exact ⟨rfl, (Below.refl _ _).alloc (Nat.le_refl _) _⟩
theorem putS_3 (c : Int) (h : 2048 ≤ c) (h' : c < 65536) (hg : c < 55296 ∨ 57343 < c) : putS c = strOfNums [224 + c / 4096, 128 + c / 64 % 64, 128 + c % 64] := by
  have hs : sz c = 3 := by unfold sz; rw [if_neg (by omega), if_neg (by omega), if_neg (by omega), if_pos (by omega)]
  have hv : Utf8.valid c = true := by unfold Utf8.valid; simp; omega
  unfold putS Utf8.encode
  rw [hs, if_neg (by omega), if_pos hv]
  simp only []
  rw [if_neg (by omega), if_neg (by omega), if_pos (by omega)]
  simp only [strOfNums, List.map_cons, List.map_nil, show (224 + c / 4096).toNat = 224 + c.toNat / 4096 by omega, show (128 + c / 64 % 64).toNat = 128 + c.toNat / 64 % 64 by omega, show (128 + c % 64).toNat = 128 + c.toNat % 64 by omega]
set_option maxRecDepth 100000 in
set_option maxHeartbeats 400000 in
theorem rput_3 (c : Int) (h : 2048 ≤ c) (h' : c < 65536) (hg : c < 55296 ∨ 57343 < c) (w : World) :
    Calls Tryd.prog 84 #[.int .i32 c] w fun e w' => e = .returned (.string (putS c)) ∧ Below w.heap.size w w' := by
  have hs : sz c = 3 := by unfold sz; rw [if_neg (by omega), if_neg (by omega), if_neg (by omega), if_pos (by omega)]
  have ho := octets_any c (by omega)
  rw [hs] at ho
  rw [putS_3 c h h' hg]
  have HO := Lib.hid ho; clear ho
  clear hs
  have hk := ok_yes c (by omega) (by omega) (by omega)
  have HK := Lib.hid hk; clear hk
  have hcv : ∀ x y z : Int, _ := fun x y z => conv_row [x, y, z] 3 rfl w
  simp only [List.map_cons, List.map_nil] at hcv
  go_enter Tryd.func84, Tryd.ntmps84
  go_wp2_with (first | (go_at_call 92; refine (HK.out _).mono ?_; rintro e w' ⟨rfl, rfl⟩) | (go_at_call 93; refine (HO.out _).mono ?_; rintro e w' ⟨rfl, rfl⟩))
  go_ret
  exact ⟨rfl, (Below.refl _ _).alloc (Nat.le_refl _) _⟩
theorem putS_4 (c : Int) (h : 65536 ≤ c) (h' : c ≤ 1114111) : putS c = strOfNums [240 + c / 262144, 128 + c / 4096 % 64, 128 + c / 64 % 64, 128 + c % 64] := by
  have hs : sz c = 4 := by unfold sz; rw [if_neg (by omega), if_neg (by omega), if_neg (by omega), if_neg (by omega)]
  have hv : Utf8.valid c = true := by unfold Utf8.valid; simp; omega
  unfold putS Utf8.encode
  rw [hs, if_neg (by omega), if_pos hv]
  simp only []
  rw [if_neg (by omega), if_neg (by omega), if_neg (by omega)]
  simp only [strOfNums, List.map_cons, List.map_nil, show (240 + c / 262144).toNat = 240 + c.toNat / 262144 by omega, show (128 + c / 4096 % 64).toNat = 128 + c.toNat / 4096 % 64 by omega, show (128 + c / 64 % 64).toNat = 128 + c.toNat / 64 % 64 by omega, show (128 + c % 64).toNat = 128 + c.toNat % 64 by omega]
set_option maxRecDepth 100000 in
set_option maxHeartbeats 400000 in
theorem rput_4 (c : Int) (h : 65536 ≤ c) (h' : c ≤ 1114111) (w : World) :
    Calls Tryd.prog 84 #[.int .i32 c] w fun e w' => e = .returned (.string (putS c)) ∧ Below w.heap.size w w' := by
  have hs : sz c = 4 := by unfold sz; rw [if_neg (by omega), if_neg (by omega), if_neg (by omega), if_neg (by omega)]
  have ho := octets_any c (by omega)
  rw [hs] at ho
  rw [putS_4 c h h']
  have HO := Lib.hid ho; clear ho
  clear hs
  have hk := ok_yes c (by omega) (by omega) (by omega)
  have HK := Lib.hid hk; clear hk
  have hcv : ∀ x y z u : Int, _ := fun x y z u => conv_row [x, y, z, u] 4 rfl w
  simp only [List.map_cons, List.map_nil] at hcv
  go_enter Tryd.func84, Tryd.ntmps84
  go_wp2_with (first | (go_at_call 92; refine (HK.out _).mono ?_; rintro e w' ⟨rfl, rfl⟩) | (go_at_call 93; refine (HO.out _).mono ?_; rintro e w' ⟨rfl, rfl⟩))
  go_ret
  exact ⟨rfl, (Below.refl _ _).alloc (Nat.le_refl _) _⟩
set_option maxRecDepth 100000 in
set_option maxHeartbeats 400000 in
theorem rput_0 (c : Int) (b0 : -2147483648 ≤ c) (b1 : c ≤ 2147483647) (h : c < 0 ∨ 1114111 < c ∨ (55296 ≤ c ∧ c ≤ 57343)) (w : World) :
    Calls Tryd.prog 84 #[.int .i32 c] w fun e w' => e = .returned (.string (putS c)) ∧ Below w.heap.size w w' := by
  have hs : sz c = 0 := by unfold sz; rw [if_pos h]
  have e : putS c = ⟨#[]⟩ := by unfold putS; rw [if_pos hs]
  rw [e]; clear e hs
  have hk := ok_no c h
  have HK := Lib.hid hk; clear hk h
  go_enter Tryd.func84, Tryd.ntmps84
  go_wp2_with (go_at_call 92; refine (HK.out _).mono ?_; rintro e w' ⟨rfl, rfl⟩)
  go_ret
  exact ⟨rfl, Below.refl _ _⟩
theorem rput_any (c : Int) (b0 : -2147483648 ≤ c) (b1 : c ≤ 2147483647) (w : World) :
    Calls Tryd.prog 84 #[.int .i32 c] w fun e w' => e = .returned (.string (putS c)) ∧ Below w.heap.size w w' := by
  by_cases h0 : c < 0 ∨ 1114111 < c ∨ (55296 ≤ c ∧ c ≤ 57343)
  · exact rput_0 c b0 b1 h0 w
  by_cases h1 : c < 128
  · exact rput_1 c (by omega) h1 w
  by_cases h2 : c < 2048
  · exact rput_2 c (by omega) h2 w
  by_cases h3 : c < 65536
  · exact rput_3 c (by omega) h3 (by omega) w
  · exact rput_4 c (by omega) (by omega) w
end Go.Proofs.YtbdfglalohgahaaDoor
namespace Go.Proofs.YtbdfglalohgahaaDoor
open Go.RowKit

def edgeB (l : List UInt8) (p : Int) : Bool := decide (0 ≤ p ∧ edge l p.toNat)

set_option maxRecDepth 100000 in
theorem edge_yes (s : ByteArray) (hs : s.size ≤ maxLen) (k : Nat) (h : edge s.data.toList k) (w : World) :
    Calls Tryd.prog 55 #[.string s, .int .i64 k] w fun e w' => e = .returned (.bool true) ∧ w = w' := by
  unfold maxLen at hs
  have hlen : s.data.toList.length = s.size := by simp
  unfold edge at h
  rw [hlen] at h
  by_cases h0 : k = 0
  · clear h hlen
    subst h0
    go_enter Tryd.func55, Tryd.ntmps55
    go_wp2
    go_ret
    exact ⟨by simp, rfl⟩
  have hz : ((k : Int) == 0) = false := by simp; omega
  by_cases h1 : k = s.size
  · have hz1 : ((k : Int) == (s.size : Int)) = true := by simp; omega
    have hle : k ≤ s.size := by omega
    have hge : s.size ≤ k := by omega
    clear h hlen h1
    go_enter Tryd.func55, Tryd.ntmps55
    go_wp2
    go_ret
    exact ⟨by simp, rfl⟩
  · have hz1 : ((k : Int) == (s.size : Int)) = false := by simp; omega
    obtain ⟨hk, hb⟩ : k < s.size ∧ ¬ (128 ≤ bt s.data.toList k ∧ bt s.data.toList k ≤ 191) := by
      rcases h with h | h | h
      · exact absurd h h0
      · exact absurd h h1
      · exact h
    rw [bt_get s k hk] at hb
    have HB := Lib.hid hb
    clear h hlen h1 h0 hb
    go_enter Tryd.func55, Tryd.ntmps55
    go_wp2_with (go_at_call 74; refine (goesOn_no _ HB.out _).mono ?_; rintro e w' ⟨rfl, rfl⟩)
    go_ret
    exact ⟨by simp, rfl⟩
set_option maxRecDepth 100000 in
theorem edge_no (s : ByteArray) (hs : s.size ≤ maxLen) (k : Nat) (hk : k < s.size) (h : ¬ edge s.data.toList k) (w : World) :
    Calls Tryd.prog 55 #[.string s, .int .i64 k] w fun e w' => e = .returned (.bool false) ∧ w = w' := by
  unfold maxLen at hs
  have hlen : s.data.toList.length = s.size := by simp
  unfold edge at h
  rw [hlen, bt_get s k hk] at h
  have hz : ((k : Int) == 0) = false := by simp; omega
  have hz1 : ((k : Int) == (s.size : Int)) = false := by simp; omega
  have h1 : 128 ≤ s[k].toNat := by omega
  have h2 : s[k].toNat ≤ 191 := by omega
  clear h hlen
  go_enter Tryd.func55, Tryd.ntmps55
  go_wp2_with (go_at_call 74; refine (goesOn_yes _ h1 h2 _).mono ?_; rintro e w' ⟨rfl, rfl⟩)
  go_ret
  exact ⟨by simp, rfl⟩
set_option maxRecDepth 100000 in
theorem edge_out (s : ByteArray) (p : Int) (h : p < 0 ∨ (s.size : Int) < p) (w : World) :
    Calls Tryd.prog 55 #[.string s, .int .i64 p] w fun e w' => e = .returned (.bool false) ∧ w = w' := by
  by_cases h0 : p < 0
  · clear h
    go_enter Tryd.func55, Tryd.ntmps55
    go_wp2
    go_ret
    exact ⟨rfl, rfl⟩
  · have h1 : (s.size : Int) < p := by omega
    clear h
    go_enter Tryd.func55, Tryd.ntmps55
    go_wp2
    go_ret
    exact ⟨rfl, rfl⟩
theorem edge_any (s : ByteArray) (hs : s.size ≤ maxLen) (p : Int) (w : World) :
    Calls Tryd.prog 55 #[.string s, .int .i64 p] w fun e w' => e = .returned (.bool (edgeB s.data.toList p)) ∧ w = w' := by
  have hlen : s.data.toList.length = s.size := by simp
  by_cases h : p < 0 ∨ (s.size : Int) < p
  · have e : edgeB s.data.toList p = false := by
      unfold edgeB; rw [decide_eq_false_iff_not]; unfold edge; rw [hlen]; omega
    rw [e]; exact edge_out s p h w
  obtain ⟨k, rfl⟩ := Int.eq_ofNat_of_zero_le (show 0 ≤ p by omega)
  by_cases hE : edge s.data.toList k
  · have e : edgeB s.data.toList k = true := by unfold edgeB; rw [Int.toNat_natCast]; simp [hE]
    rw [e]; exact edge_yes s hs k hE w
  · have e : edgeB s.data.toList k = false := by unfold edgeB; rw [Int.toNat_natCast]; simp [hE]
    rw [e]; exact edge_no s hs k (by unfold edge at hE; rw [hlen] at hE; omega) hE w

set_option maxRecDepth 100000 in
theorem redge_yes (s : ByteArray) (hs : s.size ≤ maxLen) (k : Nat) (h : edge s.data.toList k) (w : World) :
    Calls Tryd.prog 61 #[.string s, .int .i64 k] w fun e w' => e = .returned (.bool true) ∧ w = w' := by
  unfold maxLen at hs
  have hlen : s.data.toList.length = s.size := by simp
  unfold edge at h
  rw [hlen] at h
  by_cases h0 : k = 0
  · clear h hlen
    subst h0
    go_enter Tryd.func61, Tryd.ntmps61
    go_wp2
    go_ret
    exact ⟨by simp, rfl⟩
  have hz : ((k : Int) == 0) = false := by simp; omega
  by_cases h1 : k = s.size
  · have hz1 : ((k : Int) == (s.size : Int)) = true := by simp; omega
    have hle : k ≤ s.size := by omega
    have hge : s.size ≤ k := by omega
    clear h hlen h1
    go_enter Tryd.func61, Tryd.ntmps61
    go_wp2
    go_ret
    exact ⟨by simp, rfl⟩
  · have hz1 : ((k : Int) == (s.size : Int)) = false := by simp; omega
    obtain ⟨hk, hb⟩ : k < s.size ∧ ¬ (128 ≤ bt s.data.toList k ∧ bt s.data.toList k ≤ 191) := by
      rcases h with h | h | h
      · exact absurd h h0
      · exact absurd h h1
      · exact h
    rw [bt_get s k hk] at hb
    have HB := Lib.hid hb
    clear h hlen h1 h0 hb
    go_enter Tryd.func61, Tryd.ntmps61
    go_wp2_with (go_at_call 77; refine (on_no _ HB.out _).mono ?_; rintro e w' ⟨rfl, rfl⟩)
    go_ret
    exact ⟨by simp, rfl⟩
set_option maxRecDepth 100000 in
theorem redge_no (s : ByteArray) (hs : s.size ≤ maxLen) (k : Nat) (hk : k < s.size) (h : ¬ edge s.data.toList k) (w : World) :
    Calls Tryd.prog 61 #[.string s, .int .i64 k] w fun e w' => e = .returned (.bool false) ∧ w = w' := by
  unfold maxLen at hs
  have hlen : s.data.toList.length = s.size := by simp
  unfold edge at h
  rw [hlen, bt_get s k hk] at h
  have hz : ((k : Int) == 0) = false := by simp; omega
  have hz1 : ((k : Int) == (s.size : Int)) = false := by simp; omega
  have h1 : 128 ≤ s[k].toNat := by omega
  have h2 : s[k].toNat ≤ 191 := by omega
  clear h hlen
  go_enter Tryd.func61, Tryd.ntmps61
  go_wp2_with (go_at_call 77; refine (on_yes _ h1 h2 _).mono ?_; rintro e w' ⟨rfl, rfl⟩)
  go_ret
  exact ⟨by simp, rfl⟩
set_option maxRecDepth 100000 in
theorem redge_out (s : ByteArray) (p : Int) (h : p < 0 ∨ (s.size : Int) < p) (w : World) :
    Calls Tryd.prog 61 #[.string s, .int .i64 p] w fun e w' => e = .returned (.bool false) ∧ w = w' := by
  by_cases h0 : p < 0
  · clear h
    go_enter Tryd.func61, Tryd.ntmps61
    go_wp2
    go_ret
    exact ⟨rfl, rfl⟩
  · have h1 : (s.size : Int) < p := by omega
    clear h
    go_enter Tryd.func61, Tryd.ntmps61
    go_wp2
    go_ret
    exact ⟨rfl, rfl⟩
theorem redge_any (s : ByteArray) (hs : s.size ≤ maxLen) (p : Int) (w : World) :
    Calls Tryd.prog 61 #[.string s, .int .i64 p] w fun e w' => e = .returned (.bool (edgeB s.data.toList p)) ∧ w = w' := by
  have hlen : s.data.toList.length = s.size := by simp
  by_cases h : p < 0 ∨ (s.size : Int) < p
  · have e : edgeB s.data.toList p = false := by
      unfold edgeB; rw [decide_eq_false_iff_not]; unfold edge; rw [hlen]; omega
    rw [e]; exact redge_out s p h w
  obtain ⟨k, rfl⟩ := Int.eq_ofNat_of_zero_le (show 0 ≤ p by omega)
  by_cases hE : edge s.data.toList k
  · have e : edgeB s.data.toList k = true := by unfold edgeB; rw [Int.toNat_natCast]; simp [hE]
    rw [e]; exact redge_yes s hs k hE w
  · have e : edgeB s.data.toList k = false := by unfold edgeB; rw [Int.toNat_natCast]; simp [hE]
    rw [e]; exact redge_no s hs k (by unfold edge at hE; rw [hlen] at hE; omega) hE w
end Go.Proofs.YtbdfglalohgahaaDoor
namespace Go.Proofs.YtbdfglalohgahaaDoor
open Go.RowKit

theorem euro : putS 8364 = ⟨#[226, 130, 172]⟩ := by decide +kernel
theorem euro_take : takeI (⟨#[226, 130, 172]⟩ : ByteArray).data.toList 0 = (8364, 3) := by decide +kernel
theorem euro_edge : ¬ edge (⟨#[226, 130, 172]⟩ : ByteArray).data.toList 1 := by decide +kernel

end Go.Proofs.YtbdfglalohgahaaDoor
namespace Go.Proofs.YtbdfglalohgahaaDoor
open Go.RowKit

/-- The greatest edge that is not above a place, whatever number the place is. -/
def backI (l : List UInt8) (p : Int) : Nat := if p < 0 then 0 else if (l.length : Int) < p then l.length else back l p.toNat

theorem edge_zero (l : List UInt8) : edge l 0 := .inl rfl
theorem edge_len (l : List UInt8) : edge l l.length := .inr (.inl rfl)

/-- As far as the document's loop has come: the greatest edge below k. -/
def best (l : List UInt8) : Nat → Nat
  | 0 => 0
  | k + 1 => back l k
theorem best_yes (l : List UInt8) (k : Nat) (h : edge l k) : best l (k + 1) = k := back_edge l k h
theorem best_no (l : List UInt8) (k : Nat) (h : ¬ edge l k) : best l (k + 1) = best l k := by
  cases k with
  | zero => exact absurd (edge_zero l) h
  | succ k => exact back_not l k h
end Go.Proofs.YtbdfglalohgahaaDoor
namespace Go.Proofs.YtbdfglalohgahaaDoor
open Go.RowKit

theorem get_bt (s : ByteArray) (i : Nat) : (s.get! i).toNat = bt s.data.toList i := by
  by_cases h : i < s.size
  · rw [bt_get s i h]; simp [ByteArray.get!, getElem!_pos, h]; rfl
  · rw [bt_of_le _ _ (by simp; omega)]
    have : s.get! i = 0 := by
      show s.data[i]! = 0
      rw [getElem!_neg s.data i (by simpa using h)]; rfl
    rw [this]; rfl

theorem decode_tk (s : ByteArray) (i : Nat) (h : i < s.size) :
    Utf8.decode s i = if (tkl (s.data.toList.drop i)).2 = 0 then (65533, 1) else tkl (s.data.toList.drop i) := by
  rw [tkl_drop _ i (by simpa using h)]
  have c : ∀ k, (decide (i + k < s.size) && bt s.data.toList (i + k) / 64 == 2) = decide (128 ≤ bt s.data.toList (i + k) ∧ bt s.data.toList (i + k) ≤ 191) := by
    intro k
    by_cases hk : i + k < s.size
    · rw [decide_eq_true hk, Bool.true_and, Bool.eq_iff_iff]; simp; omega
    · rw [decide_eq_false hk, Bool.false_and, bt_of_le _ _ (by simp; omega)]; rfl
  simp only [Utf8.decode, get_bt, c, Nat.add_zero]
  generalize bt s.data.toList i = b0
  rw [show i + 1 + 1 = i + 2 from rfl, show i + 1 + 2 = i + 3 from rfl]
  generalize bt s.data.toList (i + 1) = b1
  generalize bt s.data.toList (i + 2) = b2
  generalize bt s.data.toList (i + 3) = b3
  by_cases h1 : b0 < 128
  · have T : tk b0 b1 b2 b3 = (b0, 1) := by unfold tk; rw [if_pos h1]
    rw [if_pos h1, T]; rfl
  rw [if_neg h1]
  by_cases h2 : b0 / 32 = 6 ∧ 128 ≤ b1 ∧ b1 ≤ 191
  · rw [if_pos (by simp; omega)]
    by_cases h3 : 128 ≤ b0 % 32 * 64 + b1 % 64
    · have T : tk b0 b1 b2 b3 = ((b0 - 192) * 64 + (b1 - 128), 2) := by unfold tk; rw [if_neg h1, if_pos (by omega)]
      rw [if_pos h3, T, if_neg (by simp)]
      simp only [Prod.mk.injEq, and_true]; omega
    · have T : tk b0 b1 b2 b3 = (0, 0) := by unfold tk; rw [if_neg h1, if_neg (by omega), if_neg (by omega), if_neg (by omega)]
      rw [if_neg h3, T]; rfl
  rw [if_neg (by simp; omega)]
  by_cases h4 : b0 / 16 = 14 ∧ (128 ≤ b1 ∧ b1 ≤ 191) ∧ 128 ≤ b2 ∧ b2 ≤ 191
  · rw [if_pos (by simp; omega)]
    have E : b0 % 16 * 4096 + b1 % 64 * 64 + b2 % 64 = (b0 - 224) * 4096 + (b1 - 128) * 64 + (b2 - 128) := by omega
    rw [E]
    by_cases h5 : (b0 = 224 → 160 ≤ b1) ∧ (b0 = 237 → b1 < 160)
    · have T : tk b0 b1 b2 b3 = ((b0 - 224) * 4096 + (b1 - 128) * 64 + (b2 - 128), 3) := by unfold tk; rw [if_neg h1, if_neg (by omega), if_pos (by omega)]
      rw [if_pos (by simp [Utf8.valid]; omega), T, if_neg (by simp)]
    · have T : tk b0 b1 b2 b3 = (0, 0) := by unfold tk; rw [if_neg h1, if_neg (by omega), if_neg (by omega), if_neg (by omega)]
      rw [if_neg (by simp [Utf8.valid]; omega), T]; rfl
  rw [if_neg (by simp; omega)]
  by_cases h6 : b0 / 8 = 30 ∧ (128 ≤ b1 ∧ b1 ≤ 191) ∧ (128 ≤ b2 ∧ b2 ≤ 191) ∧ 128 ≤ b3 ∧ b3 ≤ 191
  · rw [if_pos (by simp; omega)]
    have E : b0 % 8 * 262144 + b1 % 64 * 4096 + b2 % 64 * 64 + b3 % 64 = (b0 - 240) * 262144 + (b1 - 128) * 4096 + (b2 - 128) * 64 + (b3 - 128) := by omega
    rw [E]
    by_cases h5 : b0 < 245 ∧ (b0 = 240 → 144 ≤ b1) ∧ (b0 = 244 → b1 < 144)
    · have T : tk b0 b1 b2 b3 = ((b0 - 240) * 262144 + (b1 - 128) * 4096 + (b2 - 128) * 64 + (b3 - 128), 4) := by unfold tk; rw [if_neg h1, if_neg (by omega), if_neg (by omega), if_pos (by omega)]
      rw [if_pos (by simp [Utf8.valid]; omega), T, if_neg (by simp)]
    · have T : tk b0 b1 b2 b3 = (0, 0) := by unfold tk; rw [if_neg h1, if_neg (by omega), if_neg (by omega), if_neg (by omega)]
      rw [if_neg (by simp [Utf8.valid]; omega), T]; rfl
  · have T : tk b0 b1 b2 b3 = (0, 0) := by unfold tk; rw [if_neg h1, if_neg (by omega), if_neg (by omega), if_neg (by omega)]
    rw [if_neg (by simp; omega), T]; rfl
end Go.Proofs.YtbdfglalohgahaaDoor
namespace Go.Proofs.YtbdfglalohgahaaDoor
open Go.RowKit

theorem tkl_nums (x : Int) (xs : List Int) : tkl (strOfNums (x :: xs)).data.toList = tk (bt (strOfNums (x :: xs)).data.toList 0) (bt (strOfNums (x :: xs)).data.toList 1) (bt (strOfNums (x :: xs)).data.toList 2) (bt (strOfNums (x :: xs)).data.toList 3) := by
  unfold tkl; rw [if_neg (by simp [strOfNums])]

/-- What is put is taken, and has its own number of bytes. -/
theorem put_takes (c : Int) (h : sz c ≠ 0) : 0 ≤ c ∧ tkl (putS c).data.toList = (c.toNat, sz c) ∧ (putS c).size = sz c := by
  by_cases hb : c < 0 ∨ 1114111 < c ∨ (55296 ≤ c ∧ c ≤ 57343)
  · exact absurd (by unfold sz; rw [if_pos hb]) h
  refine ⟨by omega, ?_⟩
  by_cases h1 : c < 128
  · have hs : sz c = 1 := by unfold sz; rw [if_neg hb, if_pos h1]
    rw [hs, putS_1 c (by omega) h1, tkl_nums, size_nums, bt_nums _ 0 (by simp)]
    refine ⟨?_, rfl⟩
    simp only [List.getD_cons_zero]
    unfold tk; rw [if_pos (by omega)]; simp only [Prod.mk.injEq, and_true]; omega
  by_cases h2 : c < 2048
  · have hs : sz c = 2 := by unfold sz; rw [if_neg hb, if_neg h1, if_pos h2]
    rw [hs, putS_2 c (by omega) h2, tkl_nums, size_nums, bt_nums _ 0 (by simp), bt_nums _ 1 (by simp)]
    refine ⟨?_, rfl⟩
    simp only [List.getD_cons_zero, List.getD_cons_succ]
    unfold tk; rw [if_neg (by omega), if_pos (by omega)]; simp only [Prod.mk.injEq, and_true]; omega
  by_cases h3 : c < 65536
  · have hs : sz c = 3 := by unfold sz; rw [if_neg hb, if_neg h1, if_neg h2, if_pos h3]
    rw [hs, putS_3 c (by omega) h3 (by omega), tkl_nums, size_nums, bt_nums _ 0 (by simp), bt_nums _ 1 (by simp), bt_nums _ 2 (by simp)]
    refine ⟨?_, rfl⟩
    simp only [List.getD_cons_zero, List.getD_cons_succ]
    unfold tk; rw [if_neg (by omega), if_neg (by omega), if_pos (by omega)]; simp only [Prod.mk.injEq, and_true]; omega
  · have hs : sz c = 4 := by unfold sz; rw [if_neg hb, if_neg h1, if_neg h2, if_neg h3]
    rw [hs, putS_4 c (by omega) (by omega), tkl_nums, size_nums, bt_nums _ 0 (by simp), bt_nums _ 1 (by simp), bt_nums _ 2 (by simp), bt_nums _ 3 (by simp)]
    refine ⟨?_, rfl⟩
    simp only [List.getD_cons_zero, List.getD_cons_succ]
    unfold tk; rw [if_neg (by omega), if_neg (by omega), if_neg (by omega), if_pos (by omega)]; simp only [Prod.mk.injEq, and_true]; omega

end Go.Proofs.YtbdfglalohgahaaDoor
namespace Go.Proofs.YtbdfglalohgahaaDoor
open Go.RowKit

/-- What some bytes would be as a rune. -/
def baseOf (n : Nat) : Nat := if n = 2 then 192 else if n = 3 then 224 else 240
def numI (l : List UInt8) : Int :=
  if l.length = 1 then bt l 0 else if bt l 0 < baseOf l.length then -1 else acc l 0 (bt l 0 - baseOf l.length) (l.length - 1)

theorem acc_le (l : List UInt8) (v : Nat) (hv : v < 256) (j : Nat) (hj : j ≤ 3) : acc l 0 v j < 256 * 262144 + 262144 := by
  match j, hj with
  | 0, _ => simp only [acc]; omega
  | 1, _ => simp only [acc]; omega
  | 2, _ => simp only [acc]; omega
  | 3, _ => simp only [acc]; omega

set_option maxRecDepth 100000 in
set_option maxHeartbeats 400000 in
theorem number_1 (s : ByteArray) (hs : s.size = 1) (w : World) :
    Calls Tryd.prog 83 #[.string s] w fun e w' => e = .returned (.int .i64 (numI s.data.toList)) ∧ w = w' := by
  have hlen : s.data.toList.length = s.size := by simp
  have h0 : 0 < s.size := by omega
  have e : numI s.data.toList = (s[0].toNat : Nat) := by unfold numI; rw [if_pos (by omega), bt_get s 0 h0]
  rw [e]
  have hz : ((s.size : Int) == 1) = true := by simp; omega
  have hb0 := s[0].toNat_lt
  clear hs hlen e
  go_enter Tryd.func83, Tryd.ntmps83
  go_wp2
  go_ret
  exact ⟨rfl, rfl⟩

set_option maxRecDepth 100000 in
set_option maxHeartbeats 400000 in
theorem number_more (s : ByteArray) (n : Nat) (hs : s.size = n) (h1 : 2 ≤ n) (h4 : n ≤ 4) (w : World) :
    Calls Tryd.prog 83 #[.string s] w fun e w' => e = .returned (.int .i64 (numI s.data.toList)) ∧ w = w' := by
  have hlen : s.data.toList.length = s.size := by simp
  have h0 : 0 < s.size := by omega
  obtain ⟨r, hr⟩ : ∃ r, numI s.data.toList = r := ⟨_, rfl⟩
  rw [hr]
  have hb := bt_get s 0 h0
  have hb0 := s[0].toNat_lt
  obtain ⟨b0, hb0'⟩ : ∃ b, s[0].toNat = b := ⟨_, rfl⟩
  unfold numI at hr
  rw [if_neg (by omega), hlen, hs, hb] at hr
  have hz1 : ((s.size : Int) == 1) = false := by simp; omega
  have hlo : 2 ≤ s.size := by omega
  have hhi : s.size ≤ 4 := by omega
  by_cases hlt : s[0].toNat < baseOf n
  · rw [if_pos hlt] at hr
    have HR := Lib.hid hr; clear hr
    by_cases e2 : n = 2
    · have hz2 : ((s.size : Int) == 2) = true := by simp; omega
      rw [e2] at hlt
      have hl : s[0].toNat < 192 := hlt
      clear hb hb0' hlen hs hlt e2
      go_enter Tryd.func83, Tryd.ntmps83
      go_wp2
      go_ret
      exact ⟨ret_int HR.out, rfl⟩
    have hz2 : ((s.size : Int) == 2) = false := by simp; omega
    by_cases e3 : n = 3
    · have hz3 : ((s.size : Int) == 3) = true := by simp; omega
      rw [e3] at hlt
      have hl : s[0].toNat < 224 := hlt
      clear hb hb0' hlen hs hlt e2 e3
      go_enter Tryd.func83, Tryd.ntmps83
      go_wp2
      go_ret
      exact ⟨ret_int HR.out, rfl⟩
    have hz3 : ((s.size : Int) == 3) = false := by simp; omega
    obtain rfl : n = 4 := by omega
    have hl : s[0].toNat < 240 := hlt
    clear hb hb0' hlen hs hlt e2 e3
    go_enter Tryd.func83, Tryd.ntmps83
    go_wp2
    go_ret
    exact ⟨ret_int HR.out, rfl⟩
  · rw [if_neg hlt] at hr
    rw [show acc s.data.toList 0 (s[0].toNat - baseOf n) (n - 1) = acc s.data.toList 0 (s[0].toNat - baseOf n) (s.size - 1) by rw [hs]] at hr
    by_cases e2 : n = 2
    · have hz2 : ((s.size : Int) == 2) = true := by simp; omega
      rw [e2] at hlt hr
      have hl : 192 ≤ s[0].toNat := Nat.not_lt.1 hlt
      clear hlt
      have HR := Lib.hid hr; clear hr
      clear hb hb0' hlen hs e2
      have HV : Hid (acc s.data.toList 0 (s[0].toNat - 192) 0 = s[0].toNat - 192) := rfl
      go_enter Tryd.func83, Tryd.ntmps83
      go_wp2
      go_loop [3, 4] (fun f i => ∃ j : Nat, j + 1 ≤ s.size ∧ i = .int .i64 (j + 1 : Nat) ∧ f = .int .i64 (acc s.data.toList 0 (s[0].toNat - 192) j)) (fun _ i => s.size - (intOf i).toNat)
      case atStart => exact ⟨0, by omega, rfl, by rw [HV.out]; go_num⟩
      case round =>
        obtain ⟨j, hj, rfl, rfl⟩ := hrel
        by_cases hlt : j + 1 < s.size
        · have hbj := bt_get s (j + 1) hlt
          have hac := acc_le s.data.toList (s[0].toNat - 192) (by omega) j (by omega)
          have hb255 := s[j + 1].toNat_lt
          obtain ⟨ac, ha⟩ : ∃ ac, acc s.data.toList 0 (s[0].toNat - 192) j = ac := ⟨_, rfl⟩
          rw [ha] at hac ⊢
          have HA := Lib.hid ha; clear ha
          have HJ := Lib.hid hbj; clear hbj
          go_wp2
          go_round
          case rel =>
            refine ⟨j + 1, by omega, by go_num, ?_⟩
            rw [show acc s.data.toList 0 (s[0].toNat - 192) (j + 1) = acc s.data.toList 0 (s[0].toNat - 192) j * 64 + bt s.data.toList (0 + 1 + j) % 64 from rfl, HA.out, show 0 + 1 + j = j + 1 by omega, HJ.out]
            go_num
          case measure => simp [intOf]; omega
        · have hend : s.size ≤ j + 1 := by omega
          go_wp2
          go_ret
          exact ⟨ret_int (by rw [← HR.out, show s.size - 1 = j by omega]; rfl), rfl⟩
    have hz2 : ((s.size : Int) == 2) = false := by simp; omega
    by_cases e3 : n = 3
    · have hz3 : ((s.size : Int) == 3) = true := by simp; omega
      rw [e3] at hlt hr
      have hl : 224 ≤ s[0].toNat := Nat.not_lt.1 hlt
      clear hlt e3
      have HR := Lib.hid hr; clear hr
      clear hb hb0' hlen hs e2
      have HV : Hid (acc s.data.toList 0 (s[0].toNat - 224) 0 = s[0].toNat - 224) := rfl
      go_enter Tryd.func83, Tryd.ntmps83
      go_wp2
      go_loop [3, 4] (fun f i => ∃ j : Nat, j + 1 ≤ s.size ∧ i = .int .i64 (j + 1 : Nat) ∧ f = .int .i64 (acc s.data.toList 0 (s[0].toNat - 224) j)) (fun _ i => s.size - (intOf i).toNat)
      case atStart => exact ⟨0, by omega, rfl, by rw [HV.out]; go_num⟩
      case round =>
        obtain ⟨j, hj, rfl, rfl⟩ := hrel
        by_cases hlt : j + 1 < s.size
        · have hbj := bt_get s (j + 1) hlt
          have hac := acc_le s.data.toList (s[0].toNat - 224) (by omega) j (by omega)
          have hb255 := s[j + 1].toNat_lt
          obtain ⟨ac, ha⟩ : ∃ ac, acc s.data.toList 0 (s[0].toNat - 224) j = ac := ⟨_, rfl⟩
          rw [ha] at hac ⊢
          have HA := Lib.hid ha; clear ha
          have HJ := Lib.hid hbj; clear hbj
          go_wp2
          go_round
          case rel =>
            refine ⟨j + 1, by omega, by go_num, ?_⟩
            rw [show acc s.data.toList 0 (s[0].toNat - 224) (j + 1) = acc s.data.toList 0 (s[0].toNat - 224) j * 64 + bt s.data.toList (0 + 1 + j) % 64 from rfl, HA.out, show 0 + 1 + j = j + 1 by omega, HJ.out]
            go_num
          case measure => simp [intOf]; omega
        · have hend : s.size ≤ j + 1 := by omega
          go_wp2
          go_ret
          exact ⟨ret_int (by rw [← HR.out, show s.size - 1 = j by omega]; rfl), rfl⟩
    have hz3 : ((s.size : Int) == 3) = false := by simp; omega
    obtain rfl : n = 4 := by omega
    have hl : 240 ≤ s[0].toNat := Nat.not_lt.1 hlt
    clear hlt e3
    have HR := Lib.hid hr; clear hr
    clear hb hb0' hlen hs e2
    have HV : Hid (acc s.data.toList 0 (s[0].toNat - 240) 0 = s[0].toNat - 240) := rfl
    go_enter Tryd.func83, Tryd.ntmps83
    go_wp2
    go_loop [3, 4] (fun f i => ∃ j : Nat, j + 1 ≤ s.size ∧ i = .int .i64 (j + 1 : Nat) ∧ f = .int .i64 (acc s.data.toList 0 (s[0].toNat - 240) j)) (fun _ i => s.size - (intOf i).toNat)
    case atStart => exact ⟨0, by omega, rfl, by rw [HV.out]; go_num⟩
    case round =>
      obtain ⟨j, hj, rfl, rfl⟩ := hrel
      by_cases hlt : j + 1 < s.size
      · have hbj := bt_get s (j + 1) hlt
        have hac := acc_le s.data.toList (s[0].toNat - 240) (by omega) j (by omega)
        have hb255 := s[j + 1].toNat_lt
        obtain ⟨ac, ha⟩ : ∃ ac, acc s.data.toList 0 (s[0].toNat - 240) j = ac := ⟨_, rfl⟩
        rw [ha] at hac ⊢
        have HA := Lib.hid ha; clear ha
        have HJ := Lib.hid hbj; clear hbj
        go_wp2
        go_round
        case rel =>
          refine ⟨j + 1, by omega, by go_num, ?_⟩
          rw [show acc s.data.toList 0 (s[0].toNat - 240) (j + 1) = acc s.data.toList 0 (s[0].toNat - 240) j * 64 + bt s.data.toList (0 + 1 + j) % 64 from rfl, HA.out, show 0 + 1 + j = j + 1 by omega, HJ.out]
          go_num
        case measure => simp [intOf]; omega
      · have hend : s.size ≤ j + 1 := by omega
        go_wp2
        go_ret
        exact ⟨ret_int (by rw [← HR.out, show s.size - 1 = j by omega]; rfl), rfl⟩
theorem number_any (s : ByteArray) (h1 : 1 ≤ s.size) (h4 : s.size ≤ 4) (w : World) :
    Calls Tryd.prog 83 #[.string s] w fun e w' => e = .returned (.int .i64 (numI s.data.toList)) ∧ w = w' := by
  by_cases h : s.size = 1
  · exact number_1 s h w
  · exact number_more s s.size rfl (by omega) h4 w
end Go.Proofs.YtbdfglalohgahaaDoor
namespace Go.Proofs.YtbdfglalohgahaaDoor
open Go.RowKit

theorem allDig_take (l : List UInt8) (k : Nat) (h : k < l.length) : allDig (l.take (k + 1)) = (allDig (l.take k) && (decide (48 ≤ bt l k) && decide (bt l k ≤ 57))) := by
  rw [take_succ l k h, allDig_snoc]; rfl
theorem decN_take (l : List UInt8) (k : Nat) (h : k < l.length) : decN (l.take (k + 1)) = 10 * decN (l.take k) + (bt l k - 48) := by
  rw [take_succ l k h, decN_snoc]; rfl
theorem allDig_off (l : List UInt8) (k : Nat) (h : k < l.length) (g : ¬ (48 ≤ bt l k ∧ bt l k ≤ 57)) : allDig l = false := by
  have h1 := allDig_take l k h
  have h2 : (decide (48 ≤ bt l k) && decide (bt l k ≤ 57)) = false := by simp; omega
  rw [h2, Bool.and_false] at h1
  have h3 : l = l.take (k + 1) ++ l.drop (k + 1) := (List.take_append_drop _ _).symm
  rw [h3, allDig_app, h1, Bool.false_and]

theorem app_mk (x : Int) (t : ByteArray) : (strOfNums [x] ++ t).data.toList = UInt8.ofNat x.toNat :: t.data.toList := by
  rw [app_list]; rfl
theorem str_nil (l : List UInt8) : (⟨l.toArray⟩ : ByteArray).data.toList = l := by simp

theorem u64_wrap (n : Int) : IntKind.u64.wrap n = ((u64 n : Nat) : Int) := by
  rw [IntKind.wrap_u64]; unfold u64; omega
theorem u64_lt (n : Int) : u64 n < 18446744073709551616 := by unfold u64; omega
theorem uint8_info : (Tryd.prog.info? 5).map (fun i => (i.zero, i.size, i.bytes)) = some (some (.int .u8 0), 1, 1) := by kernel_rfl

end Go.Proofs.YtbdfglalohgahaaDoor
