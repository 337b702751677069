/-
  TEXTS OF INTEGERS: the document's own answer to Parse.
-/
import Derived.Test.YtnhieokegidibaaDoorText

namespace Go.Proofs.YtnhieokegidibaaDoor
open Go.RowKit

def mn2 (a b : Int) : Int := if b < a then b else a
/-- all bytes from f on are digits -/
def allF (s : ByteArray) (f : Nat) : Bool := (List.range s.size).all fun j => decide (j < f) || dgt s j
/-- the number that the bytes from f to k denote, at most Most + 1 -/
def num (s : ByteArray) (f : Nat) : Nat → Int
  | 0 => 0
  | k + 1 => if k < f then 0 else mn2 (10 * num s f k + (if h : k < s.size then (s[k].toNat : Int) - 48 else 0)) 2147483648
theorem num_le (s : ByteArray) (f k : Nat) (hd : ∀ j, f ≤ j → j < k → dgt s j = true) : 0 ≤ num s f k ∧ num s f k ≤ 2147483648 := by
  induction k with
  | zero => exact ⟨Int.le_refl 0, by unfold num; decide⟩
  | succ k ih =>
    have i := ih fun j h1 h2 => hd j h1 (by omega)
    unfold num
    by_cases hf : k < f
    · rw [if_pos hf]; exact ⟨by decide, by decide⟩
    · rw [if_neg hf]
      have hk := hd k (by omega) (by omega)
      unfold dgt at hk
      by_cases hs : k < s.size
      · rw [dif_pos hs] at hk ⊢
        simp at hk
        unfold mn2
        split <;> omega
      · rw [dif_neg hs] at hk; cases hk
theorem num_from (s : ByteArray) (f : Nat) (hf : f ≤ 1) : num s f f = 0 := by
  rcases f with _ | f
  · rfl
  · unfold num; rw [if_pos (Nat.lt_succ_self f)]
theorem num_step {s : ByteArray} {f k : Nat} (hf : f ≤ k) (hk : k < s.size) : num s f (k + 1) = mn2 (10 * num s f k + ((s[k].toNat : Int) - 48)) 2147483648 := by
  rw [num, if_neg (by omega), dif_pos hk]
theorem allF_bad {s : ByteArray} {f k : Nat} (hf : f ≤ k) (h : k < s.size) (hd : dgt s k = false) : allF s f = false := by
  unfold allF
  rw [List.all_eq_false]
  exact ⟨k, List.mem_range.2 h, by simp [hd]; omega⟩
theorem allF_good {s : ByteArray} {f : Nat} (h : ∀ j, f ≤ j → j < s.size → dgt s j = true) : allF s f = true :=
  List.all_eq_true.2 fun j hj => by
    by_cases hf : j < f
    · simp [hf]
    · simp [h j (by omega) (List.mem_range.1 hj)]
def parV (s : ByteArray) (f : Nat) (neg : Bool) : Int := if allF s f then (if num s f s.size ≤ 2147483647 then (if neg then - num s f s.size else num s f s.size) else 0) else 0
def parE (s : ByteArray) (f : Nat) : Int := if allF s f then (if num s f s.size ≤ 2147483647 then 0 else 3) else 7
theorem par_bad {s : ByteArray} {f : Nat} (n : Bool) (h : allF s f = false) : parV s f n = 0 ∧ parE s f = 7 := by simp [parV, parE, h]
theorem par_far {s : ByteArray} {f : Nat} (n : Bool) (h : allF s f = true) (h1 : 2147483647 < num s f s.size) : parV s f n = 0 ∧ parE s f = 3 := by
  simp only [parV, parE, h, if_true, if_neg (show ¬ num s f s.size ≤ 2147483647 by omega)]
  exact ⟨trivial, trivial⟩
theorem par_ok {s : ByteArray} {f : Nat} (n : Bool) (h : allF s f = true) (h1 : num s f s.size ≤ 2147483647) : parV s f n = (if n then - num s f s.size else num s f s.size) ∧ parE s f = 0 := by
  simp only [parV, parE, h, if_true, if_pos h1]
  exact ⟨trivial, trivial⟩
theorem dgt_iff {s : ByteArray} {k : Nat} (h : k < s.size) : dgt s k = true ↔ 48 ≤ (s[k].toNat : Int) ∧ (s[k].toNat : Int) ≤ 57 := by
  rw [dgt, dif_pos h]; simp

set_option maxHeartbeats 800000 in
theorem rparse_plus (s : ByteArray) (w : World) (hm : s.size ≤ 9223372036854775807) (h1 : 0 < s.size) (h0 : s.toList.isEmpty = false) (h2 : (s[0].toNat : Int) = 43) (h4 : 1 < s.size) :
    Calls Tryd.prog 6 #[.string s] w fun e w' => (e = .returned (pairI (parV s 1 false) (parE s 1))) ∧ w = w' := by
  have hmn : ∀ a w, Sem.run Tryd.prog (Builtin.min_ #[3, 3] 3 #[.int .i64 a, .int .i64 2147483648]) w = .ok (.int .i64 (mn2 a 2147483648)) w := fun a w => by kernel_rfl
  have h5 : (1 == (s.size : Int)) = false := by simp; omega
  go_enter Tryd.func6, Tryd.ntmps6
  go_wp2_with fail
  go_loop [5] (fun i => ∃ k : Nat, 1 ≤ k ∧ k ≤ s.size ∧ i = .int .i64 k ∧ ∀ j, 1 ≤ j → j < k → dgt s j = true) (fun i => s.size - (intOf i).toNat)
  case atStart => exact ⟨1, Nat.le_refl _, by omega, rfl, fun j h1 h2 => by omega⟩
  case round =>
    obtain ⟨k, hf, hk, rfl, hd⟩ := hrel
    have HD := Lib.hid hd
    clear hd
    by_cases hlt : k < s.size
    · cases hx : dgt s k
      · have HX := Lib.hid (par_bad false (allF_bad hf hlt hx))
        by_cases h7 : (s[k].toNat : Int) < 48
        · go_wp2_with fail
          go_ret2
          exact ⟨by rw [HX.out.1, HX.out.2]; rfl, rfl⟩
        · have h8 : 57 < (s[k].toNat : Int) := by
            have : ¬ dgt s k = true := by rw [hx]; decide
            rw [dgt_iff hlt] at this
            omega
          go_wp2_with fail
          go_ret2
          exact ⟨by rw [HX.out.1, HX.out.2]; rfl, rfl⟩
      · have HX := Lib.hid hx
        have h7 : ¬ (s[k].toNat : Int) < 48 := by have := (dgt_iff hlt).1 hx; omega
        have h8 : ¬ 57 < (s[k].toNat : Int) := by have := (dgt_iff hlt).1 hx; omega
        clear hx
        go_wp2_with fail
        go_round
        case rel => exact ⟨k + 1, by omega, by omega, by go_num, fun j hj hj' => by
          rcases Nat.lt_succ_iff_lt_or_eq.1 hj' with h | rfl
          · exact HD.out j hj h
          · exact HX.out⟩
        case measure => simp [intOf]; omega
    · obtain rfl : k = s.size := by omega
      have HX := Lib.hid (allF_good HD.out)
      have HN := Lib.hid (num_from s 1 (by decide))
      go_wp2_with fail
      go_loop [6, 7] (fun n i => ∃ (k : Nat) (x : Int), 1 ≤ k ∧ k ≤ s.size ∧ i = .int .i64 k ∧ n = .int .i64 x ∧ x = num s 1 k ∧ 0 ≤ x ∧ x ≤ 2147483648) (fun _ i => s.size - (intOf i).toNat)
      case atStart => exact ⟨1, 0, Nat.le_refl _, by omega, rfl, rfl, HN.out.symm, by decide, by decide⟩
      case round =>
        obtain ⟨k, x, hf, hk, rfl, rfl, hx, hx0, hx1⟩ := hrel
        have HV := Lib.hid hx
        clear hx
        by_cases hlt : k < s.size
        · have hb := (dgt_iff hlt).1 (HD.out k hf hlt)
          have HS := Lib.hid (num_step hf hlt)
          have HB := Lib.hid (num_le s 1 (k + 1) fun j h1 h2 => HD.out j h1 (by omega))
          go_wp2_with fail
          go_round
          case rel => exact ⟨k + 1, num s 1 (k + 1), by omega, by omega, by go_num, by rw [HS.out, ← HV.out], rfl, HB.out.1, HB.out.2⟩
          case measure => simp [intOf]; omega
        · obtain rfl : k = s.size := by omega
          by_cases hr : x ≤ 2147483647
          · have HR := Lib.hid (par_ok false HX.out (by rw [← HV.out]; exact hr))
            rw [← HV.out] at HR
            go_wp2_with fail
            go_ret2
            exact ⟨by rw [HR.out.1, HR.out.2]; rfl, rfl⟩
          · have HR := Lib.hid (par_far false HX.out (by rw [← HV.out]; omega))
            go_wp2_with fail
            go_ret2
            exact ⟨by rw [HR.out.1, HR.out.2]; rfl, rfl⟩

set_option maxHeartbeats 800000 in
theorem rparse_minus (s : ByteArray) (w : World) (hm : s.size ≤ 9223372036854775807) (h1 : 0 < s.size) (h0 : s.toList.isEmpty = false) (h2 : (s[0].toNat : Int) = 45) (h4 : 1 < s.size) :
    Calls Tryd.prog 6 #[.string s] w fun e w' => (e = .returned (pairI (parV s 1 true) (parE s 1))) ∧ w = w' := by
  have hmn : ∀ a w, Sem.run Tryd.prog (Builtin.min_ #[3, 3] 3 #[.int .i64 a, .int .i64 2147483648]) w = .ok (.int .i64 (mn2 a 2147483648)) w := fun a w => by kernel_rfl
  have h5 : (1 == (s.size : Int)) = false := by simp; omega
  go_enter Tryd.func6, Tryd.ntmps6
  go_wp2_with fail
  go_loop [5] (fun i => ∃ k : Nat, 1 ≤ k ∧ k ≤ s.size ∧ i = .int .i64 k ∧ ∀ j, 1 ≤ j → j < k → dgt s j = true) (fun i => s.size - (intOf i).toNat)
  case atStart => exact ⟨1, Nat.le_refl _, by omega, rfl, fun j h1 h2 => by omega⟩
  case round =>
    obtain ⟨k, hf, hk, rfl, hd⟩ := hrel
    have HD := Lib.hid hd
    clear hd
    by_cases hlt : k < s.size
    · cases hx : dgt s k
      · have HX := Lib.hid (par_bad true (allF_bad hf hlt hx))
        by_cases h7 : (s[k].toNat : Int) < 48
        · go_wp2_with fail
          go_ret2
          exact ⟨by rw [HX.out.1, HX.out.2]; rfl, rfl⟩
        · have h8 : 57 < (s[k].toNat : Int) := by
            have : ¬ dgt s k = true := by rw [hx]; decide
            rw [dgt_iff hlt] at this
            omega
          go_wp2_with fail
          go_ret2
          exact ⟨by rw [HX.out.1, HX.out.2]; rfl, rfl⟩
      · have HX := Lib.hid hx
        have h7 : ¬ (s[k].toNat : Int) < 48 := by have := (dgt_iff hlt).1 hx; omega
        have h8 : ¬ 57 < (s[k].toNat : Int) := by have := (dgt_iff hlt).1 hx; omega
        clear hx
        go_wp2_with fail
        go_round
        case rel => exact ⟨k + 1, by omega, by omega, by go_num, fun j hj hj' => by
          rcases Nat.lt_succ_iff_lt_or_eq.1 hj' with h | rfl
          · exact HD.out j hj h
          · exact HX.out⟩
        case measure => simp [intOf]; omega
    · obtain rfl : k = s.size := by omega
      have HX := Lib.hid (allF_good HD.out)
      have HN := Lib.hid (num_from s 1 (by decide))
      go_wp2_with fail
      go_loop [6, 7] (fun n i => ∃ (k : Nat) (x : Int), 1 ≤ k ∧ k ≤ s.size ∧ i = .int .i64 k ∧ n = .int .i64 x ∧ x = num s 1 k ∧ 0 ≤ x ∧ x ≤ 2147483648) (fun _ i => s.size - (intOf i).toNat)
      case atStart => exact ⟨1, 0, Nat.le_refl _, by omega, rfl, rfl, HN.out.symm, by decide, by decide⟩
      case round =>
        obtain ⟨k, x, hf, hk, rfl, rfl, hx, hx0, hx1⟩ := hrel
        have HV := Lib.hid hx
        clear hx
        by_cases hlt : k < s.size
        · have hb := (dgt_iff hlt).1 (HD.out k hf hlt)
          have HS := Lib.hid (num_step hf hlt)
          have HB := Lib.hid (num_le s 1 (k + 1) fun j h1 h2 => HD.out j h1 (by omega))
          go_wp2_with fail
          go_round
          case rel => exact ⟨k + 1, num s 1 (k + 1), by omega, by omega, by go_num, by rw [HS.out, ← HV.out], rfl, HB.out.1, HB.out.2⟩
          case measure => simp [intOf]; omega
        · obtain rfl : k = s.size := by omega
          by_cases hr : x ≤ 2147483647
          · have HR := Lib.hid (par_ok true HX.out (by rw [← HV.out]; exact hr))
            rw [← HV.out] at HR
            go_wp2_with fail
            go_ret2
            exact ⟨by rw [HR.out.1, HR.out.2]; rfl, rfl⟩
          · have HR := Lib.hid (par_far true HX.out (by rw [← HV.out]; omega))
            go_wp2_with fail
            go_ret2
            exact ⟨by rw [HR.out.1, HR.out.2]; rfl, rfl⟩

set_option maxHeartbeats 800000 in
theorem rparse_other (s : ByteArray) (w : World) (hm : s.size ≤ 9223372036854775807) (h1 : 0 < s.size) (h0 : s.toList.isEmpty = false) (h2 : ((s[0].toNat : Int) == 43) = false) (h3 : ((s[0].toNat : Int) == 45) = false) (h4 : 0 < s.size) :
    Calls Tryd.prog 6 #[.string s] w fun e w' => (e = .returned (pairI (parV s 0 false) (parE s 0))) ∧ w = w' := by
  have hmn : ∀ a w, Sem.run Tryd.prog (Builtin.min_ #[3, 3] 3 #[.int .i64 a, .int .i64 2147483648]) w = .ok (.int .i64 (mn2 a 2147483648)) w := fun a w => by kernel_rfl
  have h5 : (0 == (s.size : Int)) = false := by simp; omega
  go_enter Tryd.func6, Tryd.ntmps6
  go_wp2_with fail
  go_loop [5] (fun i => ∃ k : Nat, 0 ≤ k ∧ k ≤ s.size ∧ i = .int .i64 k ∧ ∀ j, 0 ≤ j → j < k → dgt s j = true) (fun i => s.size - (intOf i).toNat)
  case atStart => exact ⟨0, Nat.le_refl _, by omega, rfl, fun j h1 h2 => by omega⟩
  case round =>
    obtain ⟨k, hf, hk, rfl, hd⟩ := hrel
    have HD := Lib.hid hd
    clear hd
    by_cases hlt : k < s.size
    · cases hx : dgt s k
      · have HX := Lib.hid (par_bad false (allF_bad hf hlt hx))
        by_cases h7 : (s[k].toNat : Int) < 48
        · go_wp2_with fail
          go_ret2
          exact ⟨by rw [HX.out.1, HX.out.2]; rfl, rfl⟩
        · have h8 : 57 < (s[k].toNat : Int) := by
            have : ¬ dgt s k = true := by rw [hx]; decide
            rw [dgt_iff hlt] at this
            omega
          go_wp2_with fail
          go_ret2
          exact ⟨by rw [HX.out.1, HX.out.2]; rfl, rfl⟩
      · have HX := Lib.hid hx
        have h7 : ¬ (s[k].toNat : Int) < 48 := by have := (dgt_iff hlt).1 hx; omega
        have h8 : ¬ 57 < (s[k].toNat : Int) := by have := (dgt_iff hlt).1 hx; omega
        clear hx
        go_wp2_with fail
        go_round
        case rel => exact ⟨k + 1, by omega, by omega, by go_num, fun j hj hj' => by
          rcases Nat.lt_succ_iff_lt_or_eq.1 hj' with h | rfl
          · exact HD.out j hj h
          · exact HX.out⟩
        case measure => simp [intOf]; omega
    · obtain rfl : k = s.size := by omega
      have HX := Lib.hid (allF_good HD.out)
      have HN := Lib.hid (num_from s 0 (by decide))
      go_wp2_with fail
      go_loop [6, 7] (fun n i => ∃ (k : Nat) (x : Int), 0 ≤ k ∧ k ≤ s.size ∧ i = .int .i64 k ∧ n = .int .i64 x ∧ x = num s 0 k ∧ 0 ≤ x ∧ x ≤ 2147483648) (fun _ i => s.size - (intOf i).toNat)
      case atStart => exact ⟨0, 0, Nat.le_refl _, by omega, rfl, rfl, HN.out.symm, by decide, by decide⟩
      case round =>
        obtain ⟨k, x, hf, hk, rfl, rfl, hx, hx0, hx1⟩ := hrel
        have HV := Lib.hid hx
        clear hx
        by_cases hlt : k < s.size
        · have hb := (dgt_iff hlt).1 (HD.out k hf hlt)
          have HS := Lib.hid (num_step hf hlt)
          have HB := Lib.hid (num_le s 0 (k + 1) fun j h1 h2 => HD.out j h1 (by omega))
          go_wp2_with fail
          go_round
          case rel => exact ⟨k + 1, num s 0 (k + 1), by omega, by omega, by go_num, by rw [HS.out, ← HV.out], rfl, HB.out.1, HB.out.2⟩
          case measure => simp [intOf]; omega
        · obtain rfl : k = s.size := by omega
          by_cases hr : x ≤ 2147483647
          · have HR := Lib.hid (par_ok false HX.out (by rw [← HV.out]; exact hr))
            rw [← HV.out] at HR
            go_wp2_with fail
            go_ret2
            exact ⟨by rw [HR.out.1, HR.out.2]; rfl, rfl⟩
          · have HR := Lib.hid (par_far false HX.out (by rw [← HV.out]; omega))
            go_wp2_with fail
            go_ret2
            exact ⟨by rw [HR.out.1, HR.out.2]; rfl, rfl⟩

/-- where the digits begin -/
def frm (s : ByteArray) : Nat := if head1 s = 43 ∨ head1 s = 45 then 1 else 0
def docV (s : ByteArray) : Int := if frm s = s.size then 0 else parV s (frm s) (negB s)
def docE (s : ByteArray) : Int := if frm s = s.size then 7 else parE s (frm s)

theorem rparse_none (w : World) :
    Calls Tryd.prog 6 #[.string ⟨#[]⟩] w fun e w' => e = .returned (pairI 0 7) ∧ w = w' := by
  go_enter Tryd.func6, Tryd.ntmps6
  go_wp2_with fail
  go_ret2
  exact ⟨rfl, rfl⟩

theorem rparse_sign (s : ByteArray) (w : World) (h1 : 0 < s.size) (h4 : (s.size : Int) = 1) (h2 : (s[0].toNat : Int) = 43 ∨ (s[0].toNat : Int) = 45) :
    Calls Tryd.prog 6 #[.string s] w fun e w' => e = .returned (pairI 0 7) ∧ w = w' := by
  rcases h2 with h2 | h2
  · go_enter Tryd.func6, Tryd.ntmps6
    go_wp2_with fail
    go_ret2
    exact ⟨rfl, rfl⟩
  · go_enter Tryd.func6, Tryd.ntmps6
    go_wp2_with fail
    go_ret2
    exact ⟨rfl, rfl⟩

/-- WHAT THE DOCUMENT's Parse ANSWERS, at any text. -/
theorem rparse_any (s : ByteArray) (w : World) (hm : s.size ≤ 9223372036854775807) :
    Calls Tryd.prog 6 #[.string s] w fun e w' => e = .returned (pairI (docV s) (docE s)) ∧ w = w' := by
  by_cases h1 : 0 < s.size
  · have e1 : head1 s = (s[0].toNat : Int) := dif_pos h1
    have h0 := full_list h1
    by_cases h2 : (s[0].toNat : Int) = 43 ∨ (s[0].toNat : Int) = 45
    · have ef : frm s = 1 := if_pos (by rw [e1]; exact h2)
      by_cases h4 : s.size = 1
      · rw [docV, docE, ef, if_pos h4.symm, if_pos h4.symm]
        exact rparse_sign s w h1 (by omega) h2
      · rw [docV, docE, ef, if_neg (Ne.symm h4), if_neg (Ne.symm h4)]
        rcases h2 with h2 | h2
        · rw [show negB s = false from by simp [negB, e1, h2]]
          exact rparse_plus s w hm h1 h0 h2 (by omega)
        · rw [show negB s = true from by simp [negB, e1, h2]]
          exact rparse_minus s w hm h1 h0 h2 (by omega)
    · have h3 : ¬ (s[0].toNat : Int) = 43 := fun h => h2 (.inl h)
      have h5 : ¬ (s[0].toNat : Int) = 45 := fun h => h2 (.inr h)
      have ef : frm s = 0 := if_neg (by rw [e1]; exact h2)
      rw [docV, docE, ef, if_neg (by omega), if_neg (by omega), show negB s = false from by simp only [negB, e1]; exact decide_eq_false h5]
      exact rparse_other s w hm h1 h0 (by simpa using h3) (by simpa using h5) h1
  · obtain rfl : s = ⟨#[]⟩ := by
      rcases s with ⟨⟨l⟩⟩
      rcases l with _ | ⟨a, l⟩
      · rfl
      · simp [ByteArray.size] at h1
    exact rparse_none w

end Go.Proofs.YtnhieokegidibaaDoor
