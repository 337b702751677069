/-
  TEXTS OF INTEGERS: the sign that is taken off a text; whether a text is digits alone. (The rest of Parse is not begun.)
-/
import Derived.Test.YtnhieokegidibaaDoorInt
import Derived.WalkKit
import Derived.OwnWalk
import Derived.Lib.Hide

namespace Go.Proofs.YtnhieokegidibaaDoor
open Go.RowKit

/-- the first byte, if there is one -/
def head1 (s : ByteArray) : Int := if h : 0 < s.size then (s[0].toNat : Int) else 0
def negB (s : ByteArray) : Bool := decide (head1 s = 45)
/-- the text without its sign -/
def rest1 (s : ByteArray) : ByteArray := if head1 s = 43 ∨ head1 s = 45 then s.extract 1 s.size else s

theorem cut_plus (s : ByteArray) (w : World) (h0 : s.toList.isEmpty = false) (h1 : 0 < s.size) (h2 : (s[0].toNat : Int) = 43) :
    Calls Tryd.prog 13 #[.string s] w fun e w' => e = .returned (.tuple #[.bool false, .string (s.extract 1 s.size)]) ∧ (w' = w ∨ w' = w.drew) := by
  go_enter Tryd.func13, Tryd.ntmps13
  go_wp2_with fail
  go_region
  all_goals go_wp2_with fail
  all_goals go_ret2
  all_goals exact ⟨rfl, .inr rfl⟩

theorem cut_minus (s : ByteArray) (w : World) (h0 : s.toList.isEmpty = false) (h1 : 0 < s.size) (h2 : (s[0].toNat : Int) = 45) :
    Calls Tryd.prog 13 #[.string s] w fun e w' => e = .returned (.tuple #[.bool true, .string (s.extract 1 s.size)]) ∧ (w' = w ∨ w' = w.drew) := by
  go_enter Tryd.func13, Tryd.ntmps13
  go_wp2_with fail
  go_region
  all_goals go_wp2_with fail
  all_goals go_ret2
  all_goals exact ⟨rfl, .inr rfl⟩

theorem cut_other (s : ByteArray) (w : World) (h0 : s.toList.isEmpty = false) (h1 : 0 < s.size) (h2 : ((s[0].toNat : Int) != 43) = true) (h3 : ((s[0].toNat : Int) != 45) = true) :
    Calls Tryd.prog 13 #[.string s] w fun e w' => e = .returned (.tuple #[.bool false, .string s]) ∧ (w' = w ∨ w' = w.drew) := by
  go_enter Tryd.func13, Tryd.ntmps13
  go_wp2_with fail
  go_ret2
  exact ⟨rfl, .inl rfl⟩

theorem cut_none (w : World) :
    Calls Tryd.prog 13 #[.string ⟨#[]⟩] w fun e w' => e = .returned (.tuple #[.bool false, .string ⟨#[]⟩]) ∧ (w' = w ∨ w' = w.drew) := by
  go_enter Tryd.func13, Tryd.ntmps13
  go_wp2_with fail
  go_ret2
  exact ⟨rfl, .inl rfl⟩

theorem full_list {s : ByteArray} (h : 0 < s.size) : s.toList.isEmpty = false := by
  rw [ByteArray.toList_eq]
  rcases s with ⟨⟨l⟩⟩
  rcases l with _ | ⟨a, l⟩
  · simp [ByteArray.size] at h
  · rfl

/-- WHAT cutSign RETURNS, at any text. -/
theorem cut_any (s : ByteArray) (w : World) :
    Calls Tryd.prog 13 #[.string s] w fun e w' => e = .returned (.tuple #[.bool (negB s), .string (rest1 s)]) ∧ (w' = w ∨ w' = w.drew) := by
  by_cases h1 : 0 < s.size
  · have e1 : head1 s = (s[0].toNat : Int) := dif_pos h1
    by_cases h2 : (s[0].toNat : Int) = 43
    · rw [show negB s = false from by simp [negB, e1, h2], show rest1 s = s.extract 1 s.size from if_pos (.inl (e1.trans h2))]
      exact cut_plus s w (full_list h1) h1 h2
    · by_cases h3 : (s[0].toNat : Int) = 45
      · rw [show negB s = true from by simp [negB, e1, h3], show rest1 s = s.extract 1 s.size from if_pos (.inr (e1.trans h3))]
        exact cut_minus s w (full_list h1) h1 h3
      · rw [show negB s = false from by simp only [negB, e1]; exact decide_eq_false h3, show rest1 s = s from if_neg (by rw [e1]; exact fun h => h.elim h2 h3)]
        exact cut_other s w (full_list h1) h1 (by simpa using h2) (by simpa using h3)
  · obtain rfl : s = ⟨#[]⟩ := by
      rcases s with ⟨⟨l⟩⟩
      rcases l with _ | ⟨a, l⟩
      · rfl
      · simp [ByteArray.size] at h1
    exact cut_none w

def dgt (s : ByteArray) (j : Nat) : Bool := if h : j < s.size then decide (48 ≤ (s[j].toNat : Int)) && decide ((s[j].toNat : Int) ≤ 57) else false
/-- one or more digits -/
def allD (s : ByteArray) : Bool := (List.range s.size).all (dgt s) && !s.toList.isEmpty
theorem allD_bad {s : ByteArray} {k : Nat} (h : k < s.size) (hd : dgt s k = false) : allD s = false := by
  have : (List.range s.size).all (dgt s) = false := by
    rw [List.all_eq_false]
    exact ⟨k, List.mem_range.2 h, by simp [hd]⟩
  simp [allD, this]
theorem allD_good {s : ByteArray} (h : ∀ j, j < s.size → dgt s j = true) : allD s = !s.toList.isEmpty := by
  have : (List.range s.size).all (dgt s) = true := List.all_eq_true.2 fun j hj => h j (List.mem_range.1 hj)
  simp [allD, this]

/-- WHAT allDigits RETURNS, at any text. -/
theorem all_any (s : ByteArray) (w : World) (hm : s.size ≤ 9223372036854775807) :
    Calls Tryd.prog 14 #[.string s] w fun e w' => e = .returned (.bool (allD s)) ∧ w = w' := by
  go_enter Tryd.func14, Tryd.ntmps14
  go_wp2_with fail
  go_loop [6] (fun i => ∃ k : Nat, k ≤ s.size ∧ i = .int .i64 k ∧ ∀ j, j < k → dgt s j = true) (fun i => s.size - (intOf i).toNat)
  case atStart => exact ⟨0, Nat.zero_le _, rfl, fun j hj => absurd hj (Nat.not_lt_zero j)⟩
  case round =>
    obtain ⟨k, hk, rfl, hd⟩ := hrel
    have HD := Lib.hid hd
    clear hd
    by_cases hlt : k < s.size
    · by_cases h2 : (s[k].toNat : Int) < 48
      · have HX := Lib.hid (allD_bad hlt (show dgt s k = false from by rw [dgt, dif_pos hlt]; simp; omega))
        go_wp2_with fail
        go_ret
        exact ⟨by rw [HX.out]; rfl, rfl⟩
      · by_cases h3 : 57 < (s[k].toNat : Int)
        · have HX := Lib.hid (allD_bad hlt (show dgt s k = false from by rw [dgt, dif_pos hlt]; simp; omega))
          go_wp2_with fail
          go_ret
          exact ⟨by rw [HX.out]; rfl, rfl⟩
        · have HX := Lib.hid (show dgt s k = true from by rw [dgt, dif_pos hlt]; simp; omega)
          go_wp2_with fail
          go_round
          case rel => exact ⟨k + 1, by omega, by go_num, fun j hj => by
            rcases Nat.lt_succ_iff_lt_or_eq.1 hj with h | rfl
            · exact HD.out j h
            · exact HX.out⟩
          case measure => simp [intOf]; omega
    · obtain rfl : k = s.size := by omega
      have HX := Lib.hid (allD_good HD.out)
      go_wp2_with fail
      go_ret
      exact ⟨by rw [HX.out]; rfl, rfl⟩

end Go.Proofs.YtnhieokegidibaaDoor
