/-
  WHAT Sum RETURNS, and the document's own answer.
-/
import Derived.Test.YtfklicofohaccaaIs

namespace Go.Proofs.Ytfklicofohaccaa
open Go.RowKit

/-- a slice's elements lie in memory -/
def Reads (w : World) (a : Option Addr) (l : List Int) : Prop := l = [] ∨ ∃ b off, a = some ⟨b, off, none⟩ ∧ ∀ i, i < l.length → w.cell? ⟨b, off + i, none⟩ = some (.int .i64 (l[i]?.getD 0))
/-- the sum, as 64 bits hold it -/
def sumW (l : List Int) : Int := l.foldl (fun s x => wrap64 (s + x)) 0
theorem sumW_snoc (l : List Int) (x : Int) : sumW (l ++ [x]) = wrap64 (sumW l + x) := by simp [sumW]
def sumV (l : List Int) : Int := if l.all vld then exV (sumW l) else 0
def sumE (l : List Int) : Int := if l.all vld then exE (sumW l) else 1
theorem sum_bad {l : List Int} {k : Nat} (hk : k < l.length) (h : vld (l[k]?.getD 0) = false) : sumV l = 0 ∧ sumE l = 1 := by
  have e : l.all vld = false := by
    rw [List.all_eq_false]
    exact ⟨l[k], List.getElem_mem hk, by simpa [List.getElem?_eq_getElem hk] using h⟩
  simp [sumV, sumE, e]
theorem sum_good {l : List Int} (h : l.all vld = true) : sumV l = exV (sumW l) ∧ sumE l = exE (sumW l) := by simp [sumV, sumE, h]
theorem take_snoc' (l : List Int) {k : Nat} (hk : k < l.length) : l.take (k + 1) = l.take k ++ [l[k]?.getD 0] := by
  rw [List.take_succ_eq_append_getElem hk, List.getElem?_eq_getElem hk]; rfl
theorem take_sum (l : List Int) {k : Nat} (hk : k < l.length) : sumW (l.take (k + 1)) = wrap64 (sumW (l.take k) + l[k]?.getD 0) := by
  rw [take_snoc' l hk, sumW_snoc]
theorem take_all (l : List Int) {k : Nat} (hk : k < l.length) (h : (l.take k).all vld = true) (hv : vld (l[k]?.getD 0) = true) : (l.take (k + 1)).all vld = true := by
  rw [take_snoc' l hk, List.all_append, h]; simp [hv]

set_option maxHeartbeats 800000 in
theorem sum_any (a : Option Addr) (cap : Nat) (l : List Int) (w : World) (hR : Reads w a l) (hm : l.length ≤ 9223372036854775807) :
    Calls Try.prog 40 #[.slice a l.length cap] w fun e w' => e = .returned (pairI (sumV l) (sumE l)) ∧ w = w' := by
  by_cases hn : l = []
  · subst hn
    go_enter Try.func40, Try.ntmps40
    go_wp2_with (first | (go_at_call 15; refine (valid_any _ _).mono ?_; rintro e w' ⟨rfl, rfl⟩) | (go_at_call 66; refine (inRange_any _ _).mono ?_; rintro e w' ⟨rfl, rfl⟩))
    go_loop [4, 9] (fun s i => i = .int .i64 0 ∧ s = .int .i64 0) (fun _ _ => 0)
    case atStart => exact ⟨rfl, rfl⟩
    case round =>
      obtain ⟨rfl, rfl⟩ := hrel
      go_wp2_with (first | (go_at_call 15; refine (valid_any _ _).mono ?_; rintro e w' ⟨rfl, rfl⟩) | (go_at_call 66; refine (inRange_any _ _).mono ?_; rintro e w' ⟨rfl, rfl⟩))
      go_ret2
      exact ⟨rfl, rfl⟩
  · obtain ⟨b, off, rfl, hc⟩ := hR.resolve_left hn
    have HC := Lib.hid hc
    clear hc hR hn
    go_enter Try.func40, Try.ntmps40
    go_wp2_with (first | (go_at_call 15; refine (valid_any _ _).mono ?_; rintro e w' ⟨rfl, rfl⟩) | (go_at_call 66; refine (inRange_any _ _).mono ?_; rintro e w' ⟨rfl, rfl⟩))
    go_loop [4, 9] (fun s i => ∃ k : Nat, k ≤ l.length ∧ i = .int .i64 k ∧ s = .int .i64 (sumW (l.take k)) ∧ (l.take k).all vld = true) (fun _ i => l.length - (intOf i).toNat)
    case atStart => exact ⟨0, Nat.zero_le _, rfl, rfl, rfl⟩
    case round =>
      obtain ⟨k, hk, rfl, rfl, hv⟩ := hrel
      have HV := Lib.hid hv
      clear hv
      by_cases hlt : k < l.length
      · have hcell := HC.out k hlt
        obtain ⟨x, ex⟩ : ∃ x, x = l[k]?.getD 0 := ⟨_, rfl⟩
        rw [← ex] at hcell
        have EX := Lib.hid ex
        clear ex
        cases hx : vld x
        · have HX := Lib.hid (sum_bad hlt (by rw [← EX.out]; exact hx))
          go_wp2_with (first | (go_at_call 15; refine (valid_any _ _).mono ?_; rintro e w' ⟨rfl, rfl⟩) | (go_at_call 66; refine (inRange_any _ _).mono ?_; rintro e w' ⟨rfl, rfl⟩))
          go_ret2
          exact ⟨by rw [HX.out.1, HX.out.2]; rfl, rfl⟩
        · have HS := Lib.hid (show sumW (l.take (k + 1)) = wrap64 (sumW (l.take k) + x) from by rw [EX.out]; exact take_sum l hlt)
          have HA := Lib.hid (take_all l hlt HV.out (by rw [← EX.out]; exact hx))
          go_wp2_with (first | (go_at_call 15; refine (valid_any _ _).mono ?_; rintro e w' ⟨rfl, rfl⟩) | (go_at_call 66; refine (inRange_any _ _).mono ?_; rintro e w' ⟨rfl, rfl⟩))
          go_round
          case rel => exact ⟨k + 1, by omega, by go_num, by rw [HS.out], HA.out⟩
          case measure => simp [intOf]; omega
      · obtain rfl : k = l.length := by omega
        rw [List.take_length] at *
        have HX := Lib.hid (sum_good HV.out)
        go_wp2_with (first | (go_at_call 15; refine (valid_any _ _).mono ?_; rintro e w' ⟨rfl, rfl⟩) | (go_at_call 66; refine (inRange_any _ _).mono ?_; rintro e w' ⟨rfl, rfl⟩))
        go_ret2
        exact ⟨by rw [HX.out.1, HX.out.2]; rfl, rfl⟩

set_option maxHeartbeats 800000 in
theorem rsum_any (a : Option Addr) (cap : Nat) (l : List Int) (w : World) (hR : Reads w a l) (hm : l.length ≤ 9223372036854775807) :
    Calls Try.prog 41 #[.slice a l.length cap] w fun e w' => e = .returned (pairI (sumV l) (sumE l)) ∧ w = w' := by
  by_cases hn : l = []
  · subst hn
    go_enter Try.func41, Try.ntmps41
    go_wp2_with (first | (go_at_call 16; refine (rvalid_any _ _).mono ?_; rintro e w' ⟨rfl, rfl⟩) | (go_at_call 67; refine (exact_any _ _).mono ?_; rintro e w' ⟨rfl, rfl⟩))
    go_loop [4, 5] (fun s i => i = .int .i64 0 ∧ s = .int .i64 0) (fun _ _ => 0)
    case atStart => exact ⟨rfl, rfl⟩
    case round =>
      obtain ⟨rfl, rfl⟩ := hrel
      go_wp2_with (first | (go_at_call 16; refine (rvalid_any _ _).mono ?_; rintro e w' ⟨rfl, rfl⟩) | (go_at_call 67; refine (exact_any _ _).mono ?_; rintro e w' ⟨rfl, rfl⟩))
      go_ret2
      exact ⟨rfl, rfl⟩
  · obtain ⟨b, off, rfl, hc⟩ := hR.resolve_left hn
    have HC := Lib.hid hc
    clear hc hR hn
    go_enter Try.func41, Try.ntmps41
    go_wp2_with (first | (go_at_call 16; refine (rvalid_any _ _).mono ?_; rintro e w' ⟨rfl, rfl⟩) | (go_at_call 67; refine (exact_any _ _).mono ?_; rintro e w' ⟨rfl, rfl⟩))
    go_loop [4, 5] (fun s i => ∃ k : Nat, k ≤ l.length ∧ i = .int .i64 k ∧ s = .int .i64 (sumW (l.take k)) ∧ (l.take k).all vld = true) (fun _ i => l.length - (intOf i).toNat)
    case atStart => exact ⟨0, Nat.zero_le _, rfl, rfl, rfl⟩
    case round =>
      obtain ⟨k, hk, rfl, rfl, hv⟩ := hrel
      have HV := Lib.hid hv
      clear hv
      by_cases hlt : k < l.length
      · have hcell := HC.out k hlt
        obtain ⟨x, ex⟩ : ∃ x, x = l[k]?.getD 0 := ⟨_, rfl⟩
        rw [← ex] at hcell
        have EX := Lib.hid ex
        clear ex
        cases hx : vld x
        · have HX := Lib.hid (sum_bad hlt (by rw [← EX.out]; exact hx))
          go_wp2_with (first | (go_at_call 16; refine (rvalid_any _ _).mono ?_; rintro e w' ⟨rfl, rfl⟩) | (go_at_call 67; refine (exact_any _ _).mono ?_; rintro e w' ⟨rfl, rfl⟩))
          go_ret2
          exact ⟨by rw [HX.out.1, HX.out.2]; rfl, rfl⟩
        · have HS := Lib.hid (show sumW (l.take (k + 1)) = wrap64 (sumW (l.take k) + x) from by rw [EX.out]; exact take_sum l hlt)
          have HA := Lib.hid (take_all l hlt HV.out (by rw [← EX.out]; exact hx))
          go_wp2_with (first | (go_at_call 16; refine (rvalid_any _ _).mono ?_; rintro e w' ⟨rfl, rfl⟩) | (go_at_call 67; refine (exact_any _ _).mono ?_; rintro e w' ⟨rfl, rfl⟩))
          go_round
          case rel => exact ⟨k + 1, by omega, by go_num, by rw [HS.out], HA.out⟩
          case measure => simp [intOf]; omega
      · obtain rfl : k = l.length := by omega
        rw [List.take_length] at *
        have HX := Lib.hid (sum_good HV.out)
        go_wp2_with (first | (go_at_call 16; refine (rvalid_any _ _).mono ?_; rintro e w' ⟨rfl, rfl⟩) | (go_at_call 67; refine (exact_any _ _).mono ?_; rintro e w' ⟨rfl, rfl⟩))
        go_ret2
        exact ⟨by rw [HX.out.1, HX.out.2]; rfl, rfl⟩

end Go.Proofs.Ytfklicofohaccaa
