/-
  TEXTS OF INTEGERS: what Parse of package integer returns, at any text: the document's own answer.
-/
import Derived.Test.YtnhieokegidibaaDoorTextR
import Derived.Test.YtnhieokegidibaaDoorIs
import Derived.Below
import Derived.Lib.ConvBytes
import Derived.Lib.SmallJoins

namespace Go.Proofs.YtnhieokegidibaaDoor
open Go.RowKit

theorem rest_get (s : ByteArray) (k : Nat) (h : k < (s.extract 1 s.size).size) (h' : k + 1 < s.size) : (s.extract 1 s.size)[k] = s[k + 1] := by
  simp [ByteArray.getElem_extract, Nat.add_comm]
theorem rest_size (s : ByteArray) : (s.extract 1 s.size).size = s.size - 1 := by
  simp [ByteArray.size_extract]
theorem dgt_rest (s : ByteArray) (k : Nat) : dgt (s.extract 1 s.size) k = dgt s (k + 1) := by
  unfold dgt
  have hs := rest_size s
  by_cases h : k + 1 < s.size
  · rw [dif_pos h, dif_pos (by omega), rest_get s k (by omega) h]
  · rw [dif_neg h, dif_neg (by omega)]
theorem num_rest (s : ByteArray) (k : Nat) : num s 1 (k + 1) = num (s.extract 1 s.size) 0 k := by
  induction k with
  | zero => rfl
  | succ k ih =>
    rw [num, if_neg (by omega), ih, num, if_neg (by omega)]
    have hs := rest_size s
    by_cases h : k + 1 < s.size
    · rw [dif_pos h, dif_pos (by omega), rest_get s k (by omega) h]
    · rw [dif_neg h, dif_neg (by omega)]
theorem allF_rest (s : ByteArray) (h1 : 1 < s.size) : allF s 1 = allD (s.extract 1 s.size) := by
  have hs := rest_size s
  have hne : (s.extract 1 s.size).toList.isEmpty = false := full_list (by omega)
  cases h : allD (s.extract 1 s.size)
  · have : ∃ k, k < (s.extract 1 s.size).size ∧ dgt (s.extract 1 s.size) k = false := by
      simp [allD, hne] at h
      obtain ⟨x, h1, h2⟩ := h
      exact ⟨x, by omega, h2⟩
    obtain ⟨k, hk, hd⟩ := this
    rw [dgt_rest] at hd
    exact allF_bad (k := k + 1) (by omega) (by omega) hd
  · apply allF_good
    intro j h2 h3
    obtain ⟨k, rfl⟩ : ∃ k, j = k + 1 := ⟨j - 1, by omega⟩
    rw [← dgt_rest]
    simp [allD] at h
    exact h.1 k (by omega)
theorem allF_zero (s : ByteArray) (h1 : 0 < s.size) : allF s 0 = allD s := by
  have hne : s.toList.isEmpty = false := full_list h1
  simp [allF, allD, hne]
/-- what the text without its sign denotes -/
def resV (r : ByteArray) (neg : Bool) : Int := if allD r then (if num r 0 r.size ≤ 2147483647 then (if neg then - num r 0 r.size else num r 0 r.size) else 0) else 0
def resE (r : ByteArray) : Int := if allD r then (if num r 0 r.size ≤ 2147483647 then 0 else 3) else 7
theorem allD_none {r : ByteArray} (h : r.size = 0) : allD r = false := by
  obtain rfl : r = ⟨#[]⟩ := by
    rcases r with ⟨⟨l⟩⟩
    rcases l with _ | ⟨a, l⟩
    · rfl
    · simp [ByteArray.size] at h
  simp [allD]
theorem doc_res (s : ByteArray) : docV s = resV (rest1 s) (negB s) ∧ docE s = resE (rest1 s) := by
  by_cases h : head1 s = 43 ∨ head1 s = 45
  · have ef : frm s = 1 := if_pos h
    have er : rest1 s = s.extract 1 s.size := if_pos h
    have h0 : 0 < s.size := by
      by_cases h0 : 0 < s.size
      · exact h0
      · exfalso; unfold head1 at h; rw [dif_neg h0] at h; omega
    have hs := rest_size s
    rw [docV, docE, ef, er]
    by_cases h1 : s.size = 1
    · rw [if_pos h1.symm, if_pos h1.symm, resV, resE, allD_none (by omega)]
      exact ⟨rfl, rfl⟩
    · rw [if_neg (Ne.symm h1), if_neg (Ne.symm h1), parV, parE, resV, resE, allF_rest s (by omega)]
      have : num s 1 s.size = num (s.extract 1 s.size) 0 (s.extract 1 s.size).size := by
        rw [← num_rest, hs, show s.size - 1 + 1 = s.size from by omega]
      rw [this]
      exact ⟨rfl, rfl⟩
  · have ef : frm s = 0 := if_neg h
    have er : rest1 s = s := if_neg h
    rw [docV, docE, ef, er]
    by_cases h1 : s.size = 0
    · rw [if_pos h1.symm, if_pos h1.symm, resV, resE, allD_none h1]
      exact ⟨rfl, rfl⟩
    · rw [if_neg (Ne.symm h1), if_neg (Ne.symm h1), parV, parE, resV, resE, allF_zero s (by omega)]
      exact ⟨rfl, rfl⟩
theorem num_stuck {r : ByteArray} (hd : ∀ j, j < r.size → dgt r j = true) {k : Nat} (h : num r 0 k = 2147483648) (m : Nat) : k + m ≤ r.size → num r 0 (k + m) = 2147483648 := by
  induction m with
  | zero => intro _; exact h
  | succ m ih =>
    intro hm
    have i := ih (by omega)
    rw [← Nat.add_assoc, num_step (Nat.zero_le _) (by omega), i]
    have := (dgt_iff (show k + m < r.size by omega)).1 (hd _ (by omega))
    unfold mn2
    split <;> omega

set_option maxHeartbeats 800000 in
theorem parse_any (s : ByteArray) (w : World) (hm : s.size ≤ 9223372036854775807) :
    Calls Tryd.prog 5 #[.string s] w fun e w' => e = .returned (pairI (docV s) (docE s)) ∧ Below w.heap.size w w' := by
  have HD := Lib.hid (doc_res s)
  have hrs : (rest1 s).size ≤ s.size := by
    unfold rest1
    split
    · rw [rest_size]; omega
    · omega
  have hrm : (rest1 s).size ≤ 9223372036854775807 := by omega
  clear hrs
  have hconv : ∀ (w : World) (s : ByteArray), (convert 9 36 (.string s)).run Tryd.prog w = .ok (.slice (some ⟨w.heap.size, 0, none⟩) s.size (grownCap w s.size 0 5)) (Lib.bytesWorld w 5 s) :=
    fun w s => Lib.run_convert_string_bytes w _ _ _ s Tryd.underlying9 Tryd.underlying36 Tryd.underlying5
  go_enter Tryd.func5, Tryd.ntmps5
  go_wp2_with fail
  refine (cut_any _ _).mono ?_
  rintro e w1 ⟨rfl, hw1⟩
  have HB1 : Hid (Below w.heap.size w w1) := Lib.hid (by
    rcases hw1 with rfl | rfl
    · exact Below.refl _ _
    · exact (Below.refl _ _).drew)
  clear hw1
  generalize hr : rest1 s = r at *
  generalize hn : negB s = neg at *
  clear hr hn hm
  go_wp2_with fail
  refine (all_any _ _ hrm).mono ?_
  rintro e w' ⟨rfl, rfl⟩
  cases ha : allD r
  · have HR := Lib.hid (show resV r neg = 0 ∧ resE r = 7 from by simp [resV, resE, ha])
    clear ha
    go_wp2_with fail
    go_ret2
    exact ⟨by rw [HD.out.1, HD.out.2, HR.out.1, HR.out.2]; rfl, HB1.out⟩
  · have hdg : ∀ j, j < r.size → dgt r j = true := by
      simp [allD] at ha
      exact ha.1
    have HG := Lib.hid hdg
    clear hdg
    have HA := Lib.hid ha
    clear ha
    have hcl : ∀ k, k < r.size → (Lib.bytesWorld w1 5 r).cell? ⟨w1.heap.size, k, none⟩ = some (.int .u8 (r.data.toList.getD k 0).toNat) := fun k hk => Lib.bytesWorld_cell w1 _ r k hk
    have HC := Lib.hid hcl
    clear hcl
    have HB2 : Hid (Below w.heap.size w (Lib.bytesWorld w1 5 r)) := Lib.hid (HB1.out.trans (Go.Joins.below_bytesWorld _ _ _ _ HB1.out.size))
    go_wp2_with fail
    generalize Lib.bytesWorld w1 5 r = W2 at *
    go_loop [6, 20] (fun n i => ∃ (k : Nat) (x : Int), k ≤ r.size ∧ i = .int .i64 k ∧ n = .int .i64 x ∧ x = num r 0 k ∧ 0 ≤ x ∧ x ≤ 2147483647) (fun _ i => r.size - (intOf i).toNat)
    case atStart => exact ⟨0, 0, Nat.zero_le _, rfl, rfl, rfl, by decide, by decide⟩
    case round =>
      obtain ⟨k, x, hk, rfl, rfl, hx, hx0, hx1⟩ := hrel
      have HV := Lib.hid hx
      clear hx
      by_cases hlt : k < r.size
      · have hb := (dgt_iff hlt).1 (HG.out k hlt)
        have hcell := HC.out k hlt
        rw [show r.data.toList.getD k 0 = r[k] from by simp [List.getD, hlt]; rfl] at hcell
        have HS := Lib.hid (num_step (Nat.zero_le k) hlt)
        obtain ⟨hb1, hb2⟩ := hb
        by_cases hv : 10 * x + ((r[k].toNat : Int) - 48) ≤ 2147483647
        · have HVal := Lib.hid (show vld (10 * x + ((r[k].toNat : Int) - 48)) = true from vld_mk (by omega))
          go_wp2_with fail
          refine (valid_is HVal.out _).mono ?_
          rintro e w' ⟨rfl, rfl⟩
          go_wp2_with fail
          go_round
          case rel => exact ⟨k + 1, 10 * x + ((r[k].toNat : Int) - 48), by omega, by go_num, rfl, by rw [HS.out, ← HV.out]; unfold mn2; rw [if_neg (by omega)], by omega, by omega⟩
          case measure => simp [intOf]; omega
        · have HVal := Lib.hid (show vld (10 * x + ((r[k].toNat : Int) - 48)) = false from vld_no (by omega))
          have HE := Lib.hid (num_stuck HG.out (k := k + 1) (by rw [HS.out, ← HV.out]; unfold mn2; split <;> omega) (r.size - (k + 1)) (by omega))
          have HR := Lib.hid (show resV r neg = 0 ∧ resE r = 3 from by
            have e : num r 0 r.size = 2147483648 := by have := HE.out; rwa [show k + 1 + (r.size - (k + 1)) = r.size from by omega] at this
            simp [resV, resE, HA.out, e])
          go_wp2_with fail
          refine (valid_is HVal.out _).mono ?_
          rintro e w' ⟨rfl, rfl⟩
          go_wp2_with fail
          go_ret2
          exact ⟨by rw [HD.out.1, HD.out.2, HR.out.1, HR.out.2]; rfl, HB2.out⟩
      · obtain rfl : k = r.size := by omega
        cases neg
        · have HR := Lib.hid (show resV r false = x ∧ resE r = 0 from by
            simp only [resV, resE, HA.out, if_true, ← HV.out, if_pos hx1]
            exact ⟨rfl, trivial⟩)
          go_wp2_with fail
          go_ret2
          exact ⟨by rw [HD.out.1, HD.out.2, HR.out.1, HR.out.2]; rfl, HB2.out⟩
        · have HR := Lib.hid (show resV r true = -x ∧ resE r = 0 from by
            simp only [resV, resE, HA.out, if_true, ← HV.out, if_pos hx1]
            exact ⟨trivial, trivial⟩)
          go_wp2_with fail
          go_ret2
          exact ⟨by rw [HD.out.1, HD.out.2, HR.out.1, HR.out.2]; rfl, HB2.out⟩

end Go.Proofs.YtnhieokegidibaaDoor
