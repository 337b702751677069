/-
  PACKAGE real, decimal digits: neighbours.
-/
import Derived.Test.YtbfknapmhkpgcaaGreatDoorDig4
import Derived.Test.YtbfknapmhkpgcaaGreatDoorParseR

namespace Go.Proofs.YtbfknapmhkpgcaaGreatDoor
open Go.RowKit
set_option linter.unusedVariables false

set_option maxRecDepth 100000 in
set_option maxHeartbeats 1600000 in
set_option maxHeartbeats 1600000 in
theorem nb_gt (d F : ByteArray) (n V : Nat) (w : World) (hn : n < d.size) (hn18 : n ≤ 18) (hd : ∀ b ∈ d.data.toList, 48 ≤ b.toNat ∧ b.toNat ≤ 57) (HV : Hid (nmV (d.data.toList.take n) = V)) (hF : d.extract n d.size = F) (h1 : Op.bytesLess F.toList [53] = false) (h2 : (F.toList == [53]) = false) (h3 : True) :
    Calls Tryz.prog 96 #[.string d, .int .i64 (n : Int)] w fun r w' => r = .returned (.agg #[.int .i64 ((V : Int) + 1), .int .i64 ((V : Int))]) ∧ Below w.heap.size w w' := by
  have HD := Lib.hid hd
  have HF := Lib.hid hF
  have HVL : Hid (∀ k, k ≤ n → nmV (d.data.toList.take k) < 10 ^ 18) := Lib.hid (fun k hk => by
    have := nmV_lt (d.data.toList.take k) 0 0 (by decide) (fun b hb => (hd b (List.take_subset _ _ hb)).2)
    rw [Nat.zero_add] at this
    refine Nat.lt_of_lt_of_le this (Nat.pow_le_pow_right (by decide) ?_)
    have := List.length_take_le k d.data.toList
    omega)
  have hlen : d.data.toList.length = d.size := (Lib.size_eq d).symm
  have HLEN := Lib.hid hlen
  clear hd hF hlen
  go_enter Tryz.func96, Tryz.ntmps96
  go_wp2_with fail
  go_loopw [5, 9] (fun b i wr => ∃ k : Nat, k ≤ n ∧ i = .int .i64 k ∧ b = .int .i64 (nmV (d.data.toList.take k)) ∧ wr = w.alloc (Obj.cells #[.int .i64 0, .int .i64 0] 100)) (fun _ i _ => n - (intOf i).toNat)
  case atStart => exact ⟨0, Nat.zero_le _, rfl, rfl, rfl⟩
  case round =>
    obtain ⟨k, hk, rfl, rfl, rfl⟩ := hrel
    have hvl := HVL.out k hk
    by_cases hlt : k < n
    · have hkd : k < d.size := by omega
      have hb := HD.out d[k] (by have : d[k] = d.data.toList[k]'(by rw [HLEN.out]; exact hkd) := rfl; rw [this]; exact List.getElem_mem _)
      have HS : Hid (nmV (d.data.toList.take (k + 1)) = 10 * nmV (d.data.toList.take k) + (d[k].toNat - 48)) := Lib.hid (by have := nmV_snoc d.data.toList k (by rw [HLEN.out]; exact hkd); rw [this]; rfl)
      have hv2 := HVL.out (k + 1) (by omega)
      obtain ⟨v2, he2⟩ : ∃ v2, v2 = nmV (d.data.toList.take (k + 1)) := ⟨_, rfl⟩
      rw [← he2] at HS hv2
      have HE2 := Lib.hid he2
      clear he2
      generalize nmV (d.data.toList.take k) = v at HS hvl ⊢
      obtain ⟨hb1, hb2⟩ := hb
      have hki : (k : Int) < (n : Int) := by omega
      have hv0 : (0 : Int) ≤ (v : Int) := by omega
      have hkd2 : (k : Int) < (d.size : Int) := by omega
      have hi1 : (48 : Int) ≤ (d[k].toNat : Int) := by omega
      have hi2 : (d[k].toNat : Int) ≤ 57 := by omega
      have hvi : (v : Int) < 100000000000000000 := by have := HS.out; omega
      have HSI := Lib.hid (show (10 : Int) * (v : Int) + ((d[k].toNat : Int) - 48) = (v2 : Int) from by have := HS.out; omega)
      clear HS hv2 hvl
      go_wp2_with fail
      exact ⟨⟨k + 1, by omega, by simp, by rw [← HE2.out, ← HSI.out], by first | rfl | trivial⟩, by simp [intOf]; omega⟩
    · obtain rfl : k = n := by omega
      rw [HV.out] at hvl ⊢
      have hkd2 : (k : Int) ≤ (d.size : Int) := by omega
      have hkd3 : k ≤ d.size := by omega
      have hF2 := HF.out
      have hvi : (V : Int) < 1000000000000000000 := by omega
      clear hvl
      have h2p : ¬ F.toList = [53] := by have := h2; simpa using this
      have hv0 : (0 : Int) ≤ (V : Int) := by omega
      go_wp2_with fail
      refine bodyPost_ret (v := .agg #[.int .i64 ((V : Int) + 1), .int .i64 ((V : Int))]) (by simp [results, Tryz.results96, go_sem]) rfl ⟨rfl, by repeat (first | with_reducible exact HBB.out | with_reducible exact Below.refl _ _ | with_reducible refine Below.drew ?_ | with_reducible refine belowN ?_ _ | with_reducible refine Below.setCell ?_ (by first | omega | (simp; done) | (simp; omega)) _ | with_reducible refine Below.alloc ?_ (by first | omega | (simp; done) | (simp; omega)) _)⟩

set_option maxRecDepth 100000 in
set_option maxHeartbeats 1600000 in
set_option maxHeartbeats 1600000 in
theorem nb_odd (d F : ByteArray) (n V : Nat) (w : World) (hn : n < d.size) (hn18 : n ≤ 18) (hd : ∀ b ∈ d.data.toList, 48 ≤ b.toNat ∧ b.toNat ≤ 57) (HV : Hid (nmV (d.data.toList.take n) = V)) (hF : d.extract n d.size = F) (h1 : Op.bytesLess F.toList [53] = false) (h2 : (F.toList == [53]) = true) (h3 : ((V : Int) % 2 == 1) = true) :
    Calls Tryz.prog 96 #[.string d, .int .i64 (n : Int)] w fun r w' => r = .returned (.agg #[.int .i64 ((V : Int) + 1), .int .i64 ((V : Int))]) ∧ Below w.heap.size w w' := by
  have HD := Lib.hid hd
  have HF := Lib.hid hF
  have HVL : Hid (∀ k, k ≤ n → nmV (d.data.toList.take k) < 10 ^ 18) := Lib.hid (fun k hk => by
    have := nmV_lt (d.data.toList.take k) 0 0 (by decide) (fun b hb => (hd b (List.take_subset _ _ hb)).2)
    rw [Nat.zero_add] at this
    refine Nat.lt_of_lt_of_le this (Nat.pow_le_pow_right (by decide) ?_)
    have := List.length_take_le k d.data.toList
    omega)
  have hlen : d.data.toList.length = d.size := (Lib.size_eq d).symm
  have HLEN := Lib.hid hlen
  clear hd hF hlen
  go_enter Tryz.func96, Tryz.ntmps96
  go_wp2_with fail
  go_loopw [5, 9] (fun b i wr => ∃ k : Nat, k ≤ n ∧ i = .int .i64 k ∧ b = .int .i64 (nmV (d.data.toList.take k)) ∧ wr = w.alloc (Obj.cells #[.int .i64 0, .int .i64 0] 100)) (fun _ i _ => n - (intOf i).toNat)
  case atStart => exact ⟨0, Nat.zero_le _, rfl, rfl, rfl⟩
  case round =>
    obtain ⟨k, hk, rfl, rfl, rfl⟩ := hrel
    have hvl := HVL.out k hk
    by_cases hlt : k < n
    · have hkd : k < d.size := by omega
      have hb := HD.out d[k] (by have : d[k] = d.data.toList[k]'(by rw [HLEN.out]; exact hkd) := rfl; rw [this]; exact List.getElem_mem _)
      have HS : Hid (nmV (d.data.toList.take (k + 1)) = 10 * nmV (d.data.toList.take k) + (d[k].toNat - 48)) := Lib.hid (by have := nmV_snoc d.data.toList k (by rw [HLEN.out]; exact hkd); rw [this]; rfl)
      have hv2 := HVL.out (k + 1) (by omega)
      obtain ⟨v2, he2⟩ : ∃ v2, v2 = nmV (d.data.toList.take (k + 1)) := ⟨_, rfl⟩
      rw [← he2] at HS hv2
      have HE2 := Lib.hid he2
      clear he2
      generalize nmV (d.data.toList.take k) = v at HS hvl ⊢
      obtain ⟨hb1, hb2⟩ := hb
      have hki : (k : Int) < (n : Int) := by omega
      have hv0 : (0 : Int) ≤ (v : Int) := by omega
      have hkd2 : (k : Int) < (d.size : Int) := by omega
      have hi1 : (48 : Int) ≤ (d[k].toNat : Int) := by omega
      have hi2 : (d[k].toNat : Int) ≤ 57 := by omega
      have hvi : (v : Int) < 100000000000000000 := by have := HS.out; omega
      have HSI := Lib.hid (show (10 : Int) * (v : Int) + ((d[k].toNat : Int) - 48) = (v2 : Int) from by have := HS.out; omega)
      clear HS hv2 hvl
      go_wp2_with fail
      exact ⟨⟨k + 1, by omega, by simp, by rw [← HE2.out, ← HSI.out], by first | rfl | trivial⟩, by simp [intOf]; omega⟩
    · obtain rfl : k = n := by omega
      rw [HV.out] at hvl ⊢
      have hkd2 : (k : Int) ≤ (d.size : Int) := by omega
      have hkd3 : k ≤ d.size := by omega
      have hF2 := HF.out
      have hvi : (V : Int) < 1000000000000000000 := by omega
      clear hvl
      have h2p : F.toList = [53] := by have := h2; simpa using this
      have hv0 : (0 : Int) ≤ (V : Int) := by omega
      go_wp2_with fail
      refine bodyPost_ret (v := .agg #[.int .i64 ((V : Int) + 1), .int .i64 ((V : Int))]) (by simp [results, Tryz.results96, go_sem]) rfl ⟨rfl, by repeat (first | with_reducible exact HBB.out | with_reducible exact Below.refl _ _ | with_reducible refine Below.drew ?_ | with_reducible refine belowN ?_ _ | with_reducible refine Below.setCell ?_ (by first | omega | (simp; done) | (simp; omega)) _ | with_reducible refine Below.alloc ?_ (by first | omega | (simp; done) | (simp; omega)) _)⟩

set_option maxRecDepth 100000 in
set_option maxHeartbeats 1600000 in
set_option maxHeartbeats 1600000 in
theorem nb_evn (d F : ByteArray) (n V : Nat) (w : World) (hn : n < d.size) (hn18 : n ≤ 18) (hd : ∀ b ∈ d.data.toList, 48 ≤ b.toNat ∧ b.toNat ≤ 57) (HV : Hid (nmV (d.data.toList.take n) = V)) (hF : d.extract n d.size = F) (h1 : Op.bytesLess F.toList [53] = false) (h2 : (F.toList == [53]) = true) (h3 : ((V : Int) % 2 == 1) = false) :
    Calls Tryz.prog 96 #[.string d, .int .i64 (n : Int)] w fun r w' => r = .returned (.agg #[.int .i64 ((V : Int)), .int .i64 ((V : Int) + 1)]) ∧ Below w.heap.size w w' := by
  have HD := Lib.hid hd
  have HF := Lib.hid hF
  have HVL : Hid (∀ k, k ≤ n → nmV (d.data.toList.take k) < 10 ^ 18) := Lib.hid (fun k hk => by
    have := nmV_lt (d.data.toList.take k) 0 0 (by decide) (fun b hb => (hd b (List.take_subset _ _ hb)).2)
    rw [Nat.zero_add] at this
    refine Nat.lt_of_lt_of_le this (Nat.pow_le_pow_right (by decide) ?_)
    have := List.length_take_le k d.data.toList
    omega)
  have hlen : d.data.toList.length = d.size := (Lib.size_eq d).symm
  have HLEN := Lib.hid hlen
  clear hd hF hlen
  go_enter Tryz.func96, Tryz.ntmps96
  go_wp2_with fail
  go_loopw [5, 9] (fun b i wr => ∃ k : Nat, k ≤ n ∧ i = .int .i64 k ∧ b = .int .i64 (nmV (d.data.toList.take k)) ∧ wr = w.alloc (Obj.cells #[.int .i64 0, .int .i64 0] 100)) (fun _ i _ => n - (intOf i).toNat)
  case atStart => exact ⟨0, Nat.zero_le _, rfl, rfl, rfl⟩
  case round =>
    obtain ⟨k, hk, rfl, rfl, rfl⟩ := hrel
    have hvl := HVL.out k hk
    by_cases hlt : k < n
    · have hkd : k < d.size := by omega
      have hb := HD.out d[k] (by have : d[k] = d.data.toList[k]'(by rw [HLEN.out]; exact hkd) := rfl; rw [this]; exact List.getElem_mem _)
      have HS : Hid (nmV (d.data.toList.take (k + 1)) = 10 * nmV (d.data.toList.take k) + (d[k].toNat - 48)) := Lib.hid (by have := nmV_snoc d.data.toList k (by rw [HLEN.out]; exact hkd); rw [this]; rfl)
      have hv2 := HVL.out (k + 1) (by omega)
      obtain ⟨v2, he2⟩ : ∃ v2, v2 = nmV (d.data.toList.take (k + 1)) := ⟨_, rfl⟩
      rw [← he2] at HS hv2
      have HE2 := Lib.hid he2
      clear he2
      generalize nmV (d.data.toList.take k) = v at HS hvl ⊢
      obtain ⟨hb1, hb2⟩ := hb
      have hki : (k : Int) < (n : Int) := by omega
      have hv0 : (0 : Int) ≤ (v : Int) := by omega
      have hkd2 : (k : Int) < (d.size : Int) := by omega
      have hi1 : (48 : Int) ≤ (d[k].toNat : Int) := by omega
      have hi2 : (d[k].toNat : Int) ≤ 57 := by omega
      have hvi : (v : Int) < 100000000000000000 := by have := HS.out; omega
      have HSI := Lib.hid (show (10 : Int) * (v : Int) + ((d[k].toNat : Int) - 48) = (v2 : Int) from by have := HS.out; omega)
      clear HS hv2 hvl
      go_wp2_with fail
      exact ⟨⟨k + 1, by omega, by simp, by rw [← HE2.out, ← HSI.out], by first | rfl | trivial⟩, by simp [intOf]; omega⟩
    · obtain rfl : k = n := by omega
      rw [HV.out] at hvl ⊢
      have hkd2 : (k : Int) ≤ (d.size : Int) := by omega
      have hkd3 : k ≤ d.size := by omega
      have hF2 := HF.out
      have hvi : (V : Int) < 1000000000000000000 := by omega
      clear hvl
      have h2p : F.toList = [53] := by have := h2; simpa using this
      have hv0 : (0 : Int) ≤ (V : Int) := by omega
      go_wp2_with fail
      refine bodyPost_ret (v := .agg #[.int .i64 ((V : Int)), .int .i64 ((V : Int) + 1)]) (by simp [results, Tryz.results96, go_sem]) rfl ⟨rfl, by repeat (first | with_reducible exact HBB.out | with_reducible exact Below.refl _ _ | with_reducible refine Below.drew ?_ | with_reducible refine belowN ?_ _ | with_reducible refine Below.setCell ?_ (by first | omega | (simp; done) | (simp; omega)) _ | with_reducible refine Below.alloc ?_ (by first | omega | (simp; done) | (simp; omega)) _)⟩

set_option maxRecDepth 100000 in
set_option maxHeartbeats 1600000 in
set_option maxHeartbeats 1600000 in
theorem nb_lt (d F : ByteArray) (n V : Nat) (w : World) (hn : n < d.size) (hn18 : n ≤ 18) (hd : ∀ b ∈ d.data.toList, 48 ≤ b.toNat ∧ b.toNat ≤ 57) (HV : Hid (nmV (d.data.toList.take n) = V)) (hF : d.extract n d.size = F) (h1 : Op.bytesLess F.toList [53] = true) (h2 : (F.toList == [53]) = false) (h3 : True) :
    Calls Tryz.prog 96 #[.string d, .int .i64 (n : Int)] w fun r w' => r = .returned (.agg #[.int .i64 ((V : Int)), .int .i64 ((V : Int) + 1)]) ∧ Below w.heap.size w w' := by
  have HD := Lib.hid hd
  have HF := Lib.hid hF
  have HVL : Hid (∀ k, k ≤ n → nmV (d.data.toList.take k) < 10 ^ 18) := Lib.hid (fun k hk => by
    have := nmV_lt (d.data.toList.take k) 0 0 (by decide) (fun b hb => (hd b (List.take_subset _ _ hb)).2)
    rw [Nat.zero_add] at this
    refine Nat.lt_of_lt_of_le this (Nat.pow_le_pow_right (by decide) ?_)
    have := List.length_take_le k d.data.toList
    omega)
  have hlen : d.data.toList.length = d.size := (Lib.size_eq d).symm
  have HLEN := Lib.hid hlen
  clear hd hF hlen
  go_enter Tryz.func96, Tryz.ntmps96
  go_wp2_with fail
  go_loopw [5, 9] (fun b i wr => ∃ k : Nat, k ≤ n ∧ i = .int .i64 k ∧ b = .int .i64 (nmV (d.data.toList.take k)) ∧ wr = w.alloc (Obj.cells #[.int .i64 0, .int .i64 0] 100)) (fun _ i _ => n - (intOf i).toNat)
  case atStart => exact ⟨0, Nat.zero_le _, rfl, rfl, rfl⟩
  case round =>
    obtain ⟨k, hk, rfl, rfl, rfl⟩ := hrel
    have hvl := HVL.out k hk
    by_cases hlt : k < n
    · have hkd : k < d.size := by omega
      have hb := HD.out d[k] (by have : d[k] = d.data.toList[k]'(by rw [HLEN.out]; exact hkd) := rfl; rw [this]; exact List.getElem_mem _)
      have HS : Hid (nmV (d.data.toList.take (k + 1)) = 10 * nmV (d.data.toList.take k) + (d[k].toNat - 48)) := Lib.hid (by have := nmV_snoc d.data.toList k (by rw [HLEN.out]; exact hkd); rw [this]; rfl)
      have hv2 := HVL.out (k + 1) (by omega)
      obtain ⟨v2, he2⟩ : ∃ v2, v2 = nmV (d.data.toList.take (k + 1)) := ⟨_, rfl⟩
      rw [← he2] at HS hv2
      have HE2 := Lib.hid he2
      clear he2
      generalize nmV (d.data.toList.take k) = v at HS hvl ⊢
      obtain ⟨hb1, hb2⟩ := hb
      have hki : (k : Int) < (n : Int) := by omega
      have hv0 : (0 : Int) ≤ (v : Int) := by omega
      have hkd2 : (k : Int) < (d.size : Int) := by omega
      have hi1 : (48 : Int) ≤ (d[k].toNat : Int) := by omega
      have hi2 : (d[k].toNat : Int) ≤ 57 := by omega
      have hvi : (v : Int) < 100000000000000000 := by have := HS.out; omega
      have HSI := Lib.hid (show (10 : Int) * (v : Int) + ((d[k].toNat : Int) - 48) = (v2 : Int) from by have := HS.out; omega)
      clear HS hv2 hvl
      go_wp2_with fail
      exact ⟨⟨k + 1, by omega, by simp, by rw [← HE2.out, ← HSI.out], by first | rfl | trivial⟩, by simp [intOf]; omega⟩
    · obtain rfl : k = n := by omega
      rw [HV.out] at hvl ⊢
      have hkd2 : (k : Int) ≤ (d.size : Int) := by omega
      have hkd3 : k ≤ d.size := by omega
      have hF2 := HF.out
      have hvi : (V : Int) < 1000000000000000000 := by omega
      clear hvl
      have h2p : ¬ F.toList = [53] := by have := h2; simpa using this
      have hv0 : (0 : Int) ≤ (V : Int) := by omega
      go_wp2_with fail
      refine bodyPost_ret (v := .agg #[.int .i64 ((V : Int)), .int .i64 ((V : Int) + 1)]) (by simp [results, Tryz.results96, go_sem]) rfl ⟨rfl, by repeat (first | with_reducible exact HBB.out | with_reducible exact Below.refl _ _ | with_reducible refine Below.drew ?_ | with_reducible refine belowN ?_ _ | with_reducible refine Below.setCell ?_ (by first | omega | (simp; done) | (simp; omega)) _ | with_reducible refine Below.alloc ?_ (by first | omega | (simp; done) | (simp; omega)) _)⟩

def upB (d : List UInt8) (n : Nat) : Bool := !(Op.bytesLess (d.drop n) [53] || (d.drop n) == [53]) || ((d.drop n) == [53] && (nmV (d.take n) % 2 == 1))
def nb1 (d : List UInt8) (n : Nat) : Nat := if upB d n then nmV (d.take n) + 1 else nmV (d.take n)
def nb2 (d : List UInt8) (n : Nat) : Nat := if upB d n then nmV (d.take n) else nmV (d.take n) + 1

theorem nmV_18 (d : List UInt8) (n : Nat) (hn18 : n ≤ 18) (hd : ∀ b ∈ d, 48 ≤ b.toNat ∧ b.toNat ≤ 57) : nmV (d.take n) < 10 ^ 18 := by
  have := nmV_lt (d.take n) 0 0 (by decide) (fun b hb => (hd b (List.take_subset _ _ hb)).2)
  rw [Nat.zero_add] at this
  refine Nat.lt_of_lt_of_le this (Nat.pow_le_pow_right (by decide) ?_)
  have := List.length_take_le n d
  omega

theorem nb_any (d : List UInt8) (n : Nat) (w : World) (hn : n < d.length) (hn18 : n ≤ 18) (hd : ∀ b ∈ d, 48 ≤ b.toNat ∧ b.toNat ≤ 57) :
    Calls Tryz.prog 96 #[.string (bs d), .int .i64 (n : Int)] w fun r w' => r = .returned (.agg #[.int .i64 (nb1 d n : Int), .int .i64 (nb2 d n : Int)]) ∧ Below w.heap.size w w' := by
  have hF : (bs d).extract n (bs d).size = bs (d.drop n) := by
    rw [Lib.extract_mk, List.take_of_length_le (by rw [bs_size]; simp)]
  have hl : (bs (d.drop n)).toList = d.drop n := by rw [ByteArray.toList_eq]
  have hV : Hid (nmV ((bs d).data.toList.take n) = nmV (d.take n)) := Lib.hid (by rw [bs_toList])
  have hsz : n < (bs d).size := by rw [bs_size]; exact hn
  have hdd : ∀ b ∈ (bs d).data.toList, 48 ≤ b.toNat ∧ b.toNat ≤ 57 := by rw [bs_toList]; exact hd
  unfold nb1 nb2 upB
  cases h1 : Op.bytesLess (d.drop n) [53]
  · cases h2 : (d.drop n == [53])
    · exact nb_gt (bs d) _ n _ w hsz hn18 hdd hV hF (by rw [hl]; exact h1) (by rw [hl]; exact h2) trivial
    · cases h3 : (nmV (d.take n) % 2 == 1)
      · have h4 : ((nmV (d.take n) : Int) % 2 == 1) = false := by
          rw [beq_eq_false_iff_ne] at h3 ⊢
          omega
        exact nb_evn (bs d) _ n _ w hsz hn18 hdd hV hF (by rw [hl]; exact h1) (by rw [hl]; exact h2) h4
      · have h4 : ((nmV (d.take n) : Int) % 2 == 1) = true := by
          rw [beq_iff_eq] at h3 ⊢
          omega
        exact nb_odd (bs d) _ n _ w hsz hn18 hdd hV hF (by rw [hl]; exact h1) (by rw [hl]; exact h2) h4
  · cases h2 : (d.drop n == [53])
    · exact nb_lt (bs d) _ n _ w hsz hn18 hdd hV hF (by rw [hl]; exact h1) (by rw [hl]; exact h2) trivial
    · rw [beq_iff_eq] at h2
      rw [h2] at h1
      exact absurd h1 (by decide)

end Go.Proofs.YtbfknapmhkpgcaaGreatDoor
