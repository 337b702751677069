/-
  TEXTS OF INTEGERS AS LISTS: the text of an integer denotes it; a further digit is ten times and the digit.
-/
import Derived.Test.YtnhieokegidibaaDoorPrint

namespace Go.Proofs.YtnhieokegidibaaDoor
open Go.RowKit

abbrev bts (l : List UInt8) : ByteArray := ⟨l.toArray⟩
def dg1 (c : UInt8) : Bool := decide (48 ≤ (c.toNat : Int)) && decide ((c.toNat : Int) ≤ 57)
def nL (l : List UInt8) : Int := l.foldl (fun x c => mn2 (10 * x + ((c.toNat : Int) - 48)) 2147483648) 0
theorem bts_size (l : List UInt8) : (bts l).size = l.length := by simp [ByteArray.size]
theorem bts_get (l : List UInt8) (k : Nat) (h : k < (bts l).size) : (bts l)[k] = l[k]'(by rw [bts_size] at h; exact h) := rfl
theorem bts_self (s : ByteArray) : bts s.data.toList = s := by rcases s with ⟨⟨l⟩⟩; rfl
theorem nL_snoc (l : List UInt8) (c : UInt8) : nL (l ++ [c]) = mn2 (10 * nL l + ((c.toNat : Int) - 48)) 2147483648 := by simp [nL]
theorem num_list (l : List UInt8) (k : Nat) (h : k ≤ l.length) : num (bts l) 0 k = nL (l.take k) := by
  induction k with
  | zero => rfl
  | succ k ih =>
    rw [num_step (Nat.zero_le _) (by rw [bts_size]; omega), ih (by omega), List.take_succ_eq_append_getElem (by omega), nL_snoc]
    rfl
theorem num_whole (l : List UInt8) : num (bts l) 0 (bts l).size = nL l := by
  rw [bts_size, num_list l _ (Nat.le_refl _), List.take_length]
theorem dgt_list (l : List UInt8) (k : Nat) (h : k < l.length) : dgt (bts l) k = dg1 l[k] := by
  unfold dgt
  rw [dif_pos (by rw [bts_size]; exact h)]
  rfl
theorem allD_list (l : List UInt8) : allD (bts l) = (l.all dg1 && !l.isEmpty) := by
  have e1 : (List.range (bts l).size).all (dgt (bts l)) = l.all dg1 := by
    rw [Bool.eq_iff_iff, List.all_eq_true, List.all_eq_true]
    constructor
    · intro h c hc
      obtain ⟨k, hk, rfl⟩ := List.getElem_of_mem hc
      rw [← dgt_list l k hk]
      exact h k (List.mem_range.2 (by rw [bts_size]; exact hk))
    · intro h k hk
      have hk := List.mem_range.1 hk
      rw [bts_size] at hk
      rw [dgt_list l k hk]
      exact h _ (List.getElem_mem hk)
  have e2 : (bts l).toList.isEmpty = l.isEmpty := by
    rw [ByteArray.toList_eq]
  rw [allD, e1, e2]
theorem head1_cons (c : UInt8) (l : List UInt8) : head1 (bts (c :: l)) = (c.toNat : Int) := by
  unfold head1
  rw [dif_pos (by rw [bts_size]; simp)]
  rfl
theorem extract_cons (c : UInt8) (l : List UInt8) : (bts (c :: l)).extract 1 (bts (c :: l)).size = bts l := by
  apply ByteArray.ext
  simp [ByteArray.data_extract, ByteArray.size]
theorem rest1_sign (c : UInt8) (l : List UInt8) (h : (c.toNat : Int) = 43 ∨ (c.toNat : Int) = 45) : rest1 (bts (c :: l)) = bts l := by
  rw [rest1, if_pos (by rw [head1_cons]; exact h), extract_cons]
theorem rest1_other (c : UInt8) (l : List UInt8) (h : ¬ ((c.toNat : Int) = 43 ∨ (c.toNat : Int) = 45)) : rest1 (bts (c :: l)) = bts (c :: l) := by
  rw [rest1, if_neg (by rw [head1_cons]; exact h)]
theorem res_list (l : List UInt8) (neg : Bool) (h : l.all dg1 = true) (hn : l ≠ []) (hb : nL l ≤ 2147483647) : resV (bts l) neg = (if neg then - nL l else nL l) ∧ resE (bts l) = 0 := by
  have e : allD (bts l) = true := by rw [allD_list, h]; cases l with | nil => exact absurd rfl hn | cons a l => rfl
  simp only [resV, resE, e, if_true, num_whole, if_pos hb]
  exact ⟨trivial, trivial⟩
theorem res_far (l : List UInt8) (neg : Bool) (h : l.all dg1 = true) (hn : l ≠ []) (hb : ¬ nL l ≤ 2147483647) : resV (bts l) neg = 0 ∧ resE (bts l) = 3 := by
  have e : allD (bts l) = true := by rw [allD_list, h]; cases l with | nil => exact absurd rfl hn | cons a l => rfl
  simp only [resV, resE, e, if_true, num_whole, if_neg hb]
  exact ⟨trivial, trivial⟩

theorem dig_nat {i : Nat} (h : i < 10) : ((UInt8.ofNat (48 + i)).toNat : Int) = 48 + i := by
  rw [UInt8.toNat_ofNat']
  omega
theorem dg1_dig {i : Nat} (h : i < 10) : dg1 (UInt8.ofNat (48 + i)) = true := by
  have := dig_nat h
  simp [dg1]; omega
theorem dec_facts (u : Nat) : u ≤ 2147483647 → (Lib.decDigits u).all dg1 = true ∧ Lib.decDigits u ≠ [] ∧ nL (Lib.decDigits u) = u := by
  induction u using Nat.strongRecOn with
  | ind u ih =>
    intro hu
    by_cases h : u < 10
    · rw [Lib.decDigits_one h]
      refine ⟨by simp only [List.all_cons, List.all_nil, dg1_dig h]; rfl, by simp, ?_⟩
      have := dig_nat h
      simp only [nL, List.foldl_cons, List.foldl_nil]
      unfold mn2
      split <;> omega
    · have i := ih (u / 10) (by omega) (by omega)
      rw [Lib.decDigits, dif_neg h]
      have hd := dig_nat (i := u % 10) (by omega)
      refine ⟨by simp only [List.all_append, i.1, List.all_cons, List.all_nil, dg1_dig (show u % 10 < 10 by omega)]; rfl, by simp, ?_⟩
      rw [nL_snoc, i.2.2, hd]
      unfold mn2
      split <;> omega
theorem doc_itoa (n : Int) (h1 : -2147483647 ≤ n) (h2 : n ≤ 2147483647) : docV (bts (Lib.itoa n)) = n ∧ docE (bts (Lib.itoa n)) = 0 := by
  rw [(doc_res _).1, (doc_res _).2]
  unfold Lib.itoa
  by_cases hn : n < 0
  · rw [if_pos hn, rest1_sign _ _ (.inr rfl), show negB (bts (45 :: Lib.decDigits n.natAbs)) = true from by rw [negB, head1_cons]; rfl]
    obtain ⟨f1, f2, f3⟩ := dec_facts n.natAbs (by omega)
    have r := res_list _ true f1 f2 (by omega)
    rw [r.1, r.2, f3]
    exact ⟨by simp; omega, rfl⟩
  · rw [if_neg hn]
    obtain ⟨f1, f2, f3⟩ := dec_facts n.toNat (by omega)
    have r := res_list _ false f1 f2 (by omega)
    rcases hl : Lib.decDigits n.toNat with _ | ⟨c, l⟩
    · exact absurd hl f2
    · rw [hl] at f1 r f3
      have hc : dg1 c = true := by simp at f1; exact f1.1
      have hc2 : ¬ ((c.toNat : Int) = 43 ∨ (c.toNat : Int) = 45) := by simp [dg1] at hc; omega
      rw [rest1_other c l hc2, show negB (bts (c :: l)) = false from by rw [negB, head1_cons]; exact decide_eq_false (fun k => hc2 (.inr k)), r.1, r.2, f3]
      exact ⟨by simp; omega, rfl⟩

/-- the text with a digit behind it -/
theorem doc_snoc (l : List UInt8) (d : Nat) (hd : d < 10) (hl : l ≠ []) (h0 : docE (bts l) = 0) :
    ∃ x : Int, 0 ≤ x ∧ x ≤ 2147483647 ∧ docV (bts l) = (if negB (bts l) then -x else x) ∧
      ((10 * x + d ≤ 2147483647 ∧ docV (bts (l ++ [UInt8.ofNat (48 + d)])) = (if negB (bts l) then -(10 * x + d) else 10 * x + d) ∧ docE (bts (l ++ [UInt8.ofNat (48 + d)])) = 0) ∨
       (2147483647 < 10 * x + d ∧ docV (bts (l ++ [UInt8.ofNat (48 + d)])) = 0 ∧ docE (bts (l ++ [UInt8.ofNat (48 + d)])) = 3)) := by
  rcases l with _ | ⟨c, l⟩
  · exact absurd rfl hl
  obtain ⟨r, er, er2⟩ : ∃ r, rest1 (bts (c :: l)) = bts r ∧ rest1 (bts (c :: l ++ [UInt8.ofNat (48 + d)])) = bts (r ++ [UInt8.ofNat (48 + d)]) := by
    by_cases h : (c.toNat : Int) = 43 ∨ (c.toNat : Int) = 45
    · exact ⟨l, rest1_sign c l h, rest1_sign c _ h⟩
    · exact ⟨c :: l, rest1_other c l h, rest1_other c _ h⟩
  have en : negB (bts (c :: l ++ [UInt8.ofNat (48 + d)])) = negB (bts (c :: l)) := by
    rw [negB, negB, List.cons_append, head1_cons, head1_cons]
  have hdv := dig_nat hd
  rw [(doc_res _).2, er] at h0
  have ha : allD (bts r) = true := by
    cases ha : allD (bts r)
    · simp [resE, ha] at h0
    · rfl
  rw [allD_list] at ha
  simp only [Bool.and_eq_true] at ha
  obtain ⟨ha, hne⟩ := ha
  have hne : r ≠ [] := by intro k; rw [k] at hne; simp at hne
  have hx : nL r ≤ 2147483647 := by
    by_cases hx : nL r ≤ 2147483647
    · exact hx
    · rw [(res_far r false ha hne hx).2] at h0; omega
  have hx0 : 0 ≤ nL r := by
    have hg : ∀ j, 0 ≤ j → j < r.length → dgt (bts r) j = true := fun j _ hj => by
      rw [dgt_list r j hj]; exact List.all_eq_true.1 ha _ (List.getElem_mem hj)
    have := (num_le (bts r) 0 r.length hg).1
    rw [num_list r _ (Nat.le_refl _), List.take_length] at this
    exact this
  have ha2 : (r ++ [UInt8.ofNat (48 + d)]).all dg1 = true := by
    simp only [List.all_append, ha, List.all_cons, List.all_nil, dg1_dig hd]; rfl
  have hs := nL_snoc r (UInt8.ofNat (48 + d))
  rw [hdv] at hs
  refine ⟨nL r, hx0, hx, ?_, ?_⟩
  · rw [(doc_res _).1, er, (res_list r _ ha hne hx).1]
  · rw [(doc_res (bts (c :: l ++ [UInt8.ofNat (48 + d)]))).1, (doc_res (bts (c :: l ++ [UInt8.ofNat (48 + d)]))).2, er2, en]
    by_cases hb : 10 * nL r + d ≤ 2147483647
    · have e : nL (r ++ [UInt8.ofNat (48 + d)]) = 10 * nL r + d := by rw [hs]; unfold mn2; split <;> omega
      have q := res_list _ (negB (bts (c :: l))) ha2 (by simp) (by rw [e]; exact hb)
      exact .inl ⟨hb, by rw [q.1, e], q.2⟩
    · have e : nL (r ++ [UInt8.ofNat (48 + d)]) = 2147483648 := by rw [hs]; unfold mn2; split <;> omega
      have q := res_far _ (negB (bts (c :: l))) ha2 (by simp) (by rw [e]; decide)
      exact .inr ⟨by omega, q.1, q.2⟩

end Go.Proofs.YtnhieokegidibaaDoor
