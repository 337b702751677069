/-
  PACKAGE real, numeric strings: exponents.
-/
import Derived.Test.YtbfknapmhkpgcaaGreatDoorNum0

namespace Go.Proofs.YtbfknapmhkpgcaaGreatDoor
open Go.RowKit
set_option linter.unusedVariables false

def exO (l : List UInt8) : Value := match expF l with | some e => .tuple #[.int .i64 e, .bool true] | none => .tuple #[.int .i64 0, .bool false]

theorem ne_iff (l : List UInt8) : (bs l).toList.isEmpty = l.isEmpty := by simp

theorem trim_len (l p : List UInt8) : (Lib.trimPrefix l p).length ≤ l.length := by
  unfold Lib.trimPrefix
  split
  · simp
  · exact Nat.le_refl _

theorem pre_pos (l : List UInt8) (c : UInt8) (h : Lib.hasPrefix l [c] = true) : 1 ≤ l.length := by
  cases l with
  | nil => simp [Lib.hasPrefix] at h
  | cons a l => simp

theorem bs_drop (l : List UInt8) (n : Nat) (h : n = l.length) : (bs l).extract 1 n = bs (l.drop 1) := by
  rw [Lib.extract_mk, List.take_of_length_le (by simp; omega)]

theorem hd_le (l : List UInt8) : (hdD l).length ≤ l.length := by have := hd_len l; omega

theorem bs_hd_dig (l : List UInt8) : ∀ (k : Nat) (h : k < (bs (hdD l)).size), 48 ≤ ((bs (hdD l))[k]'h).toNat ∧ ((bs (hdD l))[k]'h).toNat ≤ 57 := fun k h => hd_dig l k (by rw [bs_size] at h; exact h)

theorem exo_m (l : List UInt8) (w : World) (hl : l.length ≤ 9223372036854775807) (hne : l ≠ []) (hn : Lib.hasPrefix (Lib.trimPrefix l [101]) [45] = true) :
    Calls Tryz.prog 88 #[.string (bs l)] w fun q w' => q = .returned (exO l) ∧ Below w.heap.size w w' := by
  have hR : expR l = ((Lib.trimPrefix l [101]).drop 1) := by simp [expR, hn]
  cases hf : Lib.hasPrefix l [101]
  · have e : exO l = .tuple #[.int .i64 0, .bool false] := by simp [exO, expF, hne, hf]
    rw [e]
    exact ex_nof_m (bs l) (bs (Lib.trimPrefix l [101])) (bs ((Lib.trimPrefix l [101]).drop 1)) (bs (tlD ((Lib.trimPrefix l [101]).drop 1))) (bs (hdD ((Lib.trimPrefix l [101]).drop 1))) w (by rw [bs_size]; exact hl) (by rw [ne_iff]; simpa using hne) (Lib.hid (fun w => by have := Tryz.strings_CutPrefix (bs l) ⟨#[101]⟩ w; simp only [hf] at this; exact this)) (Lib.hid (fun w => by have := Tryz.strings_HasPrefix (bs (Lib.trimPrefix l [101])) ⟨#[45]⟩ w; simp only [hn] at this; exact this)) (by rw [bs_size]; exact pre_pos _ _ hn) (by rw [bs_size]; have := pre_pos _ _ hn; omega) (Lib.hid (bs_drop _ _ (bs_size _))) (Lib.hid (fun w => cut_d ((Lib.trimPrefix l [101]).drop 1) w (by have := trim_len l [101]; simp; omega)))
  · by_cases hd : hdD ((Lib.trimPrefix l [101]).drop 1) = []
    · have e : exO l = .tuple #[.int .i64 0, .bool false] := by unfold exO expF; rw [if_neg hne, hR, if_pos (Or.inr (Or.inl hd))]
      rw [e]
      exact ex_dem_m (bs l) (bs (Lib.trimPrefix l [101])) (bs ((Lib.trimPrefix l [101]).drop 1)) (bs (tlD ((Lib.trimPrefix l [101]).drop 1))) (bs (hdD ((Lib.trimPrefix l [101]).drop 1))) w (by rw [bs_size]; exact hl) (by rw [ne_iff]; simpa using hne) (Lib.hid (fun w => by have := Tryz.strings_CutPrefix (bs l) ⟨#[101]⟩ w; simp only [hf] at this; exact this)) (Lib.hid (fun w => by have := Tryz.strings_HasPrefix (bs (Lib.trimPrefix l [101])) ⟨#[45]⟩ w; simp only [hn] at this; exact this)) (by rw [bs_size]; exact pre_pos _ _ hn) (by rw [bs_size]; have := pre_pos _ _ hn; omega) (Lib.hid (bs_drop _ _ (bs_size _))) (Lib.hid (fun w => cut_d ((Lib.trimPrefix l [101]).drop 1) w (by have := trim_len l [101]; simp; omega))) (by rw [hd, ne_iff]; rfl)
    · by_cases ht : tlD ((Lib.trimPrefix l [101]).drop 1) = []
      · have e : exO l = .tuple #[.int .i64 (-(exV (hdD ((Lib.trimPrefix l [101]).drop 1)))), .bool true] := by unfold exO expF; rw [if_neg hne, hR, if_neg (by rw [hf]; intro q; rcases q with q | q | q <;> first | exact hd q | exact q ht | cases q), hn]; rfl
        rw [e]
        exact ex_ok_m (bs l) (bs (Lib.trimPrefix l [101])) (bs ((Lib.trimPrefix l [101]).drop 1)) (bs (tlD ((Lib.trimPrefix l [101]).drop 1))) (bs (hdD ((Lib.trimPrefix l [101]).drop 1))) w (by rw [bs_size]; exact hl) (by rw [ne_iff]; simpa using hne) (Lib.hid (fun w => by have := Tryz.strings_CutPrefix (bs l) ⟨#[101]⟩ w; simp only [hf] at this; exact this)) (Lib.hid (fun w => by have := Tryz.strings_HasPrefix (bs (Lib.trimPrefix l [101])) ⟨#[45]⟩ w; simp only [hn] at this; exact this)) (by rw [bs_size]; exact pre_pos _ _ hn) (by rw [bs_size]; have := pre_pos _ _ hn; omega) (Lib.hid (bs_drop _ _ (bs_size _))) (Lib.hid (fun w => cut_d ((Lib.trimPrefix l [101]).drop 1) w (by have := trim_len l [101]; simp; omega))) (by rw [ne_iff]; simpa using hd) (Lib.hid (bs_hd_dig _)) (by rw [bs_size]; have h1 := hd_le ((Lib.trimPrefix l [101]).drop 1); have h2 := trim_len l [101]; have h3 : ((Lib.trimPrefix l [101]).drop 1).length ≤ (Lib.trimPrefix l [101]).length := (by first | exact Nat.le_refl _ | (simp; done) | (simp; omega)); omega) (by rw [ht, ne_iff]; rfl)
      · have e : exO l = .tuple #[.int .i64 0, .bool false] := by unfold exO expF; rw [if_neg hne, hR, if_pos (Or.inr (Or.inr ht))]
        rw [e]
        exact ex_tne_m (bs l) (bs (Lib.trimPrefix l [101])) (bs ((Lib.trimPrefix l [101]).drop 1)) (bs (tlD ((Lib.trimPrefix l [101]).drop 1))) (bs (hdD ((Lib.trimPrefix l [101]).drop 1))) w (by rw [bs_size]; exact hl) (by rw [ne_iff]; simpa using hne) (Lib.hid (fun w => by have := Tryz.strings_CutPrefix (bs l) ⟨#[101]⟩ w; simp only [hf] at this; exact this)) (Lib.hid (fun w => by have := Tryz.strings_HasPrefix (bs (Lib.trimPrefix l [101])) ⟨#[45]⟩ w; simp only [hn] at this; exact this)) (by rw [bs_size]; exact pre_pos _ _ hn) (by rw [bs_size]; have := pre_pos _ _ hn; omega) (Lib.hid (bs_drop _ _ (bs_size _))) (Lib.hid (fun w => cut_d ((Lib.trimPrefix l [101]).drop 1) w (by have := trim_len l [101]; simp; omega))) (by rw [ne_iff]; simpa using hd) (by rw [ne_iff]; simpa using ht)

theorem exo_p (l : List UInt8) (w : World) (hl : l.length ≤ 9223372036854775807) (hne : l ≠ []) (hn : Lib.hasPrefix (Lib.trimPrefix l [101]) [45] = false) (hp : Lib.hasPrefix (Lib.trimPrefix l [101]) [43] = true) :
    Calls Tryz.prog 88 #[.string (bs l)] w fun q w' => q = .returned (exO l) ∧ Below w.heap.size w w' := by
  have hR : expR l = ((Lib.trimPrefix l [101]).drop 1) := by simp [expR, hn, hp]
  cases hf : Lib.hasPrefix l [101]
  · have e : exO l = .tuple #[.int .i64 0, .bool false] := by simp [exO, expF, hne, hf]
    rw [e]
    exact ex_nof_p (bs l) (bs (Lib.trimPrefix l [101])) (bs ((Lib.trimPrefix l [101]).drop 1)) (bs (tlD ((Lib.trimPrefix l [101]).drop 1))) (bs (hdD ((Lib.trimPrefix l [101]).drop 1))) w (by rw [bs_size]; exact hl) (by rw [ne_iff]; simpa using hne) (Lib.hid (fun w => by have := Tryz.strings_CutPrefix (bs l) ⟨#[101]⟩ w; simp only [hf] at this; exact this)) (Lib.hid (fun w => by have := Tryz.strings_HasPrefix (bs (Lib.trimPrefix l [101])) ⟨#[45]⟩ w; simp only [hn] at this; exact this)) (Lib.hid (fun w => by have := Tryz.strings_HasPrefix (bs (Lib.trimPrefix l [101])) ⟨#[43]⟩ w; simp only [hp] at this; exact this)) (by rw [bs_size]; exact pre_pos _ _ hp) (by rw [bs_size]; have := pre_pos _ _ hp; omega) (Lib.hid (bs_drop _ _ (bs_size _))) (Lib.hid (fun w => cut_d ((Lib.trimPrefix l [101]).drop 1) w (by have := trim_len l [101]; simp; omega)))
  · by_cases hd : hdD ((Lib.trimPrefix l [101]).drop 1) = []
    · have e : exO l = .tuple #[.int .i64 0, .bool false] := by unfold exO expF; rw [if_neg hne, hR, if_pos (Or.inr (Or.inl hd))]
      rw [e]
      exact ex_dem_p (bs l) (bs (Lib.trimPrefix l [101])) (bs ((Lib.trimPrefix l [101]).drop 1)) (bs (tlD ((Lib.trimPrefix l [101]).drop 1))) (bs (hdD ((Lib.trimPrefix l [101]).drop 1))) w (by rw [bs_size]; exact hl) (by rw [ne_iff]; simpa using hne) (Lib.hid (fun w => by have := Tryz.strings_CutPrefix (bs l) ⟨#[101]⟩ w; simp only [hf] at this; exact this)) (Lib.hid (fun w => by have := Tryz.strings_HasPrefix (bs (Lib.trimPrefix l [101])) ⟨#[45]⟩ w; simp only [hn] at this; exact this)) (Lib.hid (fun w => by have := Tryz.strings_HasPrefix (bs (Lib.trimPrefix l [101])) ⟨#[43]⟩ w; simp only [hp] at this; exact this)) (by rw [bs_size]; exact pre_pos _ _ hp) (by rw [bs_size]; have := pre_pos _ _ hp; omega) (Lib.hid (bs_drop _ _ (bs_size _))) (Lib.hid (fun w => cut_d ((Lib.trimPrefix l [101]).drop 1) w (by have := trim_len l [101]; simp; omega))) (by rw [hd, ne_iff]; rfl)
    · by_cases ht : tlD ((Lib.trimPrefix l [101]).drop 1) = []
      · have e : exO l = .tuple #[.int .i64 (exV (hdD ((Lib.trimPrefix l [101]).drop 1))), .bool true] := by unfold exO expF; rw [if_neg hne, hR, if_neg (by rw [hf]; intro q; rcases q with q | q | q <;> first | exact hd q | exact q ht | cases q), hn]; rfl
        rw [e]
        exact ex_ok_p (bs l) (bs (Lib.trimPrefix l [101])) (bs ((Lib.trimPrefix l [101]).drop 1)) (bs (tlD ((Lib.trimPrefix l [101]).drop 1))) (bs (hdD ((Lib.trimPrefix l [101]).drop 1))) w (by rw [bs_size]; exact hl) (by rw [ne_iff]; simpa using hne) (Lib.hid (fun w => by have := Tryz.strings_CutPrefix (bs l) ⟨#[101]⟩ w; simp only [hf] at this; exact this)) (Lib.hid (fun w => by have := Tryz.strings_HasPrefix (bs (Lib.trimPrefix l [101])) ⟨#[45]⟩ w; simp only [hn] at this; exact this)) (Lib.hid (fun w => by have := Tryz.strings_HasPrefix (bs (Lib.trimPrefix l [101])) ⟨#[43]⟩ w; simp only [hp] at this; exact this)) (by rw [bs_size]; exact pre_pos _ _ hp) (by rw [bs_size]; have := pre_pos _ _ hp; omega) (Lib.hid (bs_drop _ _ (bs_size _))) (Lib.hid (fun w => cut_d ((Lib.trimPrefix l [101]).drop 1) w (by have := trim_len l [101]; simp; omega))) (by rw [ne_iff]; simpa using hd) (Lib.hid (bs_hd_dig _)) (by rw [bs_size]; have h1 := hd_le ((Lib.trimPrefix l [101]).drop 1); have h2 := trim_len l [101]; have h3 : ((Lib.trimPrefix l [101]).drop 1).length ≤ (Lib.trimPrefix l [101]).length := (by first | exact Nat.le_refl _ | (simp; done) | (simp; omega)); omega) (by rw [ht, ne_iff]; rfl)
      · have e : exO l = .tuple #[.int .i64 0, .bool false] := by unfold exO expF; rw [if_neg hne, hR, if_pos (Or.inr (Or.inr ht))]
        rw [e]
        exact ex_tne_p (bs l) (bs (Lib.trimPrefix l [101])) (bs ((Lib.trimPrefix l [101]).drop 1)) (bs (tlD ((Lib.trimPrefix l [101]).drop 1))) (bs (hdD ((Lib.trimPrefix l [101]).drop 1))) w (by rw [bs_size]; exact hl) (by rw [ne_iff]; simpa using hne) (Lib.hid (fun w => by have := Tryz.strings_CutPrefix (bs l) ⟨#[101]⟩ w; simp only [hf] at this; exact this)) (Lib.hid (fun w => by have := Tryz.strings_HasPrefix (bs (Lib.trimPrefix l [101])) ⟨#[45]⟩ w; simp only [hn] at this; exact this)) (Lib.hid (fun w => by have := Tryz.strings_HasPrefix (bs (Lib.trimPrefix l [101])) ⟨#[43]⟩ w; simp only [hp] at this; exact this)) (by rw [bs_size]; exact pre_pos _ _ hp) (by rw [bs_size]; have := pre_pos _ _ hp; omega) (Lib.hid (bs_drop _ _ (bs_size _))) (Lib.hid (fun w => cut_d ((Lib.trimPrefix l [101]).drop 1) w (by have := trim_len l [101]; simp; omega))) (by rw [ne_iff]; simpa using hd) (by rw [ne_iff]; simpa using ht)

theorem exo_z (l : List UInt8) (w : World) (hl : l.length ≤ 9223372036854775807) (hne : l ≠ []) (hn : Lib.hasPrefix (Lib.trimPrefix l [101]) [45] = false) (hp : Lib.hasPrefix (Lib.trimPrefix l [101]) [43] = false) :
    Calls Tryz.prog 88 #[.string (bs l)] w fun q w' => q = .returned (exO l) ∧ Below w.heap.size w w' := by
  have hR : expR l = (Lib.trimPrefix l [101]) := by simp [expR, hn, hp]
  cases hf : Lib.hasPrefix l [101]
  · have e : exO l = .tuple #[.int .i64 0, .bool false] := by simp [exO, expF, hne, hf]
    rw [e]
    exact ex_nof_z (bs l) (bs (Lib.trimPrefix l [101])) (bs []) (bs (tlD (Lib.trimPrefix l [101]))) (bs (hdD (Lib.trimPrefix l [101]))) w (by rw [bs_size]; exact hl) (by rw [ne_iff]; simpa using hne) (Lib.hid (fun w => by have := Tryz.strings_CutPrefix (bs l) ⟨#[101]⟩ w; simp only [hf] at this; exact this)) (Lib.hid (fun w => by have := Tryz.strings_HasPrefix (bs (Lib.trimPrefix l [101])) ⟨#[45]⟩ w; simp only [hn] at this; exact this)) (Lib.hid (fun w => by have := Tryz.strings_HasPrefix (bs (Lib.trimPrefix l [101])) ⟨#[43]⟩ w; simp only [hp] at this; exact this)) (Lib.hid (fun w => cut_d (Lib.trimPrefix l [101]) w (by have := trim_len l [101]; simp; omega)))
  · by_cases hd : hdD (Lib.trimPrefix l [101]) = []
    · have e : exO l = .tuple #[.int .i64 0, .bool false] := by unfold exO expF; rw [if_neg hne, hR, if_pos (Or.inr (Or.inl hd))]
      rw [e]
      exact ex_dem_z (bs l) (bs (Lib.trimPrefix l [101])) (bs []) (bs (tlD (Lib.trimPrefix l [101]))) (bs (hdD (Lib.trimPrefix l [101]))) w (by rw [bs_size]; exact hl) (by rw [ne_iff]; simpa using hne) (Lib.hid (fun w => by have := Tryz.strings_CutPrefix (bs l) ⟨#[101]⟩ w; simp only [hf] at this; exact this)) (Lib.hid (fun w => by have := Tryz.strings_HasPrefix (bs (Lib.trimPrefix l [101])) ⟨#[45]⟩ w; simp only [hn] at this; exact this)) (Lib.hid (fun w => by have := Tryz.strings_HasPrefix (bs (Lib.trimPrefix l [101])) ⟨#[43]⟩ w; simp only [hp] at this; exact this)) (Lib.hid (fun w => cut_d (Lib.trimPrefix l [101]) w (by have := trim_len l [101]; simp; omega))) (by rw [hd, ne_iff]; rfl)
    · by_cases ht : tlD (Lib.trimPrefix l [101]) = []
      · have e : exO l = .tuple #[.int .i64 (exV (hdD (Lib.trimPrefix l [101]))), .bool true] := by unfold exO expF; rw [if_neg hne, hR, if_neg (by rw [hf]; intro q; rcases q with q | q | q <;> first | exact hd q | exact q ht | cases q), hn]; rfl
        rw [e]
        exact ex_ok_z (bs l) (bs (Lib.trimPrefix l [101])) (bs []) (bs (tlD (Lib.trimPrefix l [101]))) (bs (hdD (Lib.trimPrefix l [101]))) w (by rw [bs_size]; exact hl) (by rw [ne_iff]; simpa using hne) (Lib.hid (fun w => by have := Tryz.strings_CutPrefix (bs l) ⟨#[101]⟩ w; simp only [hf] at this; exact this)) (Lib.hid (fun w => by have := Tryz.strings_HasPrefix (bs (Lib.trimPrefix l [101])) ⟨#[45]⟩ w; simp only [hn] at this; exact this)) (Lib.hid (fun w => by have := Tryz.strings_HasPrefix (bs (Lib.trimPrefix l [101])) ⟨#[43]⟩ w; simp only [hp] at this; exact this)) (Lib.hid (fun w => cut_d (Lib.trimPrefix l [101]) w (by have := trim_len l [101]; simp; omega))) (by rw [ne_iff]; simpa using hd) (Lib.hid (bs_hd_dig _)) (by rw [bs_size]; have h1 := hd_le (Lib.trimPrefix l [101]); have h2 := trim_len l [101]; have h3 : (Lib.trimPrefix l [101]).length ≤ (Lib.trimPrefix l [101]).length := (by first | exact Nat.le_refl _ | (simp; done) | (simp; omega)); omega) (by rw [ht, ne_iff]; rfl)
      · have e : exO l = .tuple #[.int .i64 0, .bool false] := by unfold exO expF; rw [if_neg hne, hR, if_pos (Or.inr (Or.inr ht))]
        rw [e]
        exact ex_tne_z (bs l) (bs (Lib.trimPrefix l [101])) (bs []) (bs (tlD (Lib.trimPrefix l [101]))) (bs (hdD (Lib.trimPrefix l [101]))) w (by rw [bs_size]; exact hl) (by rw [ne_iff]; simpa using hne) (Lib.hid (fun w => by have := Tryz.strings_CutPrefix (bs l) ⟨#[101]⟩ w; simp only [hf] at this; exact this)) (Lib.hid (fun w => by have := Tryz.strings_HasPrefix (bs (Lib.trimPrefix l [101])) ⟨#[45]⟩ w; simp only [hn] at this; exact this)) (Lib.hid (fun w => by have := Tryz.strings_HasPrefix (bs (Lib.trimPrefix l [101])) ⟨#[43]⟩ w; simp only [hp] at this; exact this)) (Lib.hid (fun w => cut_d (Lib.trimPrefix l [101]) w (by have := trim_len l [101]; simp; omega))) (by rw [ne_iff]; simpa using hd) (by rw [ne_iff]; simpa using ht)

theorem ex_any (l : List UInt8) (w : World) (hl : l.length ≤ 9223372036854775807) :
    Calls Tryz.prog 88 #[.string (bs l)] w fun q w' => q = .returned (exO l) ∧ Below w.heap.size w w' := by
  by_cases hne : l = []
  · subst hne
    exact ex_nil w
  · cases hn : Lib.hasPrefix (Lib.trimPrefix l [101]) [45]
    · cases hp : Lib.hasPrefix (Lib.trimPrefix l [101]) [43]
      · exact exo_z l w hl hne hn hp
      · exact exo_p l w hl hne hn hp
    · exact exo_m l w hl hne hn

end Go.Proofs.YtbfknapmhkpgcaaGreatDoor
