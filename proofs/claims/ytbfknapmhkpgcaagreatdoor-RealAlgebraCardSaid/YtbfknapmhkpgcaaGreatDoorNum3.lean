/-
  PACKAGE real, numeric strings: taken apart, any string; scaled by any exponent.
-/
import Derived.Test.YtbfknapmhkpgcaaGreatDoorNum2

namespace Go.Proofs.YtbfknapmhkpgcaaGreatDoor
open Go.RowKit
set_option linter.unusedVariables false

def numF (l : List UInt8) : Option (Bool × List UInt8 × Int) :=
  if 60 < l.length ∨ hdD (Lib.trimPrefix l [45]) = [] then none
  else if Lib.hasPrefix (tlD (Lib.trimPrefix l [45])) [46] then
    if hdD (Lib.trimPrefix (tlD (Lib.trimPrefix l [45])) [46]) = [] then none
    else match expF (tlD (Lib.trimPrefix (tlD (Lib.trimPrefix l [45])) [46])) with
      | none => none
      | some e => some (Lib.hasPrefix l [45], Lib.trimLeftB (hdD (Lib.trimPrefix l [45]) ++ hdD (Lib.trimPrefix (tlD (Lib.trimPrefix l [45])) [46])) 48, e - ((hdD (Lib.trimPrefix (tlD (Lib.trimPrefix l [45])) [46])).length : Int))
  else match expF (tlD (Lib.trimPrefix l [45])) with
    | none => none
    | some e => some (Lib.hasPrefix l [45], Lib.trimLeftB (hdD (Lib.trimPrefix l [45])) 48, e)

def numV (l : List UInt8) : Value := match numF l with
  | some (n, d, e) => .tuple #[.agg #[.bool n, .string (bs d), .int .i64 e], .bool true]
  | none => .tuple #[.agg #[.bool false, .string ⟨#[]⟩, .int .i64 0], .bool false]

theorem tl_le (l : List UInt8) : (tlD l).length ≤ l.length := by have := hd_len l; omega

theorem expF_bd (l : List UInt8) (e : Int) (h : expF l = some e) : -1000 ≤ e ∧ e ≤ 1000 := by
  unfold expF at h
  split at h
  · cases h
    decide
  · split at h
    · cases h
    · have := exV_bd (hdD (expR l)) 0 (by decide) (by decide)
      change 0 ≤ exV _ ∧ exV _ ≤ 1000 at this
      split at h <;> cases h <;> omega

theorem exO_some {l : List UInt8} {e : Int} (h : expF l = some e) : exO l = .tuple #[.int .i64 e, .bool true] := by unfold exO; rw [h]

theorem exO_none {l : List UInt8} (h : expF l = none) : exO l = .tuple #[.int .i64 0, .bool false] := by unfold exO; rw [h]

theorem bs_append (a b : List UInt8) : bs a ++ bs b = bs (a ++ b) := by
  apply ByteArray.ext
  simp

theorem add_run (a b : List UInt8) (h : a.length + b.length ≤ 9223372036854775807) (w : World) : (Op.stringOp .add (bs a) (bs b)).run Tryz.prog w = .ok (.string (bs (a ++ b))) w := by
  have h2 : ¬ ((((bs a).size + (bs b).size : Nat) : Int) > IntKind.i64.max) := by
    rw [bs_size, bs_size]
    have : IntKind.i64.max = 9223372036854775807 := by rfl
    omega
  unfold Op.stringOp
  simp only [h2, if_false]
  rw [bs_append]
  rfl

set_option maxRecDepth 100000 in
theorem nof_any (l : List UInt8) (w : World) (hl : l.length ≤ 9223372036854775807) :
    Calls Tryz.prog 75 #[.string (bs l)] w fun q w' => q = .returned (numV l) ∧ Below w.heap.size w w' := by
  obtain ⟨r0, hr0⟩ : ∃ r0, Lib.trimPrefix l [45] = r0 := ⟨_, rfl⟩
  have l0 : r0.length ≤ l.length := by rw [← hr0]; exact trim_len l [45]
  have H1 : Hid (∀ w, Calls Tryz.prog 86 #[.string (bs l), .string ⟨#[45]⟩] w fun e w' => e = .returned (.tuple #[.string (bs r0), .bool (Lib.hasPrefix l [45])]) ∧ w' = w) := Lib.hid (fun w => by have := Tryz.strings_CutPrefix (bs l) ⟨#[45]⟩ w; rw [hr0] at this; exact this)
  have H2 := Lib.hid (fun w : World => cut_d r0 w (by omega))
  have l1 := tl_le r0
  unfold numV numF
  rw [hr0]
  by_cases hs : 60 < l.length
  · rw [if_pos (Or.inl hs)]
    exact nof_long_f (bs l) (bs r0) _ _ (bs []) (bs []) (bs []) (bs []) (bs []) _ 0 w H1 H2 (by rw [bs_size]; omega)
  · by_cases hw : hdD r0 = []
    · rw [if_pos (Or.inr hw)]
      exact nof_empty_f (bs l) (bs r0) _ _ (bs []) (bs []) (bs []) (bs []) (bs []) _ 0 w H1 H2 (by rw [bs_size]; omega) (by rw [hw, ne_iff]; rfl)
    · rw [if_neg (by intro q; rcases q with q | q; exact hs q; exact hw q)]
      have hw2 : (bs (hdD r0)).toList.isEmpty = false := by rw [ne_iff]; simpa using hw
      have hs2 : ((bs l).size : Int) ≤ 60 := by rw [bs_size]; omega
      have l2 := hd_le r0
      obtain ⟨r1, hr1⟩ : ∃ r1, tlD r0 = r1 := ⟨_, rfl⟩
      rw [hr1] at H2 l1 ⊢
      obtain ⟨a, ha⟩ : ∃ a, Lib.trimPrefix r1 [46] = a := ⟨_, rfl⟩
      have l3 : a.length ≤ r1.length := by rw [← ha]; exact trim_len r1 [46]
      have l4 := hd_le a
      have l5 := tl_le a
      cases hf : Lib.hasPrefix r1 [46]
      · have H3 : Hid (∀ w, Calls Tryz.prog 86 #[.string (bs r1), .string ⟨#[46]⟩] w fun e w' => e = .returned (.tuple #[.string (bs a), .bool false]) ∧ w' = w) := Lib.hid (fun w => by have := Tryz.strings_CutPrefix (bs r1) ⟨#[46]⟩ w; simp only [ha, hf] at this; exact this)
        simp only [Bool.false_eq_true, if_false]
        cases he : expF r1 with
        | none => exact nof_bad_f (bs l) (bs r0) _ (bs r1) (bs a) (bs []) (bs []) (bs []) (bs []) _ 0 w H1 H2 hs2 hw2 H3 (Lib.hid fun w => by have := ex_any r1 w (by omega); rwa [exO_none he] at this)
        | some e =>
          obtain ⟨b1, b2⟩ := expF_bd r1 e he
          exact nof_ok_f (bs l) (bs r0) _ (bs r1) (bs a) (bs []) (bs []) (bs (hdD r0)) (bs (Lib.trimLeftB (hdD r0) 48)) _ e w H1 H2 hs2 hw2 H3 (Lib.hid fun w => by have := ex_any r1 w (by omega); rwa [exO_some he] at this) (fun w => by have := add_run (hdD r0) [] (by simp; omega) w; rwa [List.append_nil] at this) (Lib.hid fun w => Tryz.strings_TrimLeft_one (bs (hdD r0)) 48 (by decide) w) b1 b2 0
      · have H3 : Hid (∀ w, Calls Tryz.prog 86 #[.string (bs r1), .string ⟨#[46]⟩] w fun e w' => e = .returned (.tuple #[.string (bs a), .bool true]) ∧ w' = w) := Lib.hid (fun w => by have := Tryz.strings_CutPrefix (bs r1) ⟨#[46]⟩ w; simp only [ha, hf] at this; exact this)
        have H4 := Lib.hid (fun w : World => cut_d a w (by omega))
        rw [ha]
        simp only [if_true]
        by_cases hfr : hdD a = []
        · rw [if_pos hfr]
          exact nof_nofr_t (bs l) (bs r0) _ (bs r1) (bs a) _ _ (bs []) (bs []) _ 0 w H1 H2 hs2 hw2 H3 H4 (by rw [hfr, ne_iff]; rfl)
        · rw [if_neg hfr]
          have hfr2 : (bs (hdD a)).toList.isEmpty = false := by rw [ne_iff]; simpa using hfr
          cases he : expF (tlD a) with
          | none => exact nof_bad_t (bs l) (bs r0) _ (bs r1) (bs a) _ _ (bs []) (bs []) _ 0 w H1 H2 hs2 hw2 H3 H4 hfr2 (Lib.hid fun w => by have := ex_any (tlD a) w (by omega); rwa [exO_none he] at this)
          | some e =>
            obtain ⟨b1, b2⟩ := expF_bd (tlD a) e he
            exact nof_ok_t (bs l) (bs r0) _ (bs r1) (bs a) _ _ (bs (hdD r0 ++ hdD a)) (bs (Lib.trimLeftB (hdD r0 ++ hdD a) 48)) _ e w H1 H2 hs2 hw2 H3 H4 hfr2 (Lib.hid fun w => by have := ex_any (tlD a) w (by omega); rwa [exO_some he] at this) (fun w => add_run (hdD r0) (hdD a) (by omega) w) (Lib.hid fun w => Tryz.strings_TrimLeft_one (bs (hdD r0 ++ hdD a)) 48 (by decide) w) b1 b2 (hdD a).length (bs_size _) (by omega)

/-- what scaled returns -/
def scM (V : Nat) (e : Int) : Int := if 0 ≤ e then ldM (V * 10 ^ e.toNat) false else ldM (V / 10 ^ (-e).toNat) (decide (V % 10 ^ (-e).toNat ≠ 0))

def scE (V : Nat) (e : Int) : Int := if 0 ≤ e then ldE (V * 10 ^ e.toNat) else ldE (V / 10 ^ (-e).toNat)

theorem sc_any (V : Nat) (e : Int) (w : World) (hT : P10 w) (h1 : -2000 ≤ e) (h2 : e ≤ 2000) (hV : V < BB ^ 7) (hV2 : 0 ≤ e → V * 10 ^ e.toNat < BB ^ 7) (HDiv : Hid (∀ s, s ≤ 19 → DivOk (10 ^ s))) :
    Calls Tryz.prog 91 #[digV V, .int .i64 e] w fun r w' => r = .returned (realV (scM V e) (scE V e)) ∧ Below w.heap.size w w' := by
  unfold scM scE
  by_cases h : 0 ≤ e
  · rw [if_pos h, if_pos h]
    have := scp_any V e.toNat w hT (by omega) (hV2 h)
    rwa [show ((e.toNat : Nat) : Int) = e from by omega] at this
  · rw [if_neg h, if_neg h]
    have := scn_any V (-e).toNat w hT (by omega) (by omega) hV HDiv
    rwa [show -(((-e).toNat : Nat) : Int) = e from by omega] at this

theorem stk_abs (m : Nat) (t : Bool) (h : m < 4611686018427387904) : 0 ≤ stk (m : Int) t ∧ stk (m : Int) t ≤ 9223372036854775807 := by
  have := stk_bd (m : Int) t
  omega

theorem ldM_bd (V : Nat) (t : Bool) (h : V < BB ^ 7) : 0 ≤ ldM V t ∧ ldM V t ≤ 9223372036854775807 ∧ -193 ≤ ldE V ∧ ldE V ≤ 193 := by
  obtain ⟨b1, b2⟩ := ld_bd V h
  obtain ⟨c1, c2⟩ := stk_abs (V / 2 ^ ldF V) (decide (V % 2 ^ ldF V ≠ 0) || t) b1
  refine ⟨c1, c2, ?_, ?_⟩ <;> unfold ldE <;> omega

theorem sc_bd (V : Nat) (e : Int) (hV : V < BB ^ 7) (hV2 : 0 ≤ e → V * 10 ^ e.toNat < BB ^ 7) : 0 ≤ scM V e ∧ scM V e ≤ 9223372036854775807 ∧ -193 ≤ scE V e ∧ scE V e ≤ 193 := by
  unfold scM scE
  by_cases h : 0 ≤ e
  · rw [if_pos h, if_pos h]
    exact ldM_bd _ _ (hV2 h)
  · rw [if_neg h, if_neg h]
    exact ldM_bd _ _ (Nat.lt_of_le_of_lt (Nat.div_le_self _ _) hV)

end Go.Proofs.YtbfknapmhkpgcaaGreatDoor
