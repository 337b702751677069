/-
  TEXTS OF INTEGERS: what Print of package integer returns, and the document's own answer.
-/
import Derived.Test.YtnhieokegidibaaDoorParse
import Derived.Test.YtnhieokegidibaaDoorShelf
import Derived.Lib.ItoaLen
import Derived.Lib.AppendIntMem

namespace Go.Proofs.YtnhieokegidibaaDoor
open Go.RowKit

/-- the text of an integer, and the error -/
def prS (n : Int) : ByteArray := if vld n then ⟨(Lib.itoa n).toArray⟩ else ⟨#[]⟩
def prE (n : Int) : Int := if vld n then 0 else 1
abbrev pairS (s : ByteArray) (e : Int) : Value := .tuple #[.string s, .int .i64 e]
abbrev Tab (w : World) : Prop := Lib.TabIs Tryd.prog w "internal/strconv.uint64pow10" .u64 Lib.pow10Tab

theorem rvalid_is {n : Int} {b : Bool} (h : vld n = b) (w : World) :
    Calls Tryd.prog 16 #[.int .i64 n] w fun e' w' => e' = .returned (.bool b) ∧ w = w' := by
  subst h
  exact rvalid_any n w

theorem print_any (n : Int) (w : World) (htab : Tab w) :
    Calls Tryd.prog 7 #[.int .i64 n] w fun e w' => e = .returned (pairS (prS n) (prE n)) ∧ Below w.heap.size w w' := by
  cases hv : vld n
  · have H := Lib.hid (show prS n = ⟨#[]⟩ ∧ prE n = 1 from by simp [prS, prE, hv])
    have HV := Lib.hid hv
    clear hv
    go_enter Tryd.func7, Tryd.ntmps7
    go_wp2_with fail
    refine (valid_is HV.out _).mono ?_
    rintro e w' ⟨rfl, rfl⟩
    go_wp2_with fail
    go_ret2
    exact ⟨by rw [H.out.1, H.out.2]; rfl, Below.refl _ _⟩
  · have H := Lib.hid (show prS n = ⟨(Lib.itoa n).toArray⟩ ∧ prE n = 0 from by simp [prS, prE, hv])
    have ⟨h1, h2⟩ := vld_iff.1 hv
    have HV := Lib.hid hv
    clear hv
    go_enter Tryd.func7, Tryd.ntmps7
    go_wp2_with fail
    refine (valid_is HV.out _).mono ?_
    rintro e w' ⟨rfl, rfl⟩
    go_wp2_with fail
    refine (Tryd.strconv_Itoa n (by omega) (by omega) _ htab).mono ?_
    rintro e w' ⟨rfl, k, os, rfl⟩
    go_wp2_with fail
    go_ret2
    exact ⟨by rw [H.out.1, H.out.2]; rfl, Lib.below_grow _ _ (Nat.le_refl _) _ _⟩

theorem rprint_any (n : Int) (w : World) (htab : Tab w) :
    Calls Tryd.prog 8 #[.int .i64 n] w fun e w' => e = .returned (pairS (prS n) (prE n)) ∧ Below w.heap.size w w' := by
  cases hv : vld n
  · have H := Lib.hid (show prS n = ⟨#[]⟩ ∧ prE n = 1 from by simp [prS, prE, hv])
    have HV := Lib.hid hv
    clear hv
    go_enter Tryd.func8, Tryd.ntmps8
    go_wp2_with fail
    refine (rvalid_is HV.out _).mono ?_
    rintro e w' ⟨rfl, rfl⟩
    go_wp2_with fail
    go_ret2
    exact ⟨by rw [H.out.1, H.out.2]; rfl, Below.refl _ _⟩
  · have H := Lib.hid (show prS n = ⟨(Lib.itoa n).toArray⟩ ∧ prE n = 0 from by simp [prS, prE, hv])
    have ⟨h1, h2⟩ := vld_iff.1 hv
    have HV := Lib.hid hv
    clear hv
    go_enter Tryd.func8, Tryd.ntmps8
    go_wp2_with fail
    refine (rvalid_is HV.out _).mono ?_
    rintro e w' ⟨rfl, rfl⟩
    go_wp2_with fail
    refine (Tryd.strconv_Itoa n (by omega) (by omega) _ htab).mono ?_
    rintro e w' ⟨rfl, k, os, rfl⟩
    go_wp2_with fail
    go_ret2
    exact ⟨by rw [H.out.1, H.out.2]; rfl, Lib.below_grow _ _ (Nat.le_refl _) _ _⟩

end Go.Proofs.YtnhieokegidibaaDoor
