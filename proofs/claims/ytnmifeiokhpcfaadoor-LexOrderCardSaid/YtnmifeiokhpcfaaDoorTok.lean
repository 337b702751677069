/-
  PACKAGE lex: tokens that came in; whether two are equal but for their offsets.
-/
import Derived.Test.YtnmifeiokhpcfaaDoorLex5

namespace Go.Proofs.YtnmifeiokhpcfaaDoor
open Go.RowKit
set_option linter.unusedVariables false

/-- a token with any offsets -/
structure To where
  kind : Int
  text : ByteArray
  n : Int
  man : Int
  ex : Int
  ofs : Int
  en : Int
abbrev To.val (t : To) : Value := .agg #[.int .i64 t.kind, .string t.text, .int .i64 t.n, .int .i64 t.man, .int .i64 t.ex, .int .i64 t.ofs, .int .i64 t.en]
/-- equal but for the offsets -/
def alikeT (a b : To) : Bool := a.kind == b.kind && (a.text.toList == b.text.toList && (a.n == b.n && (a.man == b.man && a.ex == b.ex)))

theorem equal_any (a b : To) (w : World) :
    Calls Tryd.prog 22 #[a.val, b.val] w fun r w' => r = .returned (.bool (alikeT a b)) ∧ Below w.heap.size w w' := by
  have B1 := Lib.hid (show ∀ o o', Below w.heap.size w ((w.alloc o).alloc o').drew from fun o o' => (((Below.refl _ _).alloc (Nat.le_refl _) _).alloc (by simp) _).drew)
  go_enter Tryd.func22, Tryd.ntmps22
  go_wp2_with fail
  go_region
  go_wp2_with fail
  all_goals (go_ret; exact ⟨by simp [alikeT, *], B1.out _ _⟩)

end Go.Proofs.YtnmifeiokhpcfaaDoor
