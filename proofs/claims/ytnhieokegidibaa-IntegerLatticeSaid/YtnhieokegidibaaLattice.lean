/- SpanMeet and SpanJoin of package integer are meet and join of sets of integers, for all three spans and every integer. No condition. -/
import Derived.Test.YtnhieokegidibaaRows
import Derived.Test.YtnhieokegidibaaLatticeW
import Derived.WalkKit
import Derived.ProofKit
import Derived.OpenShut
import Derived.ShutString
import Derived.ChangeOld
import Derived.Below
import Derived.Lib.SmallJoins
namespace Go.Proofs.Ytnhieokegidibaa.integerLattice
open Go.ChangeShapes Go.WideShapes Go.ChangeAt Go.RowKit Go.Joins
open Go.ChangeMaps (open_string shut_string)
set_option linter.unusedVariables false

theorem own : ownKnob Try.prog.godebug = none := by kernel_rfl
theorem laidOut : laidOutB Try.prog = true := by kernel_rfl

theorem walk (l0 u0 : Int) (l1 u1 : Int) (l2 u2 : Int) (a3 : Int) (w : World) (wl0 : (Lit.int .i64 l0).wf = true) (wu0 : (Lit.int .i64 u0).wf = true) (wl1 : (Lit.int .i64 l1).wf = true) (wu1 : (Lit.int .i64 u1).wf = true) (wl2 : (Lit.int .i64 l2).wf = true) (wu2 : (Lit.int .i64 u2).wf = true) (w3 : (Lit.int .i64 a3).wf = true) :
    Calls Try.prog 6 #[.agg #[.int .i64 l0, .int .i64 u0], .agg #[.int .i64 l1, .int .i64 u1], .agg #[.int .i64 l2, .int .i64 u2], .int .i64 a3] w fun e w' => e = .returned (.bool true) ∧ Below w.heap.size w w' := by
  refine (run l0 u0 l1 u1 l2 u2 a3 w wl0 wu0 wl1 wu1 wl2 wu2 w3).mono fun e w' h => ?_
  exact ⟨h.1, h.2⟩

set_option maxRecDepth 100000 in
theorem lifted (os : Os) (started : os.Started) (H : Type) (enc : TypeId × Value → H) :
    ReturnsInHanded {} Try.checked os 6 .any (Rows.integerLatticeSpec.pre6 enc Try.prog Try.f6 Rows.integerLatticeRow.domain false) (Rows.integerLatticeSpec.post enc Try.prog Try.f6 false true false false) := by
  refine returnsInHanded_of_change (C := Try.checked) own started (by kernel_rfl) Try.func6
    (ChangeSpec.witness6 (enc := enc) (C := Try.checked) false ⟨#[], #[.agg #[.int .i64 0, .int .i64 0], .agg #[.int .i64 0, .int .i64 0], .agg #[.int .i64 0, .int .i64 0], .int .i64 0], []⟩ 8 (by kernel_rfl) (by kernel_rfl) (by kernel_rfl) (by kernel_rfl)) ?_
  intro W base args ds gs before hval0 hW hcnd _
  have hval : ∀ (j : Nat) t v, Try.f6.params[j]? = some t → args[j]? = some v → Value.okWide Try.prog W .any base t v := hval0
  have hW' := hW
  obtain ⟨p, q, hA0, hV, rfl, hfz, hnd⟩ := hW
  have hA : DataW.TrodAll enc Try.prog W 0 (fun _ => true) true Try.f6.params.toList args.toList ds p := hA0
  rw [Try.params6] at hA hval
  obtain ⟨v0, vs0, d0, ds0, p0, q0, hargs, rfl, rfl, h0, r0⟩ := trodAll_cons hA
  obtain ⟨v1, vs1, d1, ds1, p1, q1, rfl, rfl, rfl, h1, r1⟩ := trodAll_cons r0
  obtain ⟨v2, vs2, d2, ds2, p2, q2, rfl, rfl, rfl, h2, r2⟩ := trodAll_cons r1
  obtain ⟨v3, vs3, d3, ds3, p3, q3, rfl, rfl, rfl, h3, r3⟩ := trodAll_cons r2
  obtain ⟨rfl, rfl, rfl⟩ := trodAll_nil r3
  obtain rfl : args = #[v0, v1, v2, v3] := by cases args; simp_all
  obtain ⟨rfl, rfl⟩ := trodVars_none hV
  obtain ⟨c00, c01, y00, y01, m0, rfl, rfl, rfl, hy00, hy01⟩ := open_agg2 Try.underlying23 (by kernel_rfl) (by kernel_rfl : Try.prog.cellsOf 23 = 2) (hval 0 23 v0 rfl rfl) h0
  obtain ⟨l0, e00, rfl, wl0⟩ := DataW.trod_int Try.underlying3 hy00
  obtain ⟨u0, e01, rfl, wu0⟩ := DataW.trod_int Try.underlying3 hy01
  simp at e00 e01
  subst e00 e01
  obtain ⟨c10, c11, y10, y11, m1, rfl, rfl, rfl, hy10, hy11⟩ := open_agg2 Try.underlying23 (by kernel_rfl) (by kernel_rfl : Try.prog.cellsOf 23 = 2) (hval 1 23 v1 rfl rfl) h1
  obtain ⟨l1, e10, rfl, wl1⟩ := DataW.trod_int Try.underlying3 hy10
  obtain ⟨u1, e11, rfl, wu1⟩ := DataW.trod_int Try.underlying3 hy11
  simp at e10 e11
  subst e10 e11
  obtain ⟨c20, c21, y20, y21, m2, rfl, rfl, rfl, hy20, hy21⟩ := open_agg2 Try.underlying23 (by kernel_rfl) (by kernel_rfl : Try.prog.cellsOf 23 = 2) (hval 2 23 v2 rfl rfl) h2
  obtain ⟨l2, e20, rfl, wl2⟩ := DataW.trod_int Try.underlying3 hy20
  obtain ⟨u2, e21, rfl, wu2⟩ := DataW.trod_int Try.underlying3 hy21
  simp at e20 e21
  subst e20 e21
  obtain ⟨a3, rfl, rfl, rfl, w3⟩ := open_int Try.underlying3 (hval 3 3 v3 rfl rfl) h3
  clear hA0 hval0
  simp only [List.append_nil] at hW'
  refine (walk l0 u0 l1 u1 l2 u2 a3 W wl0 wu0 wl1 wu1 wl2 wu2 w3).mono fun e W' ⟨he, bel⟩ => ?_
  subst he
  exact ⟨_, rfl, _, _, _, [], [], [], hW', trodAll_mk1 (shut_bool Try.underlying4 _), (trodAll_cons_mk (shut_agg2 (y0 := (.lit (.int .i64 l0), [])) (y1 := (.lit (.int .i64 u0), [])) Try.underlying23 (by kernel_rfl) (by kernel_rfl : Try.prog.cellsOf 23 = 2) ⟨1, by simp [DataW.trod, Try.underlying3, wl0]⟩ ⟨1, by simp [DataW.trod, Try.underlying3, wu0]⟩) (trodAll_cons_mk (shut_agg2 (y0 := (.lit (.int .i64 l1), [])) (y1 := (.lit (.int .i64 u1), [])) Try.underlying23 (by kernel_rfl) (by kernel_rfl : Try.prog.cellsOf 23 = 2) ⟨1, by simp [DataW.trod, Try.underlying3, wl1]⟩ ⟨1, by simp [DataW.trod, Try.underlying3, wu1]⟩) (trodAll_cons_mk (shut_agg2 (y0 := (.lit (.int .i64 l2), [])) (y1 := (.lit (.int .i64 u2), [])) Try.underlying23 (by kernel_rfl) (by kernel_rfl : Try.prog.cellsOf 23 = 2) ⟨1, by simp [DataW.trod, Try.underlying3, wl2]⟩ ⟨1, by simp [DataW.trod, Try.underlying3, wu2]⟩) (trodAll_cons_mk (shut_int Try.underlying3 w3) trodAll_mk0)))), rfl, bel.frame _, fun h => by cases h⟩

theorem over : Rows.integerLatticeRow.holds Try.pinned (OpenSpec.ofChange Rows.integerLatticeSpec) :=
  OpenClaim.holds_of_wide 6 Try.f6 rfl rfl rfl rfl rfl rfl rfl ⟨rfl, rfl, rfl, rfl, rfl⟩ rfl rfl rfl rfl rfl (by kernel_rfl) Try.func6 (by kernel_rfl)
    (of_decide_eq_true (by kernel_rfl)) (by unfold Func.isWrapper; first | (rw [if_pos (by decide +kernel)]; kernel_rfl) | (rw [if_neg (by decide +kernel)]; exact ⟨rfl, rfl⟩))
    (fun os started H enc _ => lifted os started H enc)

theorem proved : Rows.IntegerLatticeSaid := over
#print axioms proved
end Go.Proofs.Ytnhieokegidibaa.integerLattice
