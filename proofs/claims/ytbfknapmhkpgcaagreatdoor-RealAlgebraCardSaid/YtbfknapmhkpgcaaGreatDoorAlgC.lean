/-
  RealAlgebra: small lemmas.
-/
import Derived.Test.YtbfknapmhkpgcaaGreatDoorSanH

namespace Go.Proofs.YtbfknapmhkpgcaaGreatDoor.realAlgebra
open Go.RowKit
set_option linter.unusedVariables false

theorem carry_two {wa wq : World} {T : TypeId} (h : Below (wa.alloc (.cells #[.int .i64 0, .int .i64 0] T)).drew.heap.size (wa.alloc (.cells #[.int .i64 0, .int .i64 0] T)).drew wq) :
    wq.cell? ⟨wa.heap.size, 0, none⟩ = some (.int .i64 0) ∧ wq.cell? ⟨wa.heap.size, 1, none⟩ = some (.int .i64 0) ∧ wq.frozen? ⟨wa.heap.size, 0, none⟩ = false ∧ wq.frozen? ⟨wa.heap.size, 1, none⟩ = false ∧ wa.heap.size < wq.heap.size :=
  ⟨carry h (by go_simp), carry h (by go_simp), carryF h (v := .int .i64 0) (by go_simp) (by go_simp), carryF h (v := .int .i64 0) (by go_simp) (by go_simp), by have := h.size; simp at this; omega⟩

theorem carry_two' {wa wq : World} {T : TypeId} (h : Below (wa.alloc (.cells #[.int .i64 0, .int .i64 0] T)).heap.size (wa.alloc (.cells #[.int .i64 0, .int .i64 0] T)) wq) :
    wq.cell? ⟨wa.heap.size, 0, none⟩ = some (.int .i64 0) ∧ wq.cell? ⟨wa.heap.size, 1, none⟩ = some (.int .i64 0) ∧ wq.frozen? ⟨wa.heap.size, 0, none⟩ = false ∧ wq.frozen? ⟨wa.heap.size, 1, none⟩ = false ∧ wa.heap.size < wq.heap.size :=
  ⟨carry h (by go_simp), carry h (by go_simp), carryF h (v := .int .i64 0) (by go_simp) (by go_simp), carryF h (v := .int .i64 0) (by go_simp) (by go_simp), by have := h.size; simp at this; omega⟩

end Go.Proofs.YtbfknapmhkpgcaaGreatDoor.realAlgebra
