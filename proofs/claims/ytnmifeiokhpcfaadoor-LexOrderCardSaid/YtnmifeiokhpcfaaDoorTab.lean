/-
  THE LISTS OF STRINGS THAT START-UP CODE LAYS: from the card's condition to the walk's fact.
-/
import Derived.Test.YtnmifeiokhpcfaaDoorLex7
import Derived.Deep.Strs
import Derived.LaidMore
import Derived.Lib.LaidTab

namespace Go.Proofs.YtnmifeiokhpcfaaDoor
open Go.RowKit
set_option linter.unusedVariables false

def strData (l : List ByteArray) : DataW Unit := .slice (l.map fun s => .lit (.string s.data.toList)) []
theorem tab_of_head {P : Program} {W : World} {name : String} {l : List ByteArray} {rest : List (String × DataW Unit)} {g : Nat} {t e : TypeId}
    (hg : P.globalNamed name = some g) (hty : (P.globals[g]?).map (·.type) = some t) (ht : P.underlying t = some (.slice e)) (he : P.underlying e = some .string) (hce : P.cellsOf e = 1) (hpos : 0 < l.length)
    (h : laidMet P ((name, strData l) :: rest) W) : TabAt W W.heap.size g l := by
  obtain ⟨ps, ⟨g', t', cs, fuel, p, q, hg', ht', hvar, hd, _, _⟩, _⟩ := h
  obtain rfl := Option.some.inj (hg.symm.trans hg')
  obtain rfl := Option.some.inj (hty.symm.trans ht')
  have hc0 := World.var?_cell hg hvar 0
  rcases Go.Deep.open_strs ht he hce hd with ⟨_, hx⟩ | ⟨a, len, cap, m, Sx, hcs, _, hlen, hcap, hm, hx, hcell⟩
  · simp [strData] at hx
  · simp only [strData, Prod.mk.injEq, DataW.slice.injEq] at hx
    obtain ⟨⟨h1, _⟩, _⟩ := hx
    have hl : len = l.length := by
      have := congrArg List.length h1
      simpa using this.symm
    subst hl
    have hml : l.length ≤ m := by rw [hm]; split <;> omega
    have hS : ∀ i, i < l.length → Sx i = l.getD i ByteArray.empty := by
      intro i hi
      have h2 := congrArg (fun x => x[i]?) h1
      simp [List.getElem?_eq_getElem hi, hi] at h2
      have h3 : l[i].data = (Sx i).data := h2
      have h4 : l[i] = Sx i := by
        cases hq : l[i]
        cases hr : Sx i
        rw [hq, hr] at h3
        simp at h3
        rw [h3]
      simp [List.getD, hi, h4]
    obtain ⟨ab, ao, asp⟩ := a
    have hsp : asp = none := by
      have h5 := (hcell 0 (by omega)).1
      cases asp with
      | none => rfl
      | some x =>
        simp [Addr.add, World.cell?] at h5
        split at h5 <;> simp at h5
    subst hsp
    refine ⟨ab, ao, cap, ?_, ?_, ?_, ?_⟩
    · rw [hc0]
      have : cs[0]? = cs.toList[0]? := by simp
      rw [this, hcs]
      rfl
    · intro j hj
      have h6 := (hcell j (by omega)).1
      rw [hS j hj] at h6
      have h7 : (⟨ab, ao, none⟩ : Addr).add j = ⟨ab, ao + j, none⟩ := by unfold Addr.add; split <;> simp_all
      rw [h7] at h6
      exact h6
    · exact World.block_lt_of_cell? W ⟨g, 0, none⟩ (by rw [hc0]; have : cs[0]? = cs.toList[0]? := by simp
                                                       rw [this, hcs]; rfl)
    · have h6 := (hcell 0 (by omega)).1
      exact World.block_lt_of_cell? W _ h6

end Go.Proofs.YtnmifeiokhpcfaaDoor
