/-
  DERIVED. GIVEN WITH THE SEED: THE CARDS: each row of YtbfknapmhkpgcaaGreatDoorRows.lean that lists a variable, with what it lists TIED to the program's text (the seventh form; the later family's looks); each row that meets fmt, with fmt's text TOLD by the authors' own Lean function (tested against real Go, not proved from fmt's source: count such statements apart). THE CARD IS WHAT COUNTS. Prove the row's statement (the work); the ties are given (YtbfknapmhkpgcaaGreatDoorTie.lean); close each card by the builder's one call (the guide's Derived/Test/ToyasCard.lean, 'card_holds'). Laid BY PROGRAM, IN A SANDBOX (cutbox-door.mjs). By AI agents, Wed Nov 11 2026. No macro, syntax, notation, axiom, sorry.
-/
import Derived.Test.YtbfknapmhkpgcaaGreatDoorRows
import GoSem.ClaimSeven
namespace Go.Proofs.YtbfknapmhkpgcaaGreatDoor
namespace Rows

/-- THE TIED CARD OF 'manorboylaw02.RealNumbers'. -/
def realNumbersCard : Claim7 := { stood := { row := realNumbersRow, standIns := [], harness := (true, "c5380ad4a64f8ac0152d89c7b4d75f168de25b01cba284f9990c49c757d42e98"), looks := false }, kinds := [], alts := [], laidByText := true, laidKinds := [.data, .data, .data, .data, .data, .pinned], laidTests := true, laidLooks := .later }
def RealNumbersCardSaid : Prop := Claim7.holds Tryz.pinned (.plain (OpenSpec.ofChange realNumbersSpec)) realNumbersCard

/-- THE TIED CARD OF 'manorboylaw02.RealProducts'. -/
def realProductsCard : Claim7 := { stood := { row := realProductsRow, standIns := [], harness := (true, "c5380ad4a64f8ac0152d89c7b4d75f168de25b01cba284f9990c49c757d42e98"), looks := false }, kinds := [], alts := [], laidByText := true, laidKinds := [.data, .data, .data, .data, .data, .pinned], laidTests := true, laidLooks := .later }
def RealProductsCardSaid : Prop := Claim7.holds Tryz.pinned (.plain (OpenSpec.ofChange realProductsSpec)) realProductsCard

/-- THE TIED CARD OF 'manorboylaw02.RealAlgebra'. -/
def realAlgebraCard : Claim7 := { stood := { row := realAlgebraRow, standIns := [], harness := (true, "c5380ad4a64f8ac0152d89c7b4d75f168de25b01cba284f9990c49c757d42e98"), looks := false }, kinds := [], alts := [], laidByText := true, laidKinds := [.data, .data, .data, .data, .data, .pinned], laidTests := true, laidLooks := .later }
def RealAlgebraCardSaid : Prop := Claim7.holds Tryz.pinned (.plain (OpenSpec.ofChange realAlgebraSpec)) realAlgebraCard

/-- THE TIED CARD OF 'manorboylaw02.RealPowerLaws'. -/
def realPowerLawsCard : Claim7 := { stood := { row := realPowerLawsRow, standIns := [], harness := (true, "c5380ad4a64f8ac0152d89c7b4d75f168de25b01cba284f9990c49c757d42e98"), looks := false }, kinds := [], alts := [], laidByText := true, laidKinds := [.data, .data, .data, .data, .data, .pinned], laidTests := true, laidLooks := .later }
def RealPowerLawsCardSaid : Prop := Claim7.holds Tryz.pinned (.plain (OpenSpec.ofChange realPowerLawsSpec)) realPowerLawsCard

/-- THE SECOND FORM's CARD OF 'manorboylaw02.RealNumbers'. -/
def realNumbersUptoCard : Claim7 := { stood := { row := realNumbersUptoRow, standIns := [], harness := (true, "c5380ad4a64f8ac0152d89c7b4d75f168de25b01cba284f9990c49c757d42e98"), looks := false }, kinds := [], alts := [], laidByText := true, laidKinds := [.data, .data, .data, .data, .data, .pinned], laidTests := true, laidLooks := .later }
def RealNumbersUptoCardSaid : Prop := Claim7.holds Tryz.pinned (.plain (OpenSpec.upto realNumbersSpec)) realNumbersUptoCard

/-- THE SECOND FORM's CARD OF 'manorboylaw02.RealProducts'. -/
def realProductsUptoCard : Claim7 := { stood := { row := realProductsUptoRow, standIns := [], harness := (true, "c5380ad4a64f8ac0152d89c7b4d75f168de25b01cba284f9990c49c757d42e98"), looks := false }, kinds := [], alts := [], laidByText := true, laidKinds := [.data, .data, .data, .data, .data, .pinned], laidTests := true, laidLooks := .later }
def RealProductsUptoCardSaid : Prop := Claim7.holds Tryz.pinned (.plain (OpenSpec.upto realProductsSpec)) realProductsUptoCard

/-- THE SECOND FORM's CARD OF 'manorboylaw02.RealAlgebra'. -/
def realAlgebraUptoCard : Claim7 := { stood := { row := realAlgebraUptoRow, standIns := [], harness := (true, "c5380ad4a64f8ac0152d89c7b4d75f168de25b01cba284f9990c49c757d42e98"), looks := false }, kinds := [], alts := [], laidByText := true, laidKinds := [.data, .data, .data, .data, .data, .pinned], laidTests := true, laidLooks := .later }
def RealAlgebraUptoCardSaid : Prop := Claim7.holds Tryz.pinned (.plain (OpenSpec.upto realAlgebraSpec)) realAlgebraUptoCard

/-- THE SECOND FORM's CARD OF 'manorboylaw02.RealPowerLaws'. -/
def realPowerLawsUptoCard : Claim7 := { stood := { row := realPowerLawsUptoRow, standIns := [], harness := (true, "c5380ad4a64f8ac0152d89c7b4d75f168de25b01cba284f9990c49c757d42e98"), looks := false }, kinds := [], alts := [], laidByText := true, laidKinds := [.data, .data, .data, .data, .data, .pinned], laidTests := true, laidLooks := .later }
def RealPowerLawsUptoCardSaid : Prop := Claim7.holds Tryz.pinned (.plain (OpenSpec.upto realPowerLawsSpec)) realPowerLawsUptoCard
end Rows
end Go.Proofs.YtbfknapmhkpgcaaGreatDoor
