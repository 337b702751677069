/-
  DERIVED. GIVEN WITH THE SEED: THE CARDS: each row of YtoofdihnflnaiaaGreatDoorRows.lean that lists a variable, with what it lists TIED to the program's text (the seventh form; the later family's looks); each row that meets fmt, with fmt's text TOLD by the authors' own Lean function (tested against real Go, not proved from fmt's source: count such statements apart). THE CARD IS WHAT COUNTS. Prove the row's statement (the work); the ties are given (YtoofdihnflnaiaaGreatDoorTie.lean); close each card by the builder's one call (the guide's Derived/Test/ToyasCard.lean, 'card_holds'). Laid BY PROGRAM, IN A SANDBOX (cutbox-door.mjs). By AI agents, Wed Nov 11 2026. No macro, syntax, notation, axiom, sorry.
-/
import Derived.Test.YtoofdihnflnaiaaGreatDoorRows
import GoSem.ClaimSeven
namespace Go.Proofs.YtoofdihnflnaiaaGreatDoor
namespace Rows

/-- THE TIED CARD OF 'manorboylaw02.RealAlgebra'. -/
def realAlgebraCard : Claim7 := { stood := { row := realAlgebraRow, standIns := [], harness := (true, "91de4e1a8889b2d4fa3101f44dbd0c8feeea82b3cd17294cb233822427a8a448"), looks := false }, kinds := [], alts := [], laidByText := true, laidKinds := [.data, .data, .data, .data, .data, .pinned], laidTests := true, laidLooks := .later }
def RealAlgebraCardSaid : Prop := Claim7.holds Tryz.pinned (.plain (OpenSpec.ofChange realAlgebraSpec)) realAlgebraCard

/-- THE TIED CARD OF 'manorboylaw02.RealNearest'. -/
def realNearestCard : Claim7 := { stood := { row := realNearestRow, standIns := [], harness := (true, "91de4e1a8889b2d4fa3101f44dbd0c8feeea82b3cd17294cb233822427a8a448"), looks := false }, kinds := [], alts := [], laidByText := true, laidKinds := [.data, .data, .data, .data, .data, .pinned], laidTests := true, laidLooks := .later }
def RealNearestCardSaid : Prop := Claim7.holds Tryz.pinned (.plain (OpenSpec.ofChange realNearestSpec)) realNearestCard

/-- THE TIED CARD OF 'manorboylaw02.RealExact'. -/
def realExactCard : Claim7 := { stood := { row := realExactRow, standIns := [], harness := (true, "91de4e1a8889b2d4fa3101f44dbd0c8feeea82b3cd17294cb233822427a8a448"), looks := false }, kinds := [], alts := [], laidByText := true, laidKinds := [.data, .data, .data, .data, .data, .pinned], laidTests := true, laidLooks := .later }
def RealExactCardSaid : Prop := Claim7.holds Tryz.pinned (.plain (OpenSpec.ofChange realExactSpec)) realExactCard

/-- THE TIED CARD OF 'manorboylaw02.RealMonotonic'. -/
def realMonotonicCard : Claim7 := { stood := { row := realMonotonicRow, standIns := [], harness := (true, "91de4e1a8889b2d4fa3101f44dbd0c8feeea82b3cd17294cb233822427a8a448"), looks := false }, kinds := [], alts := [], laidByText := true, laidKinds := [.data, .data, .data, .data, .data, .pinned], laidTests := true, laidLooks := .later }
def RealMonotonicCardSaid : Prop := Claim7.holds Tryz.pinned (.plain (OpenSpec.ofChange realMonotonicSpec)) realMonotonicCard

/-- THE TIED CARD OF 'manorboylaw02.RealPowerLaws'. -/
def realPowerLawsCard : Claim7 := { stood := { row := realPowerLawsRow, standIns := [], harness := (true, "91de4e1a8889b2d4fa3101f44dbd0c8feeea82b3cd17294cb233822427a8a448"), looks := false }, kinds := [], alts := [], laidByText := true, laidKinds := [.data, .data, .data, .data, .data, .pinned], laidTests := true, laidLooks := .later }
def RealPowerLawsCardSaid : Prop := Claim7.holds Tryz.pinned (.plain (OpenSpec.ofChange realPowerLawsSpec)) realPowerLawsCard

/-- THE SECOND FORM's CARD OF 'manorboylaw02.RealAlgebra'. -/
def realAlgebraUptoCard : Claim7 := { stood := { row := realAlgebraUptoRow, standIns := [], harness := (true, "91de4e1a8889b2d4fa3101f44dbd0c8feeea82b3cd17294cb233822427a8a448"), looks := false }, kinds := [], alts := [], laidByText := true, laidKinds := [.data, .data, .data, .data, .data, .pinned], laidTests := true, laidLooks := .later }
def RealAlgebraUptoCardSaid : Prop := Claim7.holds Tryz.pinned (.plain (OpenSpec.upto realAlgebraSpec)) realAlgebraUptoCard

/-- THE SECOND FORM's CARD OF 'manorboylaw02.RealNearest'. -/
def realNearestUptoCard : Claim7 := { stood := { row := realNearestUptoRow, standIns := [], harness := (true, "91de4e1a8889b2d4fa3101f44dbd0c8feeea82b3cd17294cb233822427a8a448"), looks := false }, kinds := [], alts := [], laidByText := true, laidKinds := [.data, .data, .data, .data, .data, .pinned], laidTests := true, laidLooks := .later }
def RealNearestUptoCardSaid : Prop := Claim7.holds Tryz.pinned (.plain (OpenSpec.upto realNearestSpec)) realNearestUptoCard

/-- THE SECOND FORM's CARD OF 'manorboylaw02.RealExact'. -/
def realExactUptoCard : Claim7 := { stood := { row := realExactUptoRow, standIns := [], harness := (true, "91de4e1a8889b2d4fa3101f44dbd0c8feeea82b3cd17294cb233822427a8a448"), looks := false }, kinds := [], alts := [], laidByText := true, laidKinds := [.data, .data, .data, .data, .data, .pinned], laidTests := true, laidLooks := .later }
def RealExactUptoCardSaid : Prop := Claim7.holds Tryz.pinned (.plain (OpenSpec.upto realExactSpec)) realExactUptoCard

/-- THE SECOND FORM's CARD OF 'manorboylaw02.RealMonotonic'. -/
def realMonotonicUptoCard : Claim7 := { stood := { row := realMonotonicUptoRow, standIns := [], harness := (true, "91de4e1a8889b2d4fa3101f44dbd0c8feeea82b3cd17294cb233822427a8a448"), looks := false }, kinds := [], alts := [], laidByText := true, laidKinds := [.data, .data, .data, .data, .data, .pinned], laidTests := true, laidLooks := .later }
def RealMonotonicUptoCardSaid : Prop := Claim7.holds Tryz.pinned (.plain (OpenSpec.upto realMonotonicSpec)) realMonotonicUptoCard

/-- THE SECOND FORM's CARD OF 'manorboylaw02.RealPowerLaws'. -/
def realPowerLawsUptoCard : Claim7 := { stood := { row := realPowerLawsUptoRow, standIns := [], harness := (true, "91de4e1a8889b2d4fa3101f44dbd0c8feeea82b3cd17294cb233822427a8a448"), looks := false }, kinds := [], alts := [], laidByText := true, laidKinds := [.data, .data, .data, .data, .data, .pinned], laidTests := true, laidLooks := .later }
def RealPowerLawsUptoCardSaid : Prop := Claim7.holds Tryz.pinned (.plain (OpenSpec.upto realPowerLawsSpec)) realPowerLawsUptoCard
end Rows
end Go.Proofs.YtoofdihnflnaiaaGreatDoor
