/-
  DERIVED. GIVEN WITH THE SEED: THE CARDS: each row of YtdhcahidpiiplaaGreatDoorRows.lean that lists a variable, with what it lists TIED to the program's text (the seventh form; the later family's looks); each row that meets fmt, with fmt's text TOLD by the authors' own Lean function (tested against real Go, not proved from fmt's source: count such statements apart). THE CARD IS WHAT COUNTS. Prove the row's statement (the work); the ties are given (YtdhcahidpiiplaaGreatDoorTie.lean); close each card by the builder's one call (the guide's Derived/Test/ToyasCard.lean, 'card_holds'). Laid BY PROGRAM, IN A SANDBOX (cutbox-door.mjs). By AI agents, Wed Nov 11 2026. No macro, syntax, notation, axiom, sorry.
-/
import Derived.Test.YtdhcahidpiiplaaGreatDoorRows
import GoSem.ClaimSeven
namespace Go.Proofs.YtdhcahidpiiplaaGreatDoor
namespace Rows

/-- THE TIED CARD OF 'manorboylaw02.RealOrder'. -/
def realOrderCard : Claim7 := { stood := { row := realOrderRow, standIns := [], harness := (true, "c423543741b571d64be654257de72d39ce167ec1ccd5be27c7b93318332f2746"), looks := false }, kinds := [], alts := [], laidByText := true, laidKinds := [.data, .data, .data, .data, .data, .pinned], laidTests := true, laidLooks := .later }
def RealOrderCardSaid : Prop := Claim7.holds Tryz.pinned (.plain (OpenSpec.ofChange realOrderSpec)) realOrderCard

/-- THE TIED CARD OF 'manorboylaw02.RealIntegerLaws'. -/
def realIntegerLawsCard : Claim7 := { stood := { row := realIntegerLawsRow, standIns := [], harness := (true, "c423543741b571d64be654257de72d39ce167ec1ccd5be27c7b93318332f2746"), looks := false }, kinds := [], alts := [], laidByText := true, laidKinds := [.data, .data, .data, .data, .data, .pinned], laidTests := true, laidLooks := .later }
def RealIntegerLawsCardSaid : Prop := Claim7.holds Tryz.pinned (.plain (OpenSpec.ofChange realIntegerLawsSpec)) realIntegerLawsCard

/-- THE TIED CARD OF 'manorboylaw02.RealIntegers'. -/
def realIntegersCard : Claim7 := { stood := { row := realIntegersRow, standIns := [], harness := (true, "c423543741b571d64be654257de72d39ce167ec1ccd5be27c7b93318332f2746"), looks := false }, kinds := [], alts := [], laidByText := true, laidKinds := [.data, .data, .data, .data, .data, .pinned], laidTests := true, laidLooks := .later }
def RealIntegersCardSaid : Prop := Claim7.holds Tryz.pinned (.plain (OpenSpec.ofChange realIntegersSpec)) realIntegersCard

/-- THE TIED CARD OF 'manorboylaw02.RealAlgebra'. -/
def realAlgebraCard : Claim7 := { stood := { row := realAlgebraRow, standIns := [], harness := (true, "c423543741b571d64be654257de72d39ce167ec1ccd5be27c7b93318332f2746"), looks := false }, kinds := [], alts := [], laidByText := true, laidKinds := [.data, .data, .data, .data, .data, .pinned], laidTests := true, laidLooks := .later }
def RealAlgebraCardSaid : Prop := Claim7.holds Tryz.pinned (.plain (OpenSpec.ofChange realAlgebraSpec)) realAlgebraCard

/-- THE TIED CARD OF 'manorboylaw02.RealNearest'. -/
def realNearestCard : Claim7 := { stood := { row := realNearestRow, standIns := [], harness := (true, "c423543741b571d64be654257de72d39ce167ec1ccd5be27c7b93318332f2746"), looks := false }, kinds := [], alts := [], laidByText := true, laidKinds := [.data, .data, .data, .data, .data, .pinned], laidTests := true, laidLooks := .later }
def RealNearestCardSaid : Prop := Claim7.holds Tryz.pinned (.plain (OpenSpec.ofChange realNearestSpec)) realNearestCard

/-- THE TIED CARD OF 'manorboylaw02.RealExact'. -/
def realExactCard : Claim7 := { stood := { row := realExactRow, standIns := [], harness := (true, "c423543741b571d64be654257de72d39ce167ec1ccd5be27c7b93318332f2746"), looks := false }, kinds := [], alts := [], laidByText := true, laidKinds := [.data, .data, .data, .data, .data, .pinned], laidTests := true, laidLooks := .later }
def RealExactCardSaid : Prop := Claim7.holds Tryz.pinned (.plain (OpenSpec.ofChange realExactSpec)) realExactCard

/-- THE TIED CARD OF 'manorboylaw02.RealMonotonic'. -/
def realMonotonicCard : Claim7 := { stood := { row := realMonotonicRow, standIns := [], harness := (true, "c423543741b571d64be654257de72d39ce167ec1ccd5be27c7b93318332f2746"), looks := false }, kinds := [], alts := [], laidByText := true, laidKinds := [.data, .data, .data, .data, .data, .pinned], laidTests := true, laidLooks := .later }
def RealMonotonicCardSaid : Prop := Claim7.holds Tryz.pinned (.plain (OpenSpec.ofChange realMonotonicSpec)) realMonotonicCard

/-- THE TIED CARD OF 'manorboylaw02.RealPowerLaws'. -/
def realPowerLawsCard : Claim7 := { stood := { row := realPowerLawsRow, standIns := [], harness := (true, "c423543741b571d64be654257de72d39ce167ec1ccd5be27c7b93318332f2746"), looks := false }, kinds := [], alts := [], laidByText := true, laidKinds := [.data, .data, .data, .data, .data, .pinned], laidTests := true, laidLooks := .later }
def RealPowerLawsCardSaid : Prop := Claim7.holds Tryz.pinned (.plain (OpenSpec.ofChange realPowerLawsSpec)) realPowerLawsCard

/-- THE TIED CARD OF 'manorboylaw02.RealNumbers'. -/
def realNumbersCard : Claim7 := { stood := { row := realNumbersRow, standIns := [], harness := (true, "c423543741b571d64be654257de72d39ce167ec1ccd5be27c7b93318332f2746"), looks := false }, kinds := [], alts := [], laidByText := true, laidKinds := [.data, .data, .data, .data, .data, .pinned], laidTests := true, laidLooks := .later }
def RealNumbersCardSaid : Prop := Claim7.holds Tryz.pinned (.plain (OpenSpec.ofChange realNumbersSpec)) realNumbersCard

/-- THE SECOND FORM's CARD OF 'manorboylaw02.RealOrder'. -/
def realOrderUptoCard : Claim7 := { stood := { row := realOrderUptoRow, standIns := [], harness := (true, "c423543741b571d64be654257de72d39ce167ec1ccd5be27c7b93318332f2746"), looks := false }, kinds := [], alts := [], laidByText := true, laidKinds := [.data, .data, .data, .data, .data, .pinned], laidTests := true, laidLooks := .later }
def RealOrderUptoCardSaid : Prop := Claim7.holds Tryz.pinned (.plain (OpenSpec.upto realOrderSpec)) realOrderUptoCard

/-- THE SECOND FORM's CARD OF 'manorboylaw02.RealIntegerLaws'. -/
def realIntegerLawsUptoCard : Claim7 := { stood := { row := realIntegerLawsUptoRow, standIns := [], harness := (true, "c423543741b571d64be654257de72d39ce167ec1ccd5be27c7b93318332f2746"), looks := false }, kinds := [], alts := [], laidByText := true, laidKinds := [.data, .data, .data, .data, .data, .pinned], laidTests := true, laidLooks := .later }
def RealIntegerLawsUptoCardSaid : Prop := Claim7.holds Tryz.pinned (.plain (OpenSpec.upto realIntegerLawsSpec)) realIntegerLawsUptoCard

/-- THE SECOND FORM's CARD OF 'manorboylaw02.RealIntegers'. -/
def realIntegersUptoCard : Claim7 := { stood := { row := realIntegersUptoRow, standIns := [], harness := (true, "c423543741b571d64be654257de72d39ce167ec1ccd5be27c7b93318332f2746"), looks := false }, kinds := [], alts := [], laidByText := true, laidKinds := [.data, .data, .data, .data, .data, .pinned], laidTests := true, laidLooks := .later }
def RealIntegersUptoCardSaid : Prop := Claim7.holds Tryz.pinned (.plain (OpenSpec.upto realIntegersSpec)) realIntegersUptoCard

/-- THE SECOND FORM's CARD OF 'manorboylaw02.RealAlgebra'. -/
def realAlgebraUptoCard : Claim7 := { stood := { row := realAlgebraUptoRow, standIns := [], harness := (true, "c423543741b571d64be654257de72d39ce167ec1ccd5be27c7b93318332f2746"), looks := false }, kinds := [], alts := [], laidByText := true, laidKinds := [.data, .data, .data, .data, .data, .pinned], laidTests := true, laidLooks := .later }
def RealAlgebraUptoCardSaid : Prop := Claim7.holds Tryz.pinned (.plain (OpenSpec.upto realAlgebraSpec)) realAlgebraUptoCard

/-- THE SECOND FORM's CARD OF 'manorboylaw02.RealNearest'. -/
def realNearestUptoCard : Claim7 := { stood := { row := realNearestUptoRow, standIns := [], harness := (true, "c423543741b571d64be654257de72d39ce167ec1ccd5be27c7b93318332f2746"), looks := false }, kinds := [], alts := [], laidByText := true, laidKinds := [.data, .data, .data, .data, .data, .pinned], laidTests := true, laidLooks := .later }
def RealNearestUptoCardSaid : Prop := Claim7.holds Tryz.pinned (.plain (OpenSpec.upto realNearestSpec)) realNearestUptoCard

/-- THE SECOND FORM's CARD OF 'manorboylaw02.RealExact'. -/
def realExactUptoCard : Claim7 := { stood := { row := realExactUptoRow, standIns := [], harness := (true, "c423543741b571d64be654257de72d39ce167ec1ccd5be27c7b93318332f2746"), looks := false }, kinds := [], alts := [], laidByText := true, laidKinds := [.data, .data, .data, .data, .data, .pinned], laidTests := true, laidLooks := .later }
def RealExactUptoCardSaid : Prop := Claim7.holds Tryz.pinned (.plain (OpenSpec.upto realExactSpec)) realExactUptoCard

/-- THE SECOND FORM's CARD OF 'manorboylaw02.RealMonotonic'. -/
def realMonotonicUptoCard : Claim7 := { stood := { row := realMonotonicUptoRow, standIns := [], harness := (true, "c423543741b571d64be654257de72d39ce167ec1ccd5be27c7b93318332f2746"), looks := false }, kinds := [], alts := [], laidByText := true, laidKinds := [.data, .data, .data, .data, .data, .pinned], laidTests := true, laidLooks := .later }
def RealMonotonicUptoCardSaid : Prop := Claim7.holds Tryz.pinned (.plain (OpenSpec.upto realMonotonicSpec)) realMonotonicUptoCard

/-- THE SECOND FORM's CARD OF 'manorboylaw02.RealPowerLaws'. -/
def realPowerLawsUptoCard : Claim7 := { stood := { row := realPowerLawsUptoRow, standIns := [], harness := (true, "c423543741b571d64be654257de72d39ce167ec1ccd5be27c7b93318332f2746"), looks := false }, kinds := [], alts := [], laidByText := true, laidKinds := [.data, .data, .data, .data, .data, .pinned], laidTests := true, laidLooks := .later }
def RealPowerLawsUptoCardSaid : Prop := Claim7.holds Tryz.pinned (.plain (OpenSpec.upto realPowerLawsSpec)) realPowerLawsUptoCard

/-- THE SECOND FORM's CARD OF 'manorboylaw02.RealNumbers'. -/
def realNumbersUptoCard : Claim7 := { stood := { row := realNumbersUptoRow, standIns := [], harness := (true, "c423543741b571d64be654257de72d39ce167ec1ccd5be27c7b93318332f2746"), looks := false }, kinds := [], alts := [], laidByText := true, laidKinds := [.data, .data, .data, .data, .data, .pinned], laidTests := true, laidLooks := .later }
def RealNumbersUptoCardSaid : Prop := Claim7.holds Tryz.pinned (.plain (OpenSpec.upto realNumbersSpec)) realNumbersUptoCard
end Rows
end Go.Proofs.YtdhcahidpiiplaaGreatDoor
