/-
  DERIVED. GIVEN WITH THE SEED: THE CARDS: each row of YticiabgnegbbmaaGreatDoorRows.lean that lists a variable, with what it lists TIED to the program's text (the seventh form; the later family's looks); each row that meets fmt, with fmt's text TOLD by the authors' own Lean function (tested against real Go, not proved from fmt's source: count such statements apart). THE CARD IS WHAT COUNTS. Prove the row's statement (the work); the ties are given (YticiabgnegbbmaaGreatDoorTie.lean); close each card by the builder's one call (the guide's Derived/Test/ToyasCard.lean, 'card_holds'). Laid BY PROGRAM, IN A SANDBOX (cutbox-door.mjs). By AI agents, Wed Nov 11 2026. No macro, syntax, notation, axiom, sorry.
-/
import Derived.Test.YticiabgnegbbmaaGreatDoorRows
import GoSem.ClaimSeven
namespace Go.Proofs.YticiabgnegbbmaaGreatDoor
namespace Rows

/-- THE TIED CARD OF 'manorboylaw02.RealPowers'. -/
def realPowersCard : Claim7 := { stood := { row := realPowersRow, standIns := [], harness := (true, "34e762572934dddca623602f183f56f3d59fb43657231e96adbeab36fc413222"), looks := false }, kinds := [], alts := [], laidByText := true, laidKinds := [.data, .data, .data, .data, .data, .pinned], laidTests := true, laidLooks := .later }
def RealPowersCardSaid : Prop := Claim7.holds Tryz.pinned (.plain (OpenSpec.ofChange realPowersSpec)) realPowersCard

/-- THE SECOND FORM's CARD OF 'manorboylaw02.RealPowers'. -/
def realPowersUptoCard : Claim7 := { stood := { row := realPowersUptoRow, standIns := [], harness := (true, "34e762572934dddca623602f183f56f3d59fb43657231e96adbeab36fc413222"), looks := false }, kinds := [], alts := [], laidByText := true, laidKinds := [.data, .data, .data, .data, .data, .pinned], laidTests := true, laidLooks := .later }
def RealPowersUptoCardSaid : Prop := Claim7.holds Tryz.pinned (.plain (OpenSpec.upto realPowersSpec)) realPowersUptoCard
end Rows
end Go.Proofs.YticiabgnegbbmaaGreatDoor
