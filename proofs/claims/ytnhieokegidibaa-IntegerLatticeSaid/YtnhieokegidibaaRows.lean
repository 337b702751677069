/-
  No cell of these rows narrows 'for every input' (looked for: loops, veiled, ifaces, maps, wideKeys, modest, calm, conditions, laid).
  DERIVED. THE GIVEN ROWS OF THIS SEAT. 4 by the template 'for every input the law returns true; each argument reads behind the call as it read before'; 0 by the template 'total and deterministic' (their statements: YtnhieokegidibaaTotals.lean).
  GIVEN WITH THE SEED: the statements are not yours to turn. If you find one false, say at which input.
  Laid BY PROGRAM, IN A SANDBOX (cutbox-rows.mjs): the forced cells as the released guide's own fill.sh prints them over the translation 7f784dfa619122af… (all of the seat's roots in one cut). By AI agents, Wed Nov 11 2026. No macro, syntax, notation, axiom, sorry.
-/
import Derived.Test.YtnhieokegidibaaChecked
import GoSem.Claim
import GoSem.ClaimJoined
import GoSem.ClaimMapViews
import Derived.JoinedTies
import Derived.KernelRfl
namespace Go.Proofs.Ytnhieokegidibaa
/- THE CELL 'sum', in the pinned program and in every row, IS THE sha256 OF THE DUMP (.gsa) THAT YtnhieokegidibaaProg.lean LOADS. Nothing in Lean hashes anything: it is a label: what it is worth is what the hold of that sum in a sandbox is worth. -/
noncomputable def Try.pinned : Pinned := { name := "ytnhieokegidibaa", sum := "7f784dfa619122af7ba7128942ba184a399d1616ba0ceef87c0ee34dbe0ed3c0", checked := Try.checked }
namespace Rows
def none {H : Type} : Left H := { results := [], args := [] }

/-- 'manorboylaw01.IntegerSpans': WHATEVER THE INPUT: true; the input reads as it did. -/
def integerSpansSpec : ChangeSpec := { name := "integerSpans", fn := fun _ => fun
  | [d1, d2] => { results := [.lit (.bool true)], args := [d1, d2] }
  | _ => none }
def integerSpansRow : OpenClaim := { program := "ytnhieokegidibaa", sum := "7f784dfa619122af7ba7128942ba184a399d1616ba0ceef87c0ee34dbe0ed3c0", func := "manorboy/manorboylaw01.IntegerSpans", spec := "integerSpans", unfollowed := true, recurses := true, apart := false }
def IntegerSpansSaid : Prop := integerSpansRow.holds Try.pinned (OpenSpec.ofChange integerSpansSpec)

/-- ITS FALSE NEIGHBOUR: 'it returns false'. Refute it at one input. -/
def integerSpansWrong : ChangeSpec := { name := "integerSpans", fn := fun _ => fun
  | [d1, d2] => { results := [.lit (.bool false)], args := [d1, d2] }
  | _ => none }
def IntegerSpansWrongFalsely : Prop := integerSpansRow.holds Try.pinned (OpenSpec.ofChange integerSpansWrong)

/-- 'manorboylaw01.IntegerTight': WHATEVER THE INPUT: true; the input reads as it did. -/
def integerTightSpec : ChangeSpec := { name := "integerTight", fn := fun _ => fun
  | [d1, d2] => { results := [.lit (.bool true)], args := [d1, d2] }
  | _ => none }
def integerTightRow : OpenClaim := { program := "ytnhieokegidibaa", sum := "7f784dfa619122af7ba7128942ba184a399d1616ba0ceef87c0ee34dbe0ed3c0", func := "manorboy/manorboylaw01.IntegerTight", spec := "integerTight", unfollowed := true, recurses := true, apart := false }
def IntegerTightSaid : Prop := integerTightRow.holds Try.pinned (OpenSpec.ofChange integerTightSpec)

/-- ITS FALSE NEIGHBOUR: 'it returns false'. Refute it at one input. -/
def integerTightWrong : ChangeSpec := { name := "integerTight", fn := fun _ => fun
  | [d1, d2] => { results := [.lit (.bool false)], args := [d1, d2] }
  | _ => none }
def IntegerTightWrongFalsely : Prop := integerTightRow.holds Try.pinned (OpenSpec.ofChange integerTightWrong)

/-- 'manorboylaw01.IntegerTighter': WHATEVER THE INPUT: true; the input reads as it did. -/
def integerTighterSpec : ChangeSpec := { name := "integerTighter", fn := fun _ => fun
  | [d1, d2] => { results := [.lit (.bool true)], args := [d1, d2] }
  | _ => none }
def integerTighterRow : OpenClaim := { program := "ytnhieokegidibaa", sum := "7f784dfa619122af7ba7128942ba184a399d1616ba0ceef87c0ee34dbe0ed3c0", func := "manorboy/manorboylaw01.IntegerTighter", spec := "integerTighter", unfollowed := true, recurses := true, apart := false }
def IntegerTighterSaid : Prop := integerTighterRow.holds Try.pinned (OpenSpec.ofChange integerTighterSpec)

/-- ITS FALSE NEIGHBOUR: 'it returns false'. Refute it at one input. -/
def integerTighterWrong : ChangeSpec := { name := "integerTighter", fn := fun _ => fun
  | [d1, d2] => { results := [.lit (.bool false)], args := [d1, d2] }
  | _ => none }
def IntegerTighterWrongFalsely : Prop := integerTighterRow.holds Try.pinned (OpenSpec.ofChange integerTighterWrong)

/-- 'manorboylaw01.IntegerLattice': WHATEVER THE INPUT: true; the input reads as it did. -/
def integerLatticeSpec : ChangeSpec := { name := "integerLattice", fn := fun _ => fun
  | [d1, d2, d3, d4] => { results := [.lit (.bool true)], args := [d1, d2, d3, d4] }
  | _ => none }
def integerLatticeRow : OpenClaim := { program := "ytnhieokegidibaa", sum := "7f784dfa619122af7ba7128942ba184a399d1616ba0ceef87c0ee34dbe0ed3c0", func := "manorboy/manorboylaw01.IntegerLattice", spec := "integerLattice", unfollowed := true, recurses := true, apart := false }
def IntegerLatticeSaid : Prop := integerLatticeRow.holds Try.pinned (OpenSpec.ofChange integerLatticeSpec)

/-- ITS FALSE NEIGHBOUR: 'it returns false'. Refute it at one input. -/
def integerLatticeWrong : ChangeSpec := { name := "integerLattice", fn := fun _ => fun
  | [d1, d2, d3, d4] => { results := [.lit (.bool false)], args := [d1, d2, d3, d4] }
  | _ => none }
def IntegerLatticeWrongFalsely : Prop := integerLatticeRow.holds Try.pinned (OpenSpec.ofChange integerLatticeWrong)

/- THE SECOND FORM. 'bulk': how many values and letters a reading holds, each counted each time it is reached (what is shared counts as often as it is met; a slice's spare places count too). A statement '..UptoSaid' is the law's where the arguments, and the package variables that the reading takes, are together of bulk at most 1048576: NARROWER than '..Said'. Prove '..Said' where nothing that the law and all that it calls make is longer than what came in: it says more and counts as full. Else prove '..UptoSaid'. A law counts once. -/
mutual
def uptoBulk {H : Type} : DataW H → Nat
  | .lit (.string bytes) => bytes.length + 1
  | .lit _ => 1
  | .nil => 1
  | .ptr d => uptoBulk d + 1
  | .slice elems spare => uptoBulkAll elems + uptoBulkAll spare + 1
  | .agg parts => uptoBulkAll parts + 1
  | .iface _ d => uptoBulk d + 1
  | .map entries => uptoBulkEntries entries + 1
  | .held _ => 1
def uptoBulkAll {H : Type} : List (DataW H) → Nat
  | [] => 0
  | d :: r => uptoBulk d + uptoBulkAll r
def uptoBulkEntries {H : Type} : List (Lit × DataW H) → Nat
  | [] => 0
  | x :: r => uptoBulkEntry x + uptoBulkEntries r
def uptoBulkEntry {H : Type} : Lit × DataW H → Nat
  | (.string bytes, d) => bytes.length + uptoBulk d + 1
  | (_, d) => uptoBulk d + 1
 end
def uptoSmall : (H : Type) → List (DataW H) → Bool := fun _ ds => decide (uptoBulkAll ds ≤ 1048576)
def OpenSpec.upto (s : _root_.Go.ChangeSpec) : _root_.Go.OpenSpec := { _root_.Go.OpenSpec.ofChange s with cond := some uptoSmall }

/-- 'manorboylaw01.IntegerSpans', WHERE WHAT IT READS IS OF BULK AT MOST 1048576: true; the input reads as it did. -/
def integerSpansUptoRow : OpenClaim := { program := "ytnhieokegidibaa", sum := "7f784dfa619122af7ba7128942ba184a399d1616ba0ceef87c0ee34dbe0ed3c0", func := "manorboy/manorboylaw01.IntegerSpans", spec := "integerSpans", unfollowed := true, recurses := true, apart := false, narrowed := true }
def IntegerSpansUptoSaid : Prop := integerSpansUptoRow.holds Try.pinned (OpenSpec.upto integerSpansSpec)

/-- 'manorboylaw01.IntegerTight', WHERE WHAT IT READS IS OF BULK AT MOST 1048576: true; the input reads as it did. -/
def integerTightUptoRow : OpenClaim := { program := "ytnhieokegidibaa", sum := "7f784dfa619122af7ba7128942ba184a399d1616ba0ceef87c0ee34dbe0ed3c0", func := "manorboy/manorboylaw01.IntegerTight", spec := "integerTight", unfollowed := true, recurses := true, apart := false, narrowed := true }
def IntegerTightUptoSaid : Prop := integerTightUptoRow.holds Try.pinned (OpenSpec.upto integerTightSpec)

/-- 'manorboylaw01.IntegerTighter', WHERE WHAT IT READS IS OF BULK AT MOST 1048576: true; the input reads as it did. -/
def integerTighterUptoRow : OpenClaim := { program := "ytnhieokegidibaa", sum := "7f784dfa619122af7ba7128942ba184a399d1616ba0ceef87c0ee34dbe0ed3c0", func := "manorboy/manorboylaw01.IntegerTighter", spec := "integerTighter", unfollowed := true, recurses := true, apart := false, narrowed := true }
def IntegerTighterUptoSaid : Prop := integerTighterUptoRow.holds Try.pinned (OpenSpec.upto integerTighterSpec)

/-- 'manorboylaw01.IntegerLattice', WHERE WHAT IT READS IS OF BULK AT MOST 1048576: true; the input reads as it did. -/
def integerLatticeUptoRow : OpenClaim := { program := "ytnhieokegidibaa", sum := "7f784dfa619122af7ba7128942ba184a399d1616ba0ceef87c0ee34dbe0ed3c0", func := "manorboy/manorboylaw01.IntegerLattice", spec := "integerLattice", unfollowed := true, recurses := true, apart := false, narrowed := true }
def IntegerLatticeUptoSaid : Prop := integerLatticeUptoRow.holds Try.pinned (OpenSpec.upto integerLatticeSpec)

end Rows
end Go.Proofs.Ytnhieokegidibaa
