/-
  NARROWER THAN 'FOR EVERY INPUT', by the rows' own cells (each row's printed sentence says how): LexOrder: laid · LexStrips: laid.
  DERIVED. THE GIVEN ROWS OF THIS SEAT. 2 by the template 'for every input the law returns true; each argument reads behind the call as it read before'; 0 by the template 'total and deterministic' (their statements: YtnmifeiokhpcfaaDoorTotals.lean).
  GIVEN WITH THE SEED: the statements are not yours to turn. If you find one false, say at which input.
  Laid BY PROGRAM, IN A SANDBOX (cutbox-rows.mjs): the forced cells as the released guide's own fill.sh prints them over the translation fe30c447fb234ecb… (all of the seat's roots in one cut). By AI agents, Wed Nov 11 2026. No macro, syntax, notation, axiom, sorry.
-/
import Derived.Test.YtnmifeiokhpcfaaDoorChecked
import GoSem.PinnedTables
import GoSem.Claim
import GoSem.ClaimJoined
import GoSem.ClaimMapViews
import Derived.JoinedTies
import Derived.KernelRfl
namespace Go.Proofs.YtnmifeiokhpcfaaDoor
/- THE CELL 'sum', in the pinned program and in every row, IS THE sha256 OF THE DUMP (.gsa) THAT YtnmifeiokhpcfaaDoorProg.lean LOADS. Nothing in Lean hashes anything: it is a label: what it is worth is what the hold of that sum in a sandbox is worth. -/
noncomputable def Tryd.pinned : Pinned := { name := "ytnmifeiokhpcfaadoor", sum := "fe30c447fb234ecb5a174fca15a06c6ba3a3ab3aa77eed9d80936dc951a2cb5e", checked := Tryd.checked }
namespace Rows
def none {H : Type} : Left H := { results := [], args := [] }

/- WHAT THE LISTED PACKAGE-LEVEL VARIABLES READ AS WHEN THE CALL BEGINS. Each datum BY PROGRAM (the guide's laid-datum.mjs) off the statement by which the dump's own 'gosem.cut.vars' lays the variable. In a bare row this is a premise. The card (YtnmifeiokhpcfaaDoorCards.lean) ties it to the program's text. -/
def laid_unicode_utf8_acceptRanges {H : Type} : DataW H := .agg [.agg [.lit (.int .u8 128), .lit (.int .u8 191)], .agg [.lit (.int .u8 160), .lit (.int .u8 191)], .agg [.lit (.int .u8 128), .lit (.int .u8 159)], .agg [.lit (.int .u8 144), .lit (.int .u8 191)], .agg [.lit (.int .u8 128), .lit (.int .u8 143)], .agg [.lit (.int .u8 0), .lit (.int .u8 0)], .agg [.lit (.int .u8 0), .lit (.int .u8 0)], .agg [.lit (.int .u8 0), .lit (.int .u8 0)], .agg [.lit (.int .u8 0), .lit (.int .u8 0)], .agg [.lit (.int .u8 0), .lit (.int .u8 0)], .agg [.lit (.int .u8 0), .lit (.int .u8 0)], .agg [.lit (.int .u8 0), .lit (.int .u8 0)], .agg [.lit (.int .u8 0), .lit (.int .u8 0)], .agg [.lit (.int .u8 0), .lit (.int .u8 0)], .agg [.lit (.int .u8 0), .lit (.int .u8 0)], .agg [.lit (.int .u8 0), .lit (.int .u8 0)]]
def laid_manorboy_real_powersOfTen {H : Type} : DataW H := .agg [.lit (.int .u64 1), .lit (.int .u64 10), .lit (.int .u64 100), .lit (.int .u64 1000), .lit (.int .u64 10000), .lit (.int .u64 100000), .lit (.int .u64 1000000), .lit (.int .u64 10000000), .lit (.int .u64 100000000), .lit (.int .u64 1000000000), .lit (.int .u64 10000000000), .lit (.int .u64 100000000000), .lit (.int .u64 1000000000000), .lit (.int .u64 10000000000000), .lit (.int .u64 100000000000000), .lit (.int .u64 1000000000000000), .lit (.int .u64 10000000000000000), .lit (.int .u64 100000000000000000), .lit (.int .u64 1000000000000000000), .lit (.int .u64 10000000000000000000)]
def laid_manorboy_lex_words {H : Type} : DataW H := .slice [.lit (.string [98, 101, 103, 105, 110]), .lit (.string [101, 110, 100]), .lit (.string [105, 102]), .lit (.string [116, 104, 101, 110]), .lit (.string [101, 108, 115, 101]), .lit (.string [102, 111, 114]), .lit (.string [100, 111]), .lit (.string [115, 116, 101, 112]), .lit (.string [117, 110, 116, 105, 108]), .lit (.string [119, 104, 105, 108, 101]), .lit (.string [103, 111, 116, 111]), .lit (.string [111, 119, 110]), .lit (.string [105, 110, 116, 101, 103, 101, 114]), .lit (.string [114, 101, 97, 108]), .lit (.string [98, 111, 111, 108, 101, 97, 110]), .lit (.string [97, 114, 114, 97, 121]), .lit (.string [115, 119, 105, 116, 99, 104]), .lit (.string [112, 114, 111, 99, 101, 100, 117, 114, 101]), .lit (.string [118, 97, 108, 117, 101]), .lit (.string [108, 97, 98, 101, 108]), .lit (.string [115, 116, 114, 105, 110, 103]), .lit (.string [116, 114, 117, 101]), .lit (.string [102, 97, 108, 115, 101]), .lit (.string [99, 111, 109, 109, 101, 110, 116]), .lit (.string [110, 111, 116]), .lit (.string [97, 110, 100]), .lit (.string [111, 114]), .lit (.string [105, 109, 112]), .lit (.string [101, 113, 118])] []
def laid_manorboy_lex_signs {H : Type} : DataW H := .slice [.lit (.string [43]), .lit (.string [45]), .lit (.string [42]), .lit (.string [47]), .lit (.string [47, 47]), .lit (.string [94]), .lit (.string [60]), .lit (.string [60, 61]), .lit (.string [61]), .lit (.string [47, 61]), .lit (.string [62, 61]), .lit (.string [62]), .lit (.string [58, 61]), .lit (.string [58]), .lit (.string [59]), .lit (.string [44]), .lit (.string [40]), .lit (.string [41]), .lit (.string [91]), .lit (.string [93])] []
/-- One of Go's own tables, pinned by name: the form's constant. -/
def laid_unicode_utf8_first : DataW Unit := Go.Pinned.utf8First

/-- 'manorboylaw03.LexOrder': WHATEVER THE INPUT: true; the input reads as it did. -/
def lexOrderSpec : ChangeSpec := { name := "lexOrder", fn := fun _ => fun
  | [d] => { results := [.lit (.bool true)], args := [d] }
  | _ => none }
def lexOrderRow : OpenClaim := { program := "ytnmifeiokhpcfaadoor", sum := "fe30c447fb234ecb5a174fca15a06c6ba3a3ab3aa77eed9d80936dc951a2cb5e", func := "manorboy/manorboylaw03.LexOrder", spec := "lexOrder", inPlace := ["internal/bytealg.IndexByteString", "internal/bytealg.IndexString", "math/bits.Add64", "internal/abi.NoEscape"], unfollowed := true, recurses := true, named := ["unicode/utf8.first", "unicode/utf8.acceptRanges", "manorboy/real.powersOfTen", "math/bits.divideError", "math/bits.overflowError", "manorboy/lex.words", "manorboy/lex.signs", "internal/bytealg.MaxLen"], apart := false, laid := [("unicode/utf8.acceptRanges", laid_unicode_utf8_acceptRanges), ("manorboy/real.powersOfTen", laid_manorboy_real_powersOfTen), ("manorboy/lex.words", laid_manorboy_lex_words), ("manorboy/lex.signs", laid_manorboy_lex_signs), ("unicode/utf8.first", laid_unicode_utf8_first)] }
def LexOrderSaid : Prop := lexOrderRow.holds Tryd.pinned (OpenSpec.ofChange lexOrderSpec)

/-- ITS FALSE NEIGHBOUR: 'it returns false'. Refute it at one input. -/
def lexOrderWrong : ChangeSpec := { name := "lexOrder", fn := fun _ => fun
  | [d] => { results := [.lit (.bool false)], args := [d] }
  | _ => none }
def LexOrderWrongFalsely : Prop := lexOrderRow.holds Tryd.pinned (OpenSpec.ofChange lexOrderWrong)

/-- 'manorboylaw03.LexStrips': WHATEVER THE INPUT: true; the input reads as it did. -/
def lexStripsSpec : ChangeSpec := { name := "lexStrips", fn := fun _ => fun
  | [d] => { results := [.lit (.bool true)], args := [d] }
  | _ => none }
def lexStripsRow : OpenClaim := { program := "ytnmifeiokhpcfaadoor", sum := "fe30c447fb234ecb5a174fca15a06c6ba3a3ab3aa77eed9d80936dc951a2cb5e", func := "manorboy/manorboylaw03.LexStrips", spec := "lexStrips", inPlace := ["internal/bytealg.IndexByteString", "internal/bytealg.IndexString", "math/bits.Add64", "internal/abi.NoEscape"], unfollowed := true, recurses := true, named := ["unicode/utf8.first", "unicode/utf8.acceptRanges", "manorboy/real.powersOfTen", "math/bits.divideError", "math/bits.overflowError", "manorboy/lex.words", "manorboy/lex.signs", "internal/bytealg.MaxLen"], apart := false, laid := [("unicode/utf8.acceptRanges", laid_unicode_utf8_acceptRanges), ("manorboy/real.powersOfTen", laid_manorboy_real_powersOfTen), ("manorboy/lex.words", laid_manorboy_lex_words), ("manorboy/lex.signs", laid_manorboy_lex_signs), ("unicode/utf8.first", laid_unicode_utf8_first)] }
def LexStripsSaid : Prop := lexStripsRow.holds Tryd.pinned (OpenSpec.ofChange lexStripsSpec)

/-- ITS FALSE NEIGHBOUR: 'it returns false'. Refute it at one input. -/
def lexStripsWrong : ChangeSpec := { name := "lexStrips", fn := fun _ => fun
  | [d] => { results := [.lit (.bool false)], args := [d] }
  | _ => none }
def LexStripsWrongFalsely : Prop := lexStripsRow.holds Tryd.pinned (OpenSpec.ofChange lexStripsWrong)

/- THE SECOND FORM. 'bulk': how many values and letters a reading holds, each counted each time it is reached (what is shared counts as often as it is met; a slice's spare places count too). A statement '..UptoSaid' is the law's where the arguments, and the package variables that the reading takes, are together of bulk at most 1048576: NARROWER than '..Said'. Prove '..Said' where nothing that the law and all that it calls make is longer than what came in: it says more and counts as full. Else prove '..UptoSaid'. A law counts once. -/
mutual
def uptoBulk {H : Type} : DataW H → Nat
  | .lit (.string bytes) => bytes.length + 1
  | .lit _ => 1
  | .nil => 1
  | .ptr d => uptoBulk d + 1
  | .slice elems spare => uptoBulkAll elems + uptoBulkAll spare + 1
  | .agg parts => uptoBulkAll parts + 1
  | .iface _ d => uptoBulk d + 1
  | .map entries => uptoBulkEntries entries + 1
  | .held _ => 1
def uptoBulkAll {H : Type} : List (DataW H) → Nat
  | [] => 0
  | d :: r => uptoBulk d + uptoBulkAll r
def uptoBulkEntries {H : Type} : List (Lit × DataW H) → Nat
  | [] => 0
  | x :: r => uptoBulkEntry x + uptoBulkEntries r
def uptoBulkEntry {H : Type} : Lit × DataW H → Nat
  | (.string bytes, d) => bytes.length + uptoBulk d + 1
  | (_, d) => uptoBulk d + 1
 end
def uptoSmall : (H : Type) → List (DataW H) → Bool := fun _ ds => decide (uptoBulkAll ds ≤ 1048576)
def OpenSpec.upto (s : _root_.Go.ChangeSpec) : _root_.Go.OpenSpec := { _root_.Go.OpenSpec.ofChange s with cond := some uptoSmall }

/-- 'manorboylaw03.LexOrder', WHERE WHAT IT READS IS OF BULK AT MOST 1048576: true; the input reads as it did. -/
def lexOrderUptoRow : OpenClaim := { program := "ytnmifeiokhpcfaadoor", sum := "fe30c447fb234ecb5a174fca15a06c6ba3a3ab3aa77eed9d80936dc951a2cb5e", func := "manorboy/manorboylaw03.LexOrder", spec := "lexOrder", inPlace := ["internal/bytealg.IndexByteString", "internal/bytealg.IndexString", "math/bits.Add64", "internal/abi.NoEscape"], unfollowed := true, recurses := true, named := ["unicode/utf8.first", "unicode/utf8.acceptRanges", "manorboy/real.powersOfTen", "math/bits.divideError", "math/bits.overflowError", "manorboy/lex.words", "manorboy/lex.signs", "internal/bytealg.MaxLen"], apart := false, laid := [("unicode/utf8.acceptRanges", laid_unicode_utf8_acceptRanges), ("manorboy/real.powersOfTen", laid_manorboy_real_powersOfTen), ("manorboy/lex.words", laid_manorboy_lex_words), ("manorboy/lex.signs", laid_manorboy_lex_signs), ("unicode/utf8.first", laid_unicode_utf8_first)], narrowed := true }
def LexOrderUptoSaid : Prop := lexOrderUptoRow.holds Tryd.pinned (OpenSpec.upto lexOrderSpec)

/-- 'manorboylaw03.LexStrips', WHERE WHAT IT READS IS OF BULK AT MOST 1048576: true; the input reads as it did. -/
def lexStripsUptoRow : OpenClaim := { program := "ytnmifeiokhpcfaadoor", sum := "fe30c447fb234ecb5a174fca15a06c6ba3a3ab3aa77eed9d80936dc951a2cb5e", func := "manorboy/manorboylaw03.LexStrips", spec := "lexStrips", inPlace := ["internal/bytealg.IndexByteString", "internal/bytealg.IndexString", "math/bits.Add64", "internal/abi.NoEscape"], unfollowed := true, recurses := true, named := ["unicode/utf8.first", "unicode/utf8.acceptRanges", "manorboy/real.powersOfTen", "math/bits.divideError", "math/bits.overflowError", "manorboy/lex.words", "manorboy/lex.signs", "internal/bytealg.MaxLen"], apart := false, laid := [("unicode/utf8.acceptRanges", laid_unicode_utf8_acceptRanges), ("manorboy/real.powersOfTen", laid_manorboy_real_powersOfTen), ("manorboy/lex.words", laid_manorboy_lex_words), ("manorboy/lex.signs", laid_manorboy_lex_signs), ("unicode/utf8.first", laid_unicode_utf8_first)], narrowed := true }
def LexStripsUptoSaid : Prop := lexStripsUptoRow.holds Tryd.pinned (OpenSpec.upto lexStripsSpec)

end Rows
end Go.Proofs.YtnmifeiokhpcfaaDoor
