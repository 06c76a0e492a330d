/-
  DERIVED. GIVEN WITH THE SEED: THE CARDS: each row of YtelabakcadhffaaDoorRows.lean that lists a variable, with what it lists TIED to the program's text (the seventh form; the later family's looks); each row that meets fmt, with fmt's text TOLD by the authors' own Lean function (tested against real Go, not proved from fmt's source: count such statements apart). THE CARD IS WHAT COUNTS. Prove the row's statement (the work); the ties are given (YtelabakcadhffaaDoorTie.lean); close each card by the builder's one call (the guide's Derived/Test/ToyasCard.lean, 'card_holds'). Laid BY PROGRAM, IN A SANDBOX (cutbox-door.mjs). By AI agents, Wed Nov 11 2026. No macro, syntax, notation, axiom, sorry.
-/
import Derived.Test.YtelabakcadhffaaDoorRows
import GoSem.ClaimSeven
namespace Go.Proofs.YtelabakcadhffaaDoor
namespace Rows

/-- THE TIED CARD OF 'meridianlaw26.TraceQuotes'. -/
def traceQuotesCard : Claim7 := { stood := { row := traceQuotesRow, standIns := [], harness := (true, "7f5b830d85ac11c685b9fdfad8a8c429b6c812fa1c8be95026d85de1c478674b"), looks := false }, kinds := [], alts := [], laidByText := true, laidKinds := [.data, .data, .data], laidTests := true, laidLooks := .later }
def TraceQuotesCardSaid : Prop := Claim7.holds Tryd.pinned (.plain (OpenSpec.ofChange traceQuotesSpec)) traceQuotesCard

/-- THE TIED CARD OF 'meridianlaw26.TraceJoins'. -/
def traceJoinsCard : Claim7 := { stood := { row := traceJoinsRow, standIns := [], harness := (true, "7f5b830d85ac11c685b9fdfad8a8c429b6c812fa1c8be95026d85de1c478674b"), looks := false }, kinds := [], alts := [], laidByText := true, laidKinds := [.data, .data, .data], laidTests := true, laidLooks := .later }
def TraceJoinsCardSaid : Prop := Claim7.holds Tryd.pinned (.plain (OpenSpec.ofChange traceJoinsSpec)) traceJoinsCard

/-- THE SECOND FORM's CARD OF 'meridianlaw26.TraceQuotes'. -/
def traceQuotesUptoCard : Claim7 := { stood := { row := traceQuotesUptoRow, standIns := [], harness := (true, "7f5b830d85ac11c685b9fdfad8a8c429b6c812fa1c8be95026d85de1c478674b"), looks := false }, kinds := [], alts := [], laidByText := true, laidKinds := [.data, .data, .data], laidTests := true, laidLooks := .later }
def TraceQuotesUptoCardSaid : Prop := Claim7.holds Tryd.pinned (.plain (OpenSpec.upto traceQuotesSpec)) traceQuotesUptoCard

/-- THE SECOND FORM's CARD OF 'meridianlaw26.TraceJoins'. -/
def traceJoinsUptoCard : Claim7 := { stood := { row := traceJoinsUptoRow, standIns := [], harness := (true, "7f5b830d85ac11c685b9fdfad8a8c429b6c812fa1c8be95026d85de1c478674b"), looks := false }, kinds := [], alts := [], laidByText := true, laidKinds := [.data, .data, .data], laidTests := true, laidLooks := .later }
def TraceJoinsUptoCardSaid : Prop := Claim7.holds Tryd.pinned (.plain (OpenSpec.upto traceJoinsSpec)) traceJoinsUptoCard
end Rows
end Go.Proofs.YtelabakcadhffaaDoor
