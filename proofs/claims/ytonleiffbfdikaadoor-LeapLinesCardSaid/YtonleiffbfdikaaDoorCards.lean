/-
  DERIVED. GIVEN WITH THE SEED: THE CARDS: each row of YtonleiffbfdikaaDoorRows.lean that lists a variable, with what it lists TIED to the program's text (the seventh form; the later family's looks); each row that meets fmt, with fmt's text TOLD by the authors' own Lean function (tested against real Go, not proved from fmt's source: count such statements apart). THE CARD IS WHAT COUNTS. Prove the row's statement (the work); the ties are given (YtonleiffbfdikaaDoorTie.lean); close each card by the builder's one call (the guide's Derived/Test/ToyasCard.lean, 'card_holds'). Laid BY PROGRAM, IN A SANDBOX (cutbox-door.mjs). By AI agents, Wed Nov 11 2026. No macro, syntax, notation, axiom, sorry.
-/
import Derived.Test.YtonleiffbfdikaaDoorRows
import GoSem.ClaimSeven
namespace Go.Proofs.YtonleiffbfdikaaDoor
namespace Rows

/-- THE TIED CARD OF 'meridianlaw3.LeapOf'. -/
def leapOfCard : Claim7 := { stood := { row := leapOfRow, standIns := [], harness := (true, "bcf7473a912833cf1c3129932a1598982fecb1b1cf9b7d7e2945cb7e897a9179"), looks := false }, kinds := [], alts := [], laidByText := true, laidKinds := [.data, .pinned], laidTests := true, laidLooks := .later }
def LeapOfCardSaid : Prop := Claim7.holds Tryd.pinned (.plain (OpenSpec.ofChange leapOfSpec)) leapOfCard

/-- THE TIED CARD OF 'meridianlaw3.LeapOffsets'. -/
def leapOffsetsCard : Claim7 := { stood := { row := leapOffsetsRow, standIns := [], harness := (true, "bcf7473a912833cf1c3129932a1598982fecb1b1cf9b7d7e2945cb7e897a9179"), looks := false }, kinds := [], alts := [], laidByText := true, laidKinds := [.data, .pinned], laidTests := true, laidLooks := .later }
def LeapOffsetsCardSaid : Prop := Claim7.holds Tryd.pinned (.plain (OpenSpec.ofChange leapOffsetsSpec)) leapOffsetsCard

/-- THE TIED CARD OF 'meridianlaw3.LeapPrint'. -/
def leapPrintCard : Claim7 := { stood := { row := leapPrintRow, standIns := [], harness := (true, "bcf7473a912833cf1c3129932a1598982fecb1b1cf9b7d7e2945cb7e897a9179"), looks := false }, kinds := [], alts := [], laidByText := true, laidKinds := [.data, .data, .data, .data, .pinned], laidTests := true, laidLooks := .later }
def LeapPrintCardSaid : Prop := Claim7.holds Tryd.pinned (.plain (OpenSpec.ofChange leapPrintSpec)) leapPrintCard

/-- THE TIED CARD OF 'meridianlaw3.LeapSums'. -/
def leapSumsCard : Claim7 := { stood := { row := leapSumsRow, standIns := [], harness := (true, "bcf7473a912833cf1c3129932a1598982fecb1b1cf9b7d7e2945cb7e897a9179"), looks := false }, kinds := [], alts := [], laidByText := true, laidKinds := [.data, .pinned], laidTests := true, laidLooks := .later }
def LeapSumsCardSaid : Prop := Claim7.holds Tryd.pinned (.plain (OpenSpec.ofChange leapSumsSpec)) leapSumsCard

/-- THE TIED CARD OF 'meridianlaw3.LeapSteps'. -/
def leapStepsCard : Claim7 := { stood := { row := leapStepsRow, standIns := [], harness := (true, "bcf7473a912833cf1c3129932a1598982fecb1b1cf9b7d7e2945cb7e897a9179"), looks := false }, kinds := [], alts := [], laidByText := true, laidKinds := [.data, .pinned], laidTests := true, laidLooks := .later }
def LeapStepsCardSaid : Prop := Claim7.holds Tryd.pinned (.plain (OpenSpec.ofChange leapStepsSpec)) leapStepsCard

/-- THE TIED CARD OF 'meridianlaw3.LeapBad'. -/
def leapBadCard : Claim7 := { stood := { row := leapBadRow, standIns := [], harness := (true, "bcf7473a912833cf1c3129932a1598982fecb1b1cf9b7d7e2945cb7e897a9179"), looks := false }, kinds := [], alts := [], laidByText := true, laidKinds := [.data, .data, .data, .data, .pinned], laidTests := true, laidLooks := .later }
def LeapBadCardSaid : Prop := Claim7.holds Tryd.pinned (.plain (OpenSpec.ofChange leapBadSpec)) leapBadCard

/-- THE TIED CARD OF 'meridianlaw3.LeapLines'. -/
def leapLinesCard : Claim7 := { stood := { row := leapLinesRow, standIns := [], harness := (true, "bcf7473a912833cf1c3129932a1598982fecb1b1cf9b7d7e2945cb7e897a9179"), looks := false }, kinds := [], alts := [], laidByText := true, laidKinds := [.data, .data, .data, .data, .pinned], laidTests := true, laidLooks := .later }
def LeapLinesCardSaid : Prop := Claim7.holds Tryd.pinned (.plain (OpenSpec.ofChange leapLinesSpec)) leapLinesCard

/-- THE TIED CARD OF 'meridianlaw3.LeapEnds'. -/
def leapEndsCard : Claim7 := { stood := { row := leapEndsRow, standIns := [], harness := (true, "bcf7473a912833cf1c3129932a1598982fecb1b1cf9b7d7e2945cb7e897a9179"), looks := false }, kinds := [], alts := [], laidByText := true, laidKinds := [.data, .pinned], laidTests := true, laidLooks := .later }
def LeapEndsCardSaid : Prop := Claim7.holds Tryd.pinned (.plain (OpenSpec.ofChange leapEndsSpec)) leapEndsCard

/-- THE SECOND FORM's CARD OF 'meridianlaw3.LeapOf'. -/
def leapOfUptoCard : Claim7 := { stood := { row := leapOfUptoRow, standIns := [], harness := (true, "bcf7473a912833cf1c3129932a1598982fecb1b1cf9b7d7e2945cb7e897a9179"), looks := false }, kinds := [], alts := [], laidByText := true, laidKinds := [.data, .pinned], laidTests := true, laidLooks := .later }
def LeapOfUptoCardSaid : Prop := Claim7.holds Tryd.pinned (.plain (OpenSpec.upto leapOfSpec)) leapOfUptoCard

/-- THE SECOND FORM's CARD OF 'meridianlaw3.LeapOffsets'. -/
def leapOffsetsUptoCard : Claim7 := { stood := { row := leapOffsetsUptoRow, standIns := [], harness := (true, "bcf7473a912833cf1c3129932a1598982fecb1b1cf9b7d7e2945cb7e897a9179"), looks := false }, kinds := [], alts := [], laidByText := true, laidKinds := [.data, .pinned], laidTests := true, laidLooks := .later }
def LeapOffsetsUptoCardSaid : Prop := Claim7.holds Tryd.pinned (.plain (OpenSpec.upto leapOffsetsSpec)) leapOffsetsUptoCard

/-- THE SECOND FORM's CARD OF 'meridianlaw3.LeapPrint'. -/
def leapPrintUptoCard : Claim7 := { stood := { row := leapPrintUptoRow, standIns := [], harness := (true, "bcf7473a912833cf1c3129932a1598982fecb1b1cf9b7d7e2945cb7e897a9179"), looks := false }, kinds := [], alts := [], laidByText := true, laidKinds := [.data, .data, .data, .data, .pinned], laidTests := true, laidLooks := .later }
def LeapPrintUptoCardSaid : Prop := Claim7.holds Tryd.pinned (.plain (OpenSpec.upto leapPrintSpec)) leapPrintUptoCard

/-- THE SECOND FORM's CARD OF 'meridianlaw3.LeapSums'. -/
def leapSumsUptoCard : Claim7 := { stood := { row := leapSumsUptoRow, standIns := [], harness := (true, "bcf7473a912833cf1c3129932a1598982fecb1b1cf9b7d7e2945cb7e897a9179"), looks := false }, kinds := [], alts := [], laidByText := true, laidKinds := [.data, .pinned], laidTests := true, laidLooks := .later }
def LeapSumsUptoCardSaid : Prop := Claim7.holds Tryd.pinned (.plain (OpenSpec.upto leapSumsSpec)) leapSumsUptoCard

/-- THE SECOND FORM's CARD OF 'meridianlaw3.LeapSteps'. -/
def leapStepsUptoCard : Claim7 := { stood := { row := leapStepsUptoRow, standIns := [], harness := (true, "bcf7473a912833cf1c3129932a1598982fecb1b1cf9b7d7e2945cb7e897a9179"), looks := false }, kinds := [], alts := [], laidByText := true, laidKinds := [.data, .pinned], laidTests := true, laidLooks := .later }
def LeapStepsUptoCardSaid : Prop := Claim7.holds Tryd.pinned (.plain (OpenSpec.upto leapStepsSpec)) leapStepsUptoCard

/-- THE SECOND FORM's CARD OF 'meridianlaw3.LeapBad'. -/
def leapBadUptoCard : Claim7 := { stood := { row := leapBadUptoRow, standIns := [], harness := (true, "bcf7473a912833cf1c3129932a1598982fecb1b1cf9b7d7e2945cb7e897a9179"), looks := false }, kinds := [], alts := [], laidByText := true, laidKinds := [.data, .data, .data, .data, .pinned], laidTests := true, laidLooks := .later }
def LeapBadUptoCardSaid : Prop := Claim7.holds Tryd.pinned (.plain (OpenSpec.upto leapBadSpec)) leapBadUptoCard

/-- THE SECOND FORM's CARD OF 'meridianlaw3.LeapLines'. -/
def leapLinesUptoCard : Claim7 := { stood := { row := leapLinesUptoRow, standIns := [], harness := (true, "bcf7473a912833cf1c3129932a1598982fecb1b1cf9b7d7e2945cb7e897a9179"), looks := false }, kinds := [], alts := [], laidByText := true, laidKinds := [.data, .data, .data, .data, .pinned], laidTests := true, laidLooks := .later }
def LeapLinesUptoCardSaid : Prop := Claim7.holds Tryd.pinned (.plain (OpenSpec.upto leapLinesSpec)) leapLinesUptoCard

/-- THE SECOND FORM's CARD OF 'meridianlaw3.LeapEnds'. -/
def leapEndsUptoCard : Claim7 := { stood := { row := leapEndsUptoRow, standIns := [], harness := (true, "bcf7473a912833cf1c3129932a1598982fecb1b1cf9b7d7e2945cb7e897a9179"), looks := false }, kinds := [], alts := [], laidByText := true, laidKinds := [.data, .pinned], laidTests := true, laidLooks := .later }
def LeapEndsUptoCardSaid : Prop := Claim7.holds Tryd.pinned (.plain (OpenSpec.upto leapEndsSpec)) leapEndsUptoCard
end Rows
end Go.Proofs.YtonleiffbfdikaaDoor
