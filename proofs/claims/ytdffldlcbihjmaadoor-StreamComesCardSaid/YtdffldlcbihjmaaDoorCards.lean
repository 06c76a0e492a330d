/-
  DERIVED. GIVEN WITH THE SEED: THE CARDS: each row of YtdffldlcbihjmaaDoorRows.lean that lists a variable, with what it lists TIED to the program's text (the seventh form; the later family's looks); each row that meets fmt, with fmt's text TOLD by the authors' own Lean function (tested against real Go, not proved from fmt's source: count such statements apart). THE CARD IS WHAT COUNTS. Prove the row's statement (the work); the ties are given (YtdffldlcbihjmaaDoorTie.lean); close each card by the builder's one call (the guide's Derived/Test/ToyasCard.lean, 'card_holds'). Laid BY PROGRAM, IN A SANDBOX (cutbox-door.mjs). By AI agents, Wed Nov 11 2026. No macro, syntax, notation, axiom, sorry.
-/
import Derived.Test.YtdffldlcbihjmaaDoorRows
import GoSem.ClaimSeven
namespace Go.Proofs.YtdffldlcbihjmaaDoor
namespace Rows

/-- THE TIED CARD OF 'meridianlaw17.WireEncodes'. -/
def wireEncodesCard : Claim7 := { stood := { row := wireEncodesRow, standIns := [], harness := (true, "54f72d19c22bfa526c071de7e4c44fbc15d3b918163002153eb09c4f955f87ff"), looks := false }, kinds := [], alts := [], laidByText := true, laidKinds := [.data], laidTests := true, laidLooks := .later }
def WireEncodesCardSaid : Prop := Claim7.holds Tryd.pinned (.plain (OpenSpec.ofChange wireEncodesSpec)) wireEncodesCard

/-- THE TIED CARD OF 'meridianlaw17.WireDecodes'. -/
def wireDecodesCard : Claim7 := { stood := { row := wireDecodesRow, standIns := [], harness := (true, "54f72d19c22bfa526c071de7e4c44fbc15d3b918163002153eb09c4f955f87ff"), looks := false }, kinds := [], alts := [], laidByText := true, laidKinds := [.data], laidTests := true, laidLooks := .later }
def WireDecodesCardSaid : Prop := Claim7.holds Tryd.pinned (.plain (OpenSpec.ofChange wireDecodesSpec)) wireDecodesCard

/-- THE TIED CARD OF 'meridianlaw18.StreamSends'. -/
def streamSendsCard : Claim7 := { stood := { row := streamSendsRow, standIns := [], harness := (true, "54f72d19c22bfa526c071de7e4c44fbc15d3b918163002153eb09c4f955f87ff"), looks := false }, kinds := [], alts := [], laidByText := true, laidKinds := [.data], laidTests := true, laidLooks := .later }
def StreamSendsCardSaid : Prop := Claim7.holds Tryd.pinned (.plain (OpenSpec.ofChange streamSendsSpec)) streamSendsCard

/-- THE TIED CARD OF 'meridianlaw18.StreamTakes'. -/
def streamTakesCard : Claim7 := { stood := { row := streamTakesRow, standIns := [], harness := (true, "54f72d19c22bfa526c071de7e4c44fbc15d3b918163002153eb09c4f955f87ff"), looks := false }, kinds := [], alts := [], laidByText := true, laidKinds := [.data], laidTests := true, laidLooks := .later }
def StreamTakesCardSaid : Prop := Claim7.holds Tryd.pinned (.plain (OpenSpec.ofChange streamTakesSpec)) streamTakesCard

/-- THE TIED CARD OF 'meridianlaw18.StreamComes'. -/
def streamComesCard : Claim7 := { stood := { row := streamComesRow, standIns := [], harness := (true, "54f72d19c22bfa526c071de7e4c44fbc15d3b918163002153eb09c4f955f87ff"), looks := false }, kinds := [], alts := [], laidByText := true, laidKinds := [.data], laidTests := true, laidLooks := .later }
def StreamComesCardSaid : Prop := Claim7.holds Tryd.pinned (.plain (OpenSpec.ofChange streamComesSpec)) streamComesCard

/-- THE TIED CARD OF 'meridianlaw18.StreamOfNothing'. -/
def streamOfNothingCard : Claim7 := { stood := { row := streamOfNothingRow, standIns := [], harness := (true, "54f72d19c22bfa526c071de7e4c44fbc15d3b918163002153eb09c4f955f87ff"), looks := false }, kinds := [], alts := [], laidByText := true, laidKinds := [.data], laidTests := true, laidLooks := .later }
def StreamOfNothingCardSaid : Prop := Claim7.holds Tryd.pinned (.plain (OpenSpec.ofChange streamOfNothingSpec)) streamOfNothingCard

/-- THE TIED CARD OF 'meridianlaw18.StreamSame'. -/
def streamSameCard : Claim7 := { stood := { row := streamSameRow, standIns := [], harness := (true, "54f72d19c22bfa526c071de7e4c44fbc15d3b918163002153eb09c4f955f87ff"), looks := false }, kinds := [], alts := [], laidByText := true, laidKinds := [.data], laidTests := true, laidLooks := .later }
def StreamSameCardSaid : Prop := Claim7.holds Tryd.pinned (.plain (OpenSpec.ofChange streamSameSpec)) streamSameCard

/-- THE TIED CARD OF 'meridianlaw18.StreamOnce'. -/
def streamOnceCard : Claim7 := { stood := { row := streamOnceRow, standIns := [], harness := (true, "54f72d19c22bfa526c071de7e4c44fbc15d3b918163002153eb09c4f955f87ff"), looks := false }, kinds := [], alts := [], laidByText := true, laidKinds := [.data], laidTests := true, laidLooks := .later }
def StreamOnceCardSaid : Prop := Claim7.holds Tryd.pinned (.plain (OpenSpec.ofChange streamOnceSpec)) streamOnceCard

/-- THE TIED CARD OF 'meridianlaw18.StreamAgain'. -/
def streamAgainCard : Claim7 := { stood := { row := streamAgainRow, standIns := [], harness := (true, "54f72d19c22bfa526c071de7e4c44fbc15d3b918163002153eb09c4f955f87ff"), looks := false }, kinds := [], alts := [], laidByText := true, laidKinds := [.data], laidTests := true, laidLooks := .later }
def StreamAgainCardSaid : Prop := Claim7.holds Tryd.pinned (.plain (OpenSpec.ofChange streamAgainSpec)) streamAgainCard

/-- THE SECOND FORM's CARD OF 'meridianlaw17.WireEncodes'. -/
def wireEncodesUptoCard : Claim7 := { stood := { row := wireEncodesUptoRow, standIns := [], harness := (true, "54f72d19c22bfa526c071de7e4c44fbc15d3b918163002153eb09c4f955f87ff"), looks := false }, kinds := [], alts := [], laidByText := true, laidKinds := [.data], laidTests := true, laidLooks := .later }
def WireEncodesUptoCardSaid : Prop := Claim7.holds Tryd.pinned (.plain (OpenSpec.upto wireEncodesSpec)) wireEncodesUptoCard

/-- THE SECOND FORM's CARD OF 'meridianlaw17.WireDecodes'. -/
def wireDecodesUptoCard : Claim7 := { stood := { row := wireDecodesUptoRow, standIns := [], harness := (true, "54f72d19c22bfa526c071de7e4c44fbc15d3b918163002153eb09c4f955f87ff"), looks := false }, kinds := [], alts := [], laidByText := true, laidKinds := [.data], laidTests := true, laidLooks := .later }
def WireDecodesUptoCardSaid : Prop := Claim7.holds Tryd.pinned (.plain (OpenSpec.upto wireDecodesSpec)) wireDecodesUptoCard

/-- THE SECOND FORM's CARD OF 'meridianlaw18.StreamSends'. -/
def streamSendsUptoCard : Claim7 := { stood := { row := streamSendsUptoRow, standIns := [], harness := (true, "54f72d19c22bfa526c071de7e4c44fbc15d3b918163002153eb09c4f955f87ff"), looks := false }, kinds := [], alts := [], laidByText := true, laidKinds := [.data], laidTests := true, laidLooks := .later }
def StreamSendsUptoCardSaid : Prop := Claim7.holds Tryd.pinned (.plain (OpenSpec.upto streamSendsSpec)) streamSendsUptoCard

/-- THE SECOND FORM's CARD OF 'meridianlaw18.StreamTakes'. -/
def streamTakesUptoCard : Claim7 := { stood := { row := streamTakesUptoRow, standIns := [], harness := (true, "54f72d19c22bfa526c071de7e4c44fbc15d3b918163002153eb09c4f955f87ff"), looks := false }, kinds := [], alts := [], laidByText := true, laidKinds := [.data], laidTests := true, laidLooks := .later }
def StreamTakesUptoCardSaid : Prop := Claim7.holds Tryd.pinned (.plain (OpenSpec.upto streamTakesSpec)) streamTakesUptoCard

/-- THE SECOND FORM's CARD OF 'meridianlaw18.StreamComes'. -/
def streamComesUptoCard : Claim7 := { stood := { row := streamComesUptoRow, standIns := [], harness := (true, "54f72d19c22bfa526c071de7e4c44fbc15d3b918163002153eb09c4f955f87ff"), looks := false }, kinds := [], alts := [], laidByText := true, laidKinds := [.data], laidTests := true, laidLooks := .later }
def StreamComesUptoCardSaid : Prop := Claim7.holds Tryd.pinned (.plain (OpenSpec.upto streamComesSpec)) streamComesUptoCard

/-- THE SECOND FORM's CARD OF 'meridianlaw18.StreamOfNothing'. -/
def streamOfNothingUptoCard : Claim7 := { stood := { row := streamOfNothingUptoRow, standIns := [], harness := (true, "54f72d19c22bfa526c071de7e4c44fbc15d3b918163002153eb09c4f955f87ff"), looks := false }, kinds := [], alts := [], laidByText := true, laidKinds := [.data], laidTests := true, laidLooks := .later }
def StreamOfNothingUptoCardSaid : Prop := Claim7.holds Tryd.pinned (.plain (OpenSpec.upto streamOfNothingSpec)) streamOfNothingUptoCard

/-- THE SECOND FORM's CARD OF 'meridianlaw18.StreamSame'. -/
def streamSameUptoCard : Claim7 := { stood := { row := streamSameUptoRow, standIns := [], harness := (true, "54f72d19c22bfa526c071de7e4c44fbc15d3b918163002153eb09c4f955f87ff"), looks := false }, kinds := [], alts := [], laidByText := true, laidKinds := [.data], laidTests := true, laidLooks := .later }
def StreamSameUptoCardSaid : Prop := Claim7.holds Tryd.pinned (.plain (OpenSpec.upto streamSameSpec)) streamSameUptoCard

/-- THE SECOND FORM's CARD OF 'meridianlaw18.StreamOnce'. -/
def streamOnceUptoCard : Claim7 := { stood := { row := streamOnceUptoRow, standIns := [], harness := (true, "54f72d19c22bfa526c071de7e4c44fbc15d3b918163002153eb09c4f955f87ff"), looks := false }, kinds := [], alts := [], laidByText := true, laidKinds := [.data], laidTests := true, laidLooks := .later }
def StreamOnceUptoCardSaid : Prop := Claim7.holds Tryd.pinned (.plain (OpenSpec.upto streamOnceSpec)) streamOnceUptoCard

/-- THE SECOND FORM's CARD OF 'meridianlaw18.StreamAgain'. -/
def streamAgainUptoCard : Claim7 := { stood := { row := streamAgainUptoRow, standIns := [], harness := (true, "54f72d19c22bfa526c071de7e4c44fbc15d3b918163002153eb09c4f955f87ff"), looks := false }, kinds := [], alts := [], laidByText := true, laidKinds := [.data], laidTests := true, laidLooks := .later }
def StreamAgainUptoCardSaid : Prop := Claim7.holds Tryd.pinned (.plain (OpenSpec.upto streamAgainSpec)) streamAgainUptoCard
end Rows
end Go.Proofs.YtdffldlcbihjmaaDoor
