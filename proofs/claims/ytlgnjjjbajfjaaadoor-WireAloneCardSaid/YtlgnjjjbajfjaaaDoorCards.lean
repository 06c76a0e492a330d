/-
  DERIVED. GIVEN WITH THE SEED: THE CARDS: each row of YtlgnjjjbajfjaaaDoorRows.lean that lists a variable, with what it lists TIED to the program's text (the seventh form; the later family's looks); each row that meets fmt, with fmt's text TOLD by the authors' own Lean function (tested against real Go, not proved from fmt's source: count such statements apart). THE CARD IS WHAT COUNTS. Prove the row's statement (the work); the ties are given (YtlgnjjjbajfjaaaDoorTie.lean); close each card by the builder's one call (the guide's Derived/Test/ToyasCard.lean, 'card_holds'). Laid BY PROGRAM, IN A SANDBOX (cutbox-door.mjs). By AI agents, Wed Nov 11 2026. No macro, syntax, notation, axiom, sorry.
-/
import Derived.Test.YtlgnjjjbajfjaaaDoorRows
import GoSem.ClaimSeven
namespace Go.Proofs.YtlgnjjjbajfjaaaDoor
namespace Rows

/-- THE TIED CARD OF 'meridianlaw17.WireEncodes'. -/
def wireEncodesCard : Claim7 := { stood := { row := wireEncodesRow, standIns := [], harness := (true, "3c02013f1970368249125e337530d74397a8075cdc29b3831ed8125d512dc903"), looks := false }, kinds := [], alts := [], laidByText := true, laidKinds := [.data], laidTests := true, laidLooks := .later }
def WireEncodesCardSaid : Prop := Claim7.holds Tryd.pinned (.plain (OpenSpec.ofChange wireEncodesSpec)) wireEncodesCard

/-- THE TIED CARD OF 'meridianlaw17.WireDecodes'. -/
def wireDecodesCard : Claim7 := { stood := { row := wireDecodesRow, standIns := [], harness := (true, "3c02013f1970368249125e337530d74397a8075cdc29b3831ed8125d512dc903"), looks := false }, kinds := [], alts := [], laidByText := true, laidKinds := [.data], laidTests := true, laidLooks := .later }
def WireDecodesCardSaid : Prop := Claim7.holds Tryd.pinned (.plain (OpenSpec.ofChange wireDecodesSpec)) wireDecodesCard

/-- THE TIED CARD OF 'meridianlaw17.WireSees'. -/
def wireSeesCard : Claim7 := { stood := { row := wireSeesRow, standIns := [], harness := (true, "3c02013f1970368249125e337530d74397a8075cdc29b3831ed8125d512dc903"), looks := false }, kinds := [], alts := [], laidByText := true, laidKinds := [.data], laidTests := true, laidLooks := .later }
def WireSeesCardSaid : Prop := Claim7.holds Tryd.pinned (.plain (OpenSpec.ofChange wireSeesSpec)) wireSeesCard

/-- THE TIED CARD OF 'meridianlaw17.WireGaps'. -/
def wireGapsCard : Claim7 := { stood := { row := wireGapsRow, standIns := [], harness := (true, "3c02013f1970368249125e337530d74397a8075cdc29b3831ed8125d512dc903"), looks := false }, kinds := [], alts := [], laidByText := true, laidKinds := [.data], laidTests := true, laidLooks := .later }
def WireGapsCardSaid : Prop := Claim7.holds Tryd.pinned (.plain (OpenSpec.ofChange wireGapsSpec)) wireGapsCard

/-- THE TIED CARD OF 'meridianlaw17.WireApart'. -/
def wireApartCard : Claim7 := { stood := { row := wireApartRow, standIns := [], harness := (true, "3c02013f1970368249125e337530d74397a8075cdc29b3831ed8125d512dc903"), looks := false }, kinds := [], alts := [], laidByText := true, laidKinds := [.data], laidTests := true, laidLooks := .later }
def WireApartCardSaid : Prop := Claim7.holds Tryd.pinned (.plain (OpenSpec.ofChange wireApartSpec)) wireApartCard

/-- THE TIED CARD OF 'meridianlaw17.WireAlone'. -/
def wireAloneCard : Claim7 := { stood := { row := wireAloneRow, standIns := [], harness := (true, "3c02013f1970368249125e337530d74397a8075cdc29b3831ed8125d512dc903"), looks := false }, kinds := [], alts := [], laidByText := true, laidKinds := [.data], laidTests := true, laidLooks := .later }
def WireAloneCardSaid : Prop := Claim7.holds Tryd.pinned (.plain (OpenSpec.ofChange wireAloneSpec)) wireAloneCard

/-- THE SECOND FORM's CARD OF 'meridianlaw17.WireEncodes'. -/
def wireEncodesUptoCard : Claim7 := { stood := { row := wireEncodesUptoRow, standIns := [], harness := (true, "3c02013f1970368249125e337530d74397a8075cdc29b3831ed8125d512dc903"), looks := false }, kinds := [], alts := [], laidByText := true, laidKinds := [.data], laidTests := true, laidLooks := .later }
def WireEncodesUptoCardSaid : Prop := Claim7.holds Tryd.pinned (.plain (OpenSpec.upto wireEncodesSpec)) wireEncodesUptoCard

/-- THE SECOND FORM's CARD OF 'meridianlaw17.WireDecodes'. -/
def wireDecodesUptoCard : Claim7 := { stood := { row := wireDecodesUptoRow, standIns := [], harness := (true, "3c02013f1970368249125e337530d74397a8075cdc29b3831ed8125d512dc903"), looks := false }, kinds := [], alts := [], laidByText := true, laidKinds := [.data], laidTests := true, laidLooks := .later }
def WireDecodesUptoCardSaid : Prop := Claim7.holds Tryd.pinned (.plain (OpenSpec.upto wireDecodesSpec)) wireDecodesUptoCard

/-- THE SECOND FORM's CARD OF 'meridianlaw17.WireSees'. -/
def wireSeesUptoCard : Claim7 := { stood := { row := wireSeesUptoRow, standIns := [], harness := (true, "3c02013f1970368249125e337530d74397a8075cdc29b3831ed8125d512dc903"), looks := false }, kinds := [], alts := [], laidByText := true, laidKinds := [.data], laidTests := true, laidLooks := .later }
def WireSeesUptoCardSaid : Prop := Claim7.holds Tryd.pinned (.plain (OpenSpec.upto wireSeesSpec)) wireSeesUptoCard

/-- THE SECOND FORM's CARD OF 'meridianlaw17.WireGaps'. -/
def wireGapsUptoCard : Claim7 := { stood := { row := wireGapsUptoRow, standIns := [], harness := (true, "3c02013f1970368249125e337530d74397a8075cdc29b3831ed8125d512dc903"), looks := false }, kinds := [], alts := [], laidByText := true, laidKinds := [.data], laidTests := true, laidLooks := .later }
def WireGapsUptoCardSaid : Prop := Claim7.holds Tryd.pinned (.plain (OpenSpec.upto wireGapsSpec)) wireGapsUptoCard

/-- THE SECOND FORM's CARD OF 'meridianlaw17.WireApart'. -/
def wireApartUptoCard : Claim7 := { stood := { row := wireApartUptoRow, standIns := [], harness := (true, "3c02013f1970368249125e337530d74397a8075cdc29b3831ed8125d512dc903"), looks := false }, kinds := [], alts := [], laidByText := true, laidKinds := [.data], laidTests := true, laidLooks := .later }
def WireApartUptoCardSaid : Prop := Claim7.holds Tryd.pinned (.plain (OpenSpec.upto wireApartSpec)) wireApartUptoCard

/-- THE SECOND FORM's CARD OF 'meridianlaw17.WireAlone'. -/
def wireAloneUptoCard : Claim7 := { stood := { row := wireAloneUptoRow, standIns := [], harness := (true, "3c02013f1970368249125e337530d74397a8075cdc29b3831ed8125d512dc903"), looks := false }, kinds := [], alts := [], laidByText := true, laidKinds := [.data], laidTests := true, laidLooks := .later }
def WireAloneUptoCardSaid : Prop := Claim7.holds Tryd.pinned (.plain (OpenSpec.upto wireAloneSpec)) wireAloneUptoCard
end Rows
end Go.Proofs.YtlgnjjjbajfjaaaDoor
