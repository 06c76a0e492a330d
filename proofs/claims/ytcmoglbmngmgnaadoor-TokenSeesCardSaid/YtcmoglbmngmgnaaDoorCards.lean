/-
  DERIVED. GIVEN WITH THE SEED: THE CARDS: each row of YtcmoglbmngmgnaaDoorRows.lean that lists a variable, with what it lists TIED to the program's text (the seventh form; the later family's looks); each row that meets fmt, with fmt's text TOLD by the authors' own Lean function (tested against real Go, not proved from fmt's source: count such statements apart). THE CARD IS WHAT COUNTS. Prove the row's statement (the work); the ties are given (YtcmoglbmngmgnaaDoorTie.lean); close each card by the builder's one call (the guide's Derived/Test/ToyasCard.lean, 'card_holds'). Laid BY PROGRAM, IN A SANDBOX (cutbox-door.mjs). By AI agents, Wed Nov 11 2026. No macro, syntax, notation, axiom, sorry.
-/
import Derived.Test.YtcmoglbmngmgnaaDoorRows
import GoSem.ClaimSeven
namespace Go.Proofs.YtcmoglbmngmgnaaDoor
namespace Rows

/-- THE TIED CARD OF 'meridianlaw22.TokenPrints'. -/
def tokenPrintsCard : Claim7 := { stood := { row := tokenPrintsRow, standIns := [], harness := (true, "4d5b5d9729da1220bca4c850fa1a319ba0f48d3bdfc93ba6a9f56cb9aceec3af"), looks := true }, kinds := [], alts := [], laidByText := true, laidKinds := [.data, .data, .data, .data, .sentinel, .sentinel], laidTests := true, laidLooks := .later }
def TokenPrintsCardSaid : Prop := Claim7.holds Tryd.pinned (.plain (OpenSpec.ofChange tokenPrintsSpec)) tokenPrintsCard

/-- THE TIED CARD OF 'meridianlaw22.TokenParses'. -/
def tokenParsesCard : Claim7 := { stood := { row := tokenParsesRow, standIns := [], harness := (true, "4d5b5d9729da1220bca4c850fa1a319ba0f48d3bdfc93ba6a9f56cb9aceec3af"), looks := true }, kinds := [], alts := [], laidByText := true, laidKinds := [.data, .data, .data, .data, .sentinel, .sentinel], laidTests := true, laidLooks := .later }
def TokenParsesCardSaid : Prop := Claim7.holds Tryd.pinned (.plain (OpenSpec.ofChange tokenParsesSpec)) tokenParsesCard

/-- THE TIED CARD OF 'meridianlaw22.TokenSees'. -/
def tokenSeesCard : Claim7 := { stood := { row := tokenSeesRow, standIns := [], harness := (true, "4d5b5d9729da1220bca4c850fa1a319ba0f48d3bdfc93ba6a9f56cb9aceec3af"), looks := true }, kinds := [], alts := [], laidByText := true, laidKinds := [.data, .data, .data, .data, .sentinel, .sentinel], laidTests := true, laidLooks := .later }
def TokenSeesCardSaid : Prop := Claim7.holds Tryd.pinned (.plain (OpenSpec.ofChange tokenSeesSpec)) tokenSeesCard

/-- THE TIED CARD OF 'meridianlaw22.TokenSaw'. -/
def tokenSawCard : Claim7 := { stood := { row := tokenSawRow, standIns := [], harness := (true, "4d5b5d9729da1220bca4c850fa1a319ba0f48d3bdfc93ba6a9f56cb9aceec3af"), looks := true }, kinds := [], alts := [], laidByText := true, laidKinds := [.data, .data, .data, .data], laidTests := true, laidLooks := .later }
def TokenSawCardSaid : Prop := Claim7.holds Tryd.pinned (.plain (OpenSpec.ofChange tokenSawSpec)) tokenSawCard

/-- THE TIED CARD OF 'meridianlaw22.TokenOrder'. -/
def tokenOrderCard : Claim7 := { stood := { row := tokenOrderRow, standIns := [], harness := (true, "4d5b5d9729da1220bca4c850fa1a319ba0f48d3bdfc93ba6a9f56cb9aceec3af"), looks := true }, kinds := [], alts := [], laidByText := true, laidKinds := [.data, .data, .data, .data], laidTests := true, laidLooks := .later }
def TokenOrderCardSaid : Prop := Claim7.holds Tryd.pinned (.plain (OpenSpec.ofChange tokenOrderSpec)) tokenOrderCard

/-- THE SECOND FORM's CARD OF 'meridianlaw22.TokenPrints'. -/
def tokenPrintsUptoCard : Claim7 := { stood := { row := tokenPrintsUptoRow, standIns := [], harness := (true, "4d5b5d9729da1220bca4c850fa1a319ba0f48d3bdfc93ba6a9f56cb9aceec3af"), looks := true }, kinds := [], alts := [], laidByText := true, laidKinds := [.data, .data, .data, .data, .sentinel, .sentinel], laidTests := true, laidLooks := .later }
def TokenPrintsUptoCardSaid : Prop := Claim7.holds Tryd.pinned (.plain (OpenSpec.upto tokenPrintsSpec)) tokenPrintsUptoCard

/-- THE SECOND FORM's CARD OF 'meridianlaw22.TokenParses'. -/
def tokenParsesUptoCard : Claim7 := { stood := { row := tokenParsesUptoRow, standIns := [], harness := (true, "4d5b5d9729da1220bca4c850fa1a319ba0f48d3bdfc93ba6a9f56cb9aceec3af"), looks := true }, kinds := [], alts := [], laidByText := true, laidKinds := [.data, .data, .data, .data, .sentinel, .sentinel], laidTests := true, laidLooks := .later }
def TokenParsesUptoCardSaid : Prop := Claim7.holds Tryd.pinned (.plain (OpenSpec.upto tokenParsesSpec)) tokenParsesUptoCard

/-- THE SECOND FORM's CARD OF 'meridianlaw22.TokenSees'. -/
def tokenSeesUptoCard : Claim7 := { stood := { row := tokenSeesUptoRow, standIns := [], harness := (true, "4d5b5d9729da1220bca4c850fa1a319ba0f48d3bdfc93ba6a9f56cb9aceec3af"), looks := true }, kinds := [], alts := [], laidByText := true, laidKinds := [.data, .data, .data, .data, .sentinel, .sentinel], laidTests := true, laidLooks := .later }
def TokenSeesUptoCardSaid : Prop := Claim7.holds Tryd.pinned (.plain (OpenSpec.upto tokenSeesSpec)) tokenSeesUptoCard

/-- THE SECOND FORM's CARD OF 'meridianlaw22.TokenSaw'. -/
def tokenSawUptoCard : Claim7 := { stood := { row := tokenSawUptoRow, standIns := [], harness := (true, "4d5b5d9729da1220bca4c850fa1a319ba0f48d3bdfc93ba6a9f56cb9aceec3af"), looks := true }, kinds := [], alts := [], laidByText := true, laidKinds := [.data, .data, .data, .data], laidTests := true, laidLooks := .later }
def TokenSawUptoCardSaid : Prop := Claim7.holds Tryd.pinned (.plain (OpenSpec.upto tokenSawSpec)) tokenSawUptoCard

/-- THE SECOND FORM's CARD OF 'meridianlaw22.TokenOrder'. -/
def tokenOrderUptoCard : Claim7 := { stood := { row := tokenOrderUptoRow, standIns := [], harness := (true, "4d5b5d9729da1220bca4c850fa1a319ba0f48d3bdfc93ba6a9f56cb9aceec3af"), looks := true }, kinds := [], alts := [], laidByText := true, laidKinds := [.data, .data, .data, .data], laidTests := true, laidLooks := .later }
def TokenOrderUptoCardSaid : Prop := Claim7.holds Tryd.pinned (.plain (OpenSpec.upto tokenOrderSpec)) tokenOrderUptoCard
end Rows
end Go.Proofs.YtcmoglbmngmgnaaDoor
