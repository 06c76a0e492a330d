/-
  DERIVED. GIVEN WITH THE SEED: THE CARDS: each row of YtlmbhiidbcpihaaDoorRows.lean that lists a variable, with what it lists TIED to the program's text (the seventh form; the later family's looks); each row that meets fmt, with fmt's text TOLD by the authors' own Lean function (tested against real Go, not proved from fmt's source: count such statements apart). THE CARD IS WHAT COUNTS. Prove the row's statement (the work); the ties are given (YtlmbhiidbcpihaaDoorTie.lean); close each card by the builder's one call (the guide's Derived/Test/ToyasCard.lean, 'card_holds'). Laid BY PROGRAM, IN A SANDBOX (cutbox-door.mjs). By AI agents, Wed Nov 11 2026. No macro, syntax, notation, axiom, sorry.
-/
import Derived.Test.YtlmbhiidbcpihaaDoorRows
import GoSem.ClaimSeven
namespace Go.Proofs.YtlmbhiidbcpihaaDoor
namespace Rows

/-- THE TIED CARD OF 'meridianlaw2.CalParse'. -/
def calParseCard : Claim7 := { stood := { row := calParseRow, standIns := [], harness := (true, "df16ac1f4e4c7b9800089368f7e9aa5ed7476eb4de3460eaaa6bfe5ba10b09c6"), looks := false }, kinds := [], alts := [], laidByText := true, laidKinds := [.data, .data, .data], laidTests := true, laidLooks := .later }
def CalParseCardSaid : Prop := Claim7.holds Tryd.pinned (.plain (OpenSpec.ofChange calParseSpec)) calParseCard

/-- THE TIED CARD OF 'meridianlaw2.CalPrint'. -/
def calPrintCard : Claim7 := { stood := { row := calPrintRow, standIns := [], harness := (true, "df16ac1f4e4c7b9800089368f7e9aa5ed7476eb4de3460eaaa6bfe5ba10b09c6"), looks := false }, kinds := [], alts := [], laidByText := true, laidKinds := [.data, .data, .data], laidTests := true, laidLooks := .later }
def CalPrintCardSaid : Prop := Claim7.holds Tryd.pinned (.plain (OpenSpec.ofChange calPrintSpec)) calPrintCard

/-- THE TIED CARD OF 'meridianlaw2.CalOrder'. -/
def calOrderCard : Claim7 := { stood := { row := calOrderRow, standIns := [], harness := (true, "df16ac1f4e4c7b9800089368f7e9aa5ed7476eb4de3460eaaa6bfe5ba10b09c6"), looks := false }, kinds := [], alts := [], laidByText := true, laidKinds := [.data, .data, .data], laidTests := true, laidLooks := .later }
def CalOrderCardSaid : Prop := Claim7.holds Tryd.pinned (.plain (OpenSpec.ofChange calOrderSpec)) calOrderCard

/-- THE SECOND FORM's CARD OF 'meridianlaw2.CalParse'. -/
def calParseUptoCard : Claim7 := { stood := { row := calParseUptoRow, standIns := [], harness := (true, "df16ac1f4e4c7b9800089368f7e9aa5ed7476eb4de3460eaaa6bfe5ba10b09c6"), looks := false }, kinds := [], alts := [], laidByText := true, laidKinds := [.data, .data, .data], laidTests := true, laidLooks := .later }
def CalParseUptoCardSaid : Prop := Claim7.holds Tryd.pinned (.plain (OpenSpec.upto calParseSpec)) calParseUptoCard

/-- THE SECOND FORM's CARD OF 'meridianlaw2.CalPrint'. -/
def calPrintUptoCard : Claim7 := { stood := { row := calPrintUptoRow, standIns := [], harness := (true, "df16ac1f4e4c7b9800089368f7e9aa5ed7476eb4de3460eaaa6bfe5ba10b09c6"), looks := false }, kinds := [], alts := [], laidByText := true, laidKinds := [.data, .data, .data], laidTests := true, laidLooks := .later }
def CalPrintUptoCardSaid : Prop := Claim7.holds Tryd.pinned (.plain (OpenSpec.upto calPrintSpec)) calPrintUptoCard

/-- THE SECOND FORM's CARD OF 'meridianlaw2.CalOrder'. -/
def calOrderUptoCard : Claim7 := { stood := { row := calOrderUptoRow, standIns := [], harness := (true, "df16ac1f4e4c7b9800089368f7e9aa5ed7476eb4de3460eaaa6bfe5ba10b09c6"), looks := false }, kinds := [], alts := [], laidByText := true, laidKinds := [.data, .data, .data], laidTests := true, laidLooks := .later }
def CalOrderUptoCardSaid : Prop := Claim7.holds Tryd.pinned (.plain (OpenSpec.upto calOrderSpec)) calOrderUptoCard
end Rows
end Go.Proofs.YtlmbhiidbcpihaaDoor
