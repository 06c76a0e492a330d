/-
  No cell of these rows narrows 'for every input' (looked for: loops, veiled, ifaces, maps, wideKeys, modest, calm, conditions, laid).
  DERIVED. THE GIVEN ROWS OF THIS SEAT. 6 by the template 'for every input the law returns true; each argument reads behind the call as it read before'; 0 by the template 'total and deterministic' (their statements: YtdkcdaknifikeaaTotals.lean).
  GIVEN WITH THE SEED: the statements are not yours to turn. If you find one false, say at which input.
  Laid BY PROGRAM, IN A SANDBOX (cutbox-rows.mjs): the forced cells as the released guide's own fill.sh prints them over the translation ff520e85f397fe34… (all of the seat's roots in one cut). By AI agents, Wed Nov 11 2026. No macro, syntax, notation, axiom, sorry.
-/
import Derived.Test.YtdkcdaknifikeaaChecked
import GoSem.Claim
import GoSem.ClaimJoined
import GoSem.ClaimMapViews
import Derived.JoinedTies
import Derived.KernelRfl
namespace Go.Proofs.Ytdkcdaknifikeaa
/- THE CELL 'sum', in the pinned program and in every row, IS THE sha256 OF THE DUMP (.gsa) THAT YtdkcdaknifikeaaProg.lean LOADS. Nothing in Lean hashes anything: it is a label: what it is worth is what the hold of that sum in a sandbox is worth. -/
noncomputable def Try.pinned : Pinned := { name := "ytdkcdaknifikeaa", sum := "ff520e85f397fe343af9dcd8de1fc51439cfa828dd61c07849cb2820e3dd1c65", checked := Try.checked }
namespace Rows
def none {H : Type} : Left H := { results := [], args := [] }

/-- 'meridianlaw7.AgreeMost': WHATEVER THE INPUT: true; the input reads as it did. -/
def agreeMostSpec : ChangeSpec := { name := "agreeMost", fn := fun _ => fun
  | [d] => { results := [.lit (.bool true)], args := [d] }
  | _ => none }
def agreeMostRow : OpenClaim := { program := "ytdkcdaknifikeaa", sum := "ff520e85f397fe343af9dcd8de1fc51439cfa828dd61c07849cb2820e3dd1c65", func := "meridian/meridianlaw7.AgreeMost", spec := "agreeMost", recurses := true, apart := false }
def AgreeMostSaid : Prop := agreeMostRow.holds Try.pinned (OpenSpec.ofChange agreeMostSpec)

/-- ITS FALSE NEIGHBOUR: 'it returns false'. Refute it at one input. -/
def agreeMostWrong : ChangeSpec := { name := "agreeMost", fn := fun _ => fun
  | [d] => { results := [.lit (.bool false)], args := [d] }
  | _ => none }
def AgreeMostWrongFalsely : Prop := agreeMostRow.holds Try.pinned (OpenSpec.ofChange agreeMostWrong)

/-- 'meridianlaw7.AgreeTurns': WHATEVER THE INPUT: true; the input reads as it did. -/
def agreeTurnsSpec : ChangeSpec := { name := "agreeTurns", fn := fun _ => fun
  | [d1, d2] => { results := [.lit (.bool true)], args := [d1, d2] }
  | _ => none }
def agreeTurnsRow : OpenClaim := { program := "ytdkcdaknifikeaa", sum := "ff520e85f397fe343af9dcd8de1fc51439cfa828dd61c07849cb2820e3dd1c65", func := "meridian/meridianlaw7.AgreeTurns", spec := "agreeTurns", recurses := true, apart := false }
def AgreeTurnsSaid : Prop := agreeTurnsRow.holds Try.pinned (OpenSpec.ofChange agreeTurnsSpec)

/-- ITS FALSE NEIGHBOUR: 'it returns false'. Refute it at one input. -/
def agreeTurnsWrong : ChangeSpec := { name := "agreeTurns", fn := fun _ => fun
  | [d1, d2] => { results := [.lit (.bool false)], args := [d1, d2] }
  | _ => none }
def AgreeTurnsWrongFalsely : Prop := agreeTurnsRow.holds Try.pinned (OpenSpec.ofChange agreeTurnsWrong)

/-- 'meridianlaw7.AgreeIn': WHATEVER THE INPUT: true; the input reads as it did. -/
def agreeInSpec : ChangeSpec := { name := "agreeIn", fn := fun _ => fun
  | [d1, d2] => { results := [.lit (.bool true)], args := [d1, d2] }
  | _ => none }
def agreeInRow : OpenClaim := { program := "ytdkcdaknifikeaa", sum := "ff520e85f397fe343af9dcd8de1fc51439cfa828dd61c07849cb2820e3dd1c65", func := "meridian/meridianlaw7.AgreeIn", spec := "agreeIn", recurses := true, apart := false }
def AgreeInSaid : Prop := agreeInRow.holds Try.pinned (OpenSpec.ofChange agreeInSpec)

/-- ITS FALSE NEIGHBOUR: 'it returns false'. Refute it at one input. -/
def agreeInWrong : ChangeSpec := { name := "agreeIn", fn := fun _ => fun
  | [d1, d2] => { results := [.lit (.bool false)], args := [d1, d2] }
  | _ => none }
def AgreeInWrongFalsely : Prop := agreeInRow.holds Try.pinned (OpenSpec.ofChange agreeInWrong)

/-- 'meridianlaw7.AgreeTrue': WHATEVER THE INPUT: true; the input reads as it did. -/
def agreeTrueSpec : ChangeSpec := { name := "agreeTrue", fn := fun _ => fun
  | [d1, d2, d3] => { results := [.lit (.bool true)], args := [d1, d2, d3] }
  | _ => none }
def agreeTrueRow : OpenClaim := { program := "ytdkcdaknifikeaa", sum := "ff520e85f397fe343af9dcd8de1fc51439cfa828dd61c07849cb2820e3dd1c65", func := "meridian/meridianlaw7.AgreeTrue", spec := "agreeTrue", recurses := true, apart := false }
def AgreeTrueSaid : Prop := agreeTrueRow.holds Try.pinned (OpenSpec.ofChange agreeTrueSpec)

/-- ITS FALSE NEIGHBOUR: 'it returns false'. Refute it at one input. -/
def agreeTrueWrong : ChangeSpec := { name := "agreeTrue", fn := fun _ => fun
  | [d1, d2, d3] => { results := [.lit (.bool false)], args := [d1, d2, d3] }
  | _ => none }
def AgreeTrueWrongFalsely : Prop := agreeTrueRow.holds Try.pinned (OpenSpec.ofChange agreeTrueWrong)

/-- 'meridianlaw7.AgreeGrows': WHATEVER THE INPUT: true; the input reads as it did. -/
def agreeGrowsSpec : ChangeSpec := { name := "agreeGrows", fn := fun _ => fun
  | [d1, d2] => { results := [.lit (.bool true)], args := [d1, d2] }
  | _ => none }
def agreeGrowsRow : OpenClaim := { program := "ytdkcdaknifikeaa", sum := "ff520e85f397fe343af9dcd8de1fc51439cfa828dd61c07849cb2820e3dd1c65", func := "meridian/meridianlaw7.AgreeGrows", spec := "agreeGrows", recurses := true, apart := false }
def AgreeGrowsSaid : Prop := agreeGrowsRow.holds Try.pinned (OpenSpec.ofChange agreeGrowsSpec)

/-- ITS FALSE NEIGHBOUR: 'it returns false'. Refute it at one input. -/
def agreeGrowsWrong : ChangeSpec := { name := "agreeGrows", fn := fun _ => fun
  | [d1, d2] => { results := [.lit (.bool false)], args := [d1, d2] }
  | _ => none }
def AgreeGrowsWrongFalsely : Prop := agreeGrowsRow.holds Try.pinned (OpenSpec.ofChange agreeGrowsWrong)

/-- 'meridianlaw7.AgreeShifts': WHATEVER THE INPUT: true; the input reads as it did. -/
def agreeShiftsSpec : ChangeSpec := { name := "agreeShifts", fn := fun _ => fun
  | [d1, d2] => { results := [.lit (.bool true)], args := [d1, d2] }
  | _ => none }
def agreeShiftsRow : OpenClaim := { program := "ytdkcdaknifikeaa", sum := "ff520e85f397fe343af9dcd8de1fc51439cfa828dd61c07849cb2820e3dd1c65", func := "meridian/meridianlaw7.AgreeShifts", spec := "agreeShifts", recurses := true, apart := false }
def AgreeShiftsSaid : Prop := agreeShiftsRow.holds Try.pinned (OpenSpec.ofChange agreeShiftsSpec)

/-- ITS FALSE NEIGHBOUR: 'it returns false'. Refute it at one input. -/
def agreeShiftsWrong : ChangeSpec := { name := "agreeShifts", fn := fun _ => fun
  | [d1, d2] => { results := [.lit (.bool false)], args := [d1, d2] }
  | _ => none }
def AgreeShiftsWrongFalsely : Prop := agreeShiftsRow.holds Try.pinned (OpenSpec.ofChange agreeShiftsWrong)

/- THE SECOND FORM. 'bulk': how many values and letters a reading holds, each counted each time it is reached (what is shared counts as often as it is met; a slice's spare places count too). A statement '..UptoSaid' is the law's where the arguments, and the package variables that the reading takes, are together of bulk at most 1048576: NARROWER than '..Said'. Prove '..Said' where nothing that the law and all that it calls make is longer than what came in: it says more and counts as full. Else prove '..UptoSaid'. A law counts once. -/
mutual
def uptoBulk {H : Type} : DataW H → Nat
  | .lit (.string bytes) => bytes.length + 1
  | .lit _ => 1
  | .nil => 1
  | .ptr d => uptoBulk d + 1
  | .slice elems spare => uptoBulkAll elems + uptoBulkAll spare + 1
  | .agg parts => uptoBulkAll parts + 1
  | .iface _ d => uptoBulk d + 1
  | .map entries => uptoBulkEntries entries + 1
  | .held _ => 1
def uptoBulkAll {H : Type} : List (DataW H) → Nat
  | [] => 0
  | d :: r => uptoBulk d + uptoBulkAll r
def uptoBulkEntries {H : Type} : List (Lit × DataW H) → Nat
  | [] => 0
  | x :: r => uptoBulkEntry x + uptoBulkEntries r
def uptoBulkEntry {H : Type} : Lit × DataW H → Nat
  | (.string bytes, d) => bytes.length + uptoBulk d + 1
  | (_, d) => uptoBulk d + 1
 end
def uptoSmall : (H : Type) → List (DataW H) → Bool := fun _ ds => decide (uptoBulkAll ds ≤ 1048576)
def OpenSpec.upto (s : _root_.Go.ChangeSpec) : _root_.Go.OpenSpec := { _root_.Go.OpenSpec.ofChange s with cond := some uptoSmall }

/-- 'meridianlaw7.AgreeMost', WHERE WHAT IT READS IS OF BULK AT MOST 1048576: true; the input reads as it did. -/
def agreeMostUptoRow : OpenClaim := { program := "ytdkcdaknifikeaa", sum := "ff520e85f397fe343af9dcd8de1fc51439cfa828dd61c07849cb2820e3dd1c65", func := "meridian/meridianlaw7.AgreeMost", spec := "agreeMost", recurses := true, apart := false, narrowed := true }
def AgreeMostUptoSaid : Prop := agreeMostUptoRow.holds Try.pinned (OpenSpec.upto agreeMostSpec)

/-- 'meridianlaw7.AgreeTurns', WHERE WHAT IT READS IS OF BULK AT MOST 1048576: true; the input reads as it did. -/
def agreeTurnsUptoRow : OpenClaim := { program := "ytdkcdaknifikeaa", sum := "ff520e85f397fe343af9dcd8de1fc51439cfa828dd61c07849cb2820e3dd1c65", func := "meridian/meridianlaw7.AgreeTurns", spec := "agreeTurns", recurses := true, apart := false, narrowed := true }
def AgreeTurnsUptoSaid : Prop := agreeTurnsUptoRow.holds Try.pinned (OpenSpec.upto agreeTurnsSpec)

/-- 'meridianlaw7.AgreeIn', WHERE WHAT IT READS IS OF BULK AT MOST 1048576: true; the input reads as it did. -/
def agreeInUptoRow : OpenClaim := { program := "ytdkcdaknifikeaa", sum := "ff520e85f397fe343af9dcd8de1fc51439cfa828dd61c07849cb2820e3dd1c65", func := "meridian/meridianlaw7.AgreeIn", spec := "agreeIn", recurses := true, apart := false, narrowed := true }
def AgreeInUptoSaid : Prop := agreeInUptoRow.holds Try.pinned (OpenSpec.upto agreeInSpec)

/-- 'meridianlaw7.AgreeTrue', WHERE WHAT IT READS IS OF BULK AT MOST 1048576: true; the input reads as it did. -/
def agreeTrueUptoRow : OpenClaim := { program := "ytdkcdaknifikeaa", sum := "ff520e85f397fe343af9dcd8de1fc51439cfa828dd61c07849cb2820e3dd1c65", func := "meridian/meridianlaw7.AgreeTrue", spec := "agreeTrue", recurses := true, apart := false, narrowed := true }
def AgreeTrueUptoSaid : Prop := agreeTrueUptoRow.holds Try.pinned (OpenSpec.upto agreeTrueSpec)

/-- 'meridianlaw7.AgreeGrows', WHERE WHAT IT READS IS OF BULK AT MOST 1048576: true; the input reads as it did. -/
def agreeGrowsUptoRow : OpenClaim := { program := "ytdkcdaknifikeaa", sum := "ff520e85f397fe343af9dcd8de1fc51439cfa828dd61c07849cb2820e3dd1c65", func := "meridian/meridianlaw7.AgreeGrows", spec := "agreeGrows", recurses := true, apart := false, narrowed := true }
def AgreeGrowsUptoSaid : Prop := agreeGrowsUptoRow.holds Try.pinned (OpenSpec.upto agreeGrowsSpec)

/-- 'meridianlaw7.AgreeShifts', WHERE WHAT IT READS IS OF BULK AT MOST 1048576: true; the input reads as it did. -/
def agreeShiftsUptoRow : OpenClaim := { program := "ytdkcdaknifikeaa", sum := "ff520e85f397fe343af9dcd8de1fc51439cfa828dd61c07849cb2820e3dd1c65", func := "meridian/meridianlaw7.AgreeShifts", spec := "agreeShifts", recurses := true, apart := false, narrowed := true }
def AgreeShiftsUptoSaid : Prop := agreeShiftsUptoRow.holds Try.pinned (OpenSpec.upto agreeShiftsSpec)

end Rows
end Go.Proofs.Ytdkcdaknifikeaa
