/-
  No cell of these rows narrows 'for every input' (looked for: loops, veiled, ifaces, maps, wideKeys, modest, calm, conditions, laid).
  DERIVED. THE GIVEN ROWS OF THIS SEAT. 6 by the template 'for every input the law returns true; each argument reads behind the call as it read before'; 0 by the template 'total and deterministic' (their statements: YtlmbhiidbcpihaaTotals.lean).
  GIVEN WITH THE SEED: the statements are not yours to turn. If you find one false, say at which input.
  Laid BY PROGRAM, IN A SANDBOX (cutbox-rows.mjs): the forced cells as the released guide's own fill.sh prints them over the translation b1134e0f7b73e2cf… (all of the seat's roots in one cut). By AI agents, Wed Nov 11 2026. No macro, syntax, notation, axiom, sorry.
-/
import Derived.Test.YtlmbhiidbcpihaaChecked
import GoSem.Claim
import GoSem.ClaimJoined
import GoSem.ClaimMapViews
import Derived.JoinedTies
import Derived.KernelRfl
namespace Go.Proofs.Ytlmbhiidbcpihaa
/- THE CELL 'sum', in the pinned program and in every row, IS THE sha256 OF THE DUMP (.gsa) THAT YtlmbhiidbcpihaaProg.lean LOADS. Nothing in Lean hashes anything: it is a label: what it is worth is what the hold of that sum in a sandbox is worth. -/
noncomputable def Try.pinned : Pinned := { name := "ytlmbhiidbcpihaa", sum := "b1134e0f7b73e2cfddb98209ac6eb9df3c1d6284e220b123c0f47f878ba07f0a", checked := Try.checked }
namespace Rows
def none {H : Type} : Left H := { results := [], args := [] }

/-- 'meridianlaw2.CalDays': WHATEVER THE INPUT: true; the input reads as it did. -/
def calDaysSpec : ChangeSpec := { name := "calDays", fn := fun _ => fun
  | [d] => { results := [.lit (.bool true)], args := [d] }
  | _ => none }
def calDaysRow : OpenClaim := { program := "ytlmbhiidbcpihaa", sum := "b1134e0f7b73e2cfddb98209ac6eb9df3c1d6284e220b123c0f47f878ba07f0a", func := "meridian/meridianlaw2.CalDays", spec := "calDays", apart := false }
def CalDaysSaid : Prop := calDaysRow.holds Try.pinned (OpenSpec.ofChange calDaysSpec)

/-- ITS FALSE NEIGHBOUR: 'it returns false'. Refute it at one input. -/
def calDaysWrong : ChangeSpec := { name := "calDays", fn := fun _ => fun
  | [d] => { results := [.lit (.bool false)], args := [d] }
  | _ => none }
def CalDaysWrongFalsely : Prop := calDaysRow.holds Try.pinned (OpenSpec.ofChange calDaysWrong)

/-- 'meridianlaw2.CalDate': WHATEVER THE INPUT: true; the input reads as it did. -/
def calDateSpec : ChangeSpec := { name := "calDate", fn := fun _ => fun
  | [d] => { results := [.lit (.bool true)], args := [d] }
  | _ => none }
def calDateRow : OpenClaim := { program := "ytlmbhiidbcpihaa", sum := "b1134e0f7b73e2cfddb98209ac6eb9df3c1d6284e220b123c0f47f878ba07f0a", func := "meridian/meridianlaw2.CalDate", spec := "calDate", apart := false }
def CalDateSaid : Prop := calDateRow.holds Try.pinned (OpenSpec.ofChange calDateSpec)

/-- ITS FALSE NEIGHBOUR: 'it returns false'. Refute it at one input. -/
def calDateWrong : ChangeSpec := { name := "calDate", fn := fun _ => fun
  | [d] => { results := [.lit (.bool false)], args := [d] }
  | _ => none }
def CalDateWrongFalsely : Prop := calDateRow.holds Try.pinned (OpenSpec.ofChange calDateWrong)

/-- 'meridianlaw2.CalNext': WHATEVER THE INPUT: true; the input reads as it did. -/
def calNextSpec : ChangeSpec := { name := "calNext", fn := fun _ => fun
  | [d] => { results := [.lit (.bool true)], args := [d] }
  | _ => none }
def calNextRow : OpenClaim := { program := "ytlmbhiidbcpihaa", sum := "b1134e0f7b73e2cfddb98209ac6eb9df3c1d6284e220b123c0f47f878ba07f0a", func := "meridian/meridianlaw2.CalNext", spec := "calNext", apart := false }
def CalNextSaid : Prop := calNextRow.holds Try.pinned (OpenSpec.ofChange calNextSpec)

/-- ITS FALSE NEIGHBOUR: 'it returns false'. Refute it at one input. -/
def calNextWrong : ChangeSpec := { name := "calNext", fn := fun _ => fun
  | [d] => { results := [.lit (.bool false)], args := [d] }
  | _ => none }
def CalNextWrongFalsely : Prop := calNextRow.holds Try.pinned (OpenSpec.ofChange calNextWrong)

/-- 'meridianlaw2.CalYears': WHATEVER THE INPUT: true; the input reads as it did. -/
def calYearsSpec : ChangeSpec := { name := "calYears", fn := fun _ => fun
  | [d] => { results := [.lit (.bool true)], args := [d] }
  | _ => none }
def calYearsRow : OpenClaim := { program := "ytlmbhiidbcpihaa", sum := "b1134e0f7b73e2cfddb98209ac6eb9df3c1d6284e220b123c0f47f878ba07f0a", func := "meridian/meridianlaw2.CalYears", spec := "calYears", apart := false }
def CalYearsSaid : Prop := calYearsRow.holds Try.pinned (OpenSpec.ofChange calYearsSpec)

/-- ITS FALSE NEIGHBOUR: 'it returns false'. Refute it at one input. -/
def calYearsWrong : ChangeSpec := { name := "calYears", fn := fun _ => fun
  | [d] => { results := [.lit (.bool false)], args := [d] }
  | _ => none }
def CalYearsWrongFalsely : Prop := calYearsRow.holds Try.pinned (OpenSpec.ofChange calYearsWrong)

/-- 'meridianlaw2.CalMonths': WHATEVER THE INPUT: true; the input reads as it did. -/
def calMonthsSpec : ChangeSpec := { name := "calMonths", fn := fun _ => fun
  | [d1, d2] => { results := [.lit (.bool true)], args := [d1, d2] }
  | _ => none }
def calMonthsRow : OpenClaim := { program := "ytlmbhiidbcpihaa", sum := "b1134e0f7b73e2cfddb98209ac6eb9df3c1d6284e220b123c0f47f878ba07f0a", func := "meridian/meridianlaw2.CalMonths", spec := "calMonths", apart := false }
def CalMonthsSaid : Prop := calMonthsRow.holds Try.pinned (OpenSpec.ofChange calMonthsSpec)

/-- ITS FALSE NEIGHBOUR: 'it returns false'. Refute it at one input. -/
def calMonthsWrong : ChangeSpec := { name := "calMonths", fn := fun _ => fun
  | [d1, d2] => { results := [.lit (.bool false)], args := [d1, d2] }
  | _ => none }
def CalMonthsWrongFalsely : Prop := calMonthsRow.holds Try.pinned (OpenSpec.ofChange calMonthsWrong)

/-- 'meridianlaw2.CalWeeks': WHATEVER THE INPUT: true; the input reads as it did. -/
def calWeeksSpec : ChangeSpec := { name := "calWeeks", fn := fun _ => fun
  | [d1, d2] => { results := [.lit (.bool true)], args := [d1, d2] }
  | _ => none }
def calWeeksRow : OpenClaim := { program := "ytlmbhiidbcpihaa", sum := "b1134e0f7b73e2cfddb98209ac6eb9df3c1d6284e220b123c0f47f878ba07f0a", func := "meridian/meridianlaw2.CalWeeks", spec := "calWeeks", apart := false }
def CalWeeksSaid : Prop := calWeeksRow.holds Try.pinned (OpenSpec.ofChange calWeeksSpec)

/-- ITS FALSE NEIGHBOUR: 'it returns false'. Refute it at one input. -/
def calWeeksWrong : ChangeSpec := { name := "calWeeks", fn := fun _ => fun
  | [d1, d2] => { results := [.lit (.bool false)], args := [d1, d2] }
  | _ => none }
def CalWeeksWrongFalsely : Prop := calWeeksRow.holds Try.pinned (OpenSpec.ofChange calWeeksWrong)

/- THE SECOND FORM. 'bulk': how many values and letters a reading holds, each counted each time it is reached (what is shared counts as often as it is met; a slice's spare places count too). A statement '..UptoSaid' is the law's where the arguments, and the package variables that the reading takes, are together of bulk at most 1048576: NARROWER than '..Said'. Prove '..Said' where nothing that the law and all that it calls make is longer than what came in: it says more and counts as full. Else prove '..UptoSaid'. A law counts once. -/
mutual
def uptoBulk {H : Type} : DataW H → Nat
  | .lit (.string bytes) => bytes.length + 1
  | .lit _ => 1
  | .nil => 1
  | .ptr d => uptoBulk d + 1
  | .slice elems spare => uptoBulkAll elems + uptoBulkAll spare + 1
  | .agg parts => uptoBulkAll parts + 1
  | .iface _ d => uptoBulk d + 1
  | .map entries => uptoBulkEntries entries + 1
  | .held _ => 1
def uptoBulkAll {H : Type} : List (DataW H) → Nat
  | [] => 0
  | d :: r => uptoBulk d + uptoBulkAll r
def uptoBulkEntries {H : Type} : List (Lit × DataW H) → Nat
  | [] => 0
  | x :: r => uptoBulkEntry x + uptoBulkEntries r
def uptoBulkEntry {H : Type} : Lit × DataW H → Nat
  | (.string bytes, d) => bytes.length + uptoBulk d + 1
  | (_, d) => uptoBulk d + 1
 end
def uptoSmall : (H : Type) → List (DataW H) → Bool := fun _ ds => decide (uptoBulkAll ds ≤ 1048576)
def OpenSpec.upto (s : _root_.Go.ChangeSpec) : _root_.Go.OpenSpec := { _root_.Go.OpenSpec.ofChange s with cond := some uptoSmall }

/-- 'meridianlaw2.CalDays', WHERE WHAT IT READS IS OF BULK AT MOST 1048576: true; the input reads as it did. -/
def calDaysUptoRow : OpenClaim := { program := "ytlmbhiidbcpihaa", sum := "b1134e0f7b73e2cfddb98209ac6eb9df3c1d6284e220b123c0f47f878ba07f0a", func := "meridian/meridianlaw2.CalDays", spec := "calDays", apart := false, narrowed := true }
def CalDaysUptoSaid : Prop := calDaysUptoRow.holds Try.pinned (OpenSpec.upto calDaysSpec)

/-- 'meridianlaw2.CalDate', WHERE WHAT IT READS IS OF BULK AT MOST 1048576: true; the input reads as it did. -/
def calDateUptoRow : OpenClaim := { program := "ytlmbhiidbcpihaa", sum := "b1134e0f7b73e2cfddb98209ac6eb9df3c1d6284e220b123c0f47f878ba07f0a", func := "meridian/meridianlaw2.CalDate", spec := "calDate", apart := false, narrowed := true }
def CalDateUptoSaid : Prop := calDateUptoRow.holds Try.pinned (OpenSpec.upto calDateSpec)

/-- 'meridianlaw2.CalNext', WHERE WHAT IT READS IS OF BULK AT MOST 1048576: true; the input reads as it did. -/
def calNextUptoRow : OpenClaim := { program := "ytlmbhiidbcpihaa", sum := "b1134e0f7b73e2cfddb98209ac6eb9df3c1d6284e220b123c0f47f878ba07f0a", func := "meridian/meridianlaw2.CalNext", spec := "calNext", apart := false, narrowed := true }
def CalNextUptoSaid : Prop := calNextUptoRow.holds Try.pinned (OpenSpec.upto calNextSpec)

/-- 'meridianlaw2.CalYears', WHERE WHAT IT READS IS OF BULK AT MOST 1048576: true; the input reads as it did. -/
def calYearsUptoRow : OpenClaim := { program := "ytlmbhiidbcpihaa", sum := "b1134e0f7b73e2cfddb98209ac6eb9df3c1d6284e220b123c0f47f878ba07f0a", func := "meridian/meridianlaw2.CalYears", spec := "calYears", apart := false, narrowed := true }
def CalYearsUptoSaid : Prop := calYearsUptoRow.holds Try.pinned (OpenSpec.upto calYearsSpec)

/-- 'meridianlaw2.CalMonths', WHERE WHAT IT READS IS OF BULK AT MOST 1048576: true; the input reads as it did. -/
def calMonthsUptoRow : OpenClaim := { program := "ytlmbhiidbcpihaa", sum := "b1134e0f7b73e2cfddb98209ac6eb9df3c1d6284e220b123c0f47f878ba07f0a", func := "meridian/meridianlaw2.CalMonths", spec := "calMonths", apart := false, narrowed := true }
def CalMonthsUptoSaid : Prop := calMonthsUptoRow.holds Try.pinned (OpenSpec.upto calMonthsSpec)

/-- 'meridianlaw2.CalWeeks', WHERE WHAT IT READS IS OF BULK AT MOST 1048576: true; the input reads as it did. -/
def calWeeksUptoRow : OpenClaim := { program := "ytlmbhiidbcpihaa", sum := "b1134e0f7b73e2cfddb98209ac6eb9df3c1d6284e220b123c0f47f878ba07f0a", func := "meridian/meridianlaw2.CalWeeks", spec := "calWeeks", apart := false, narrowed := true }
def CalWeeksUptoSaid : Prop := calWeeksUptoRow.holds Try.pinned (OpenSpec.upto calWeeksSpec)

end Rows
end Go.Proofs.Ytlmbhiidbcpihaa
