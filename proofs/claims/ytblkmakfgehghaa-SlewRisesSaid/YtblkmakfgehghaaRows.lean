/-
  No cell of these rows narrows 'for every input' (looked for: loops, veiled, ifaces, maps, wideKeys, modest, calm, conditions, laid).
  DERIVED. THE GIVEN ROWS OF THIS SEAT. 7 by the template 'for every input the law returns true; each argument reads behind the call as it read before'; 0 by the template 'total and deterministic' (their statements: YtblkmakfgehghaaTotals.lean).
  GIVEN WITH THE SEED: the statements are not yours to turn. If you find one false, say at which input.
  Laid BY PROGRAM, IN A SANDBOX (cutbox-rows.mjs): the forced cells as the released guide's own fill.sh prints them over the translation ebc84b623d805659… (all of the seat's roots in one cut). By AI agents, Wed Nov 11 2026. No macro, syntax, notation, axiom, sorry.
-/
import Derived.Test.YtblkmakfgehghaaChecked
import GoSem.Claim
import GoSem.ClaimJoined
import GoSem.ClaimMapViews
import Derived.JoinedTies
import Derived.KernelRfl
namespace Go.Proofs.Ytblkmakfgehghaa
/- THE CELL 'sum', in the pinned program and in every row, IS THE sha256 OF THE DUMP (.gsa) THAT YtblkmakfgehghaaProg.lean LOADS. Nothing in Lean hashes anything: it is a label: what it is worth is what the hold of that sum in a sandbox is worth. -/
noncomputable def Try.pinned : Pinned := { name := "ytblkmakfgehghaa", sum := "ebc84b623d80565932146db2ba7d9425ba9d4aa1f4719cf9d181ece0f4d50be1", checked := Try.checked }
namespace Rows
def none {H : Type} : Left H := { results := [], args := [] }

/-- 'meridianlaw8.SlewPlays': WHATEVER THE INPUT: true; the input reads as it did. -/
def slewPlaysSpec : ChangeSpec := { name := "slewPlays", fn := fun _ => fun
  | [d1, d2, d3] => { results := [.lit (.bool true)], args := [d1, d2, d3] }
  | _ => none }
def slewPlaysRow : OpenClaim := { program := "ytblkmakfgehghaa", sum := "ebc84b623d80565932146db2ba7d9425ba9d4aa1f4719cf9d181ece0f4d50be1", func := "meridian/meridianlaw8.SlewPlays", spec := "slewPlays", apart := false }
def SlewPlaysSaid : Prop := slewPlaysRow.holds Try.pinned (OpenSpec.ofChange slewPlaysSpec)

/-- ITS FALSE NEIGHBOUR: 'it returns false'. Refute it at one input. -/
def slewPlaysWrong : ChangeSpec := { name := "slewPlays", fn := fun _ => fun
  | [d1, d2, d3] => { results := [.lit (.bool false)], args := [d1, d2, d3] }
  | _ => none }
def SlewPlaysWrongFalsely : Prop := slewPlaysRow.holds Try.pinned (OpenSpec.ofChange slewPlaysWrong)

/-- 'meridianlaw8.SlewRises': WHATEVER THE INPUT: true; the input reads as it did. -/
def slewRisesSpec : ChangeSpec := { name := "slewRises", fn := fun _ => fun
  | [d1, d2, d3] => { results := [.lit (.bool true)], args := [d1, d2, d3] }
  | _ => none }
def slewRisesRow : OpenClaim := { program := "ytblkmakfgehghaa", sum := "ebc84b623d80565932146db2ba7d9425ba9d4aa1f4719cf9d181ece0f4d50be1", func := "meridian/meridianlaw8.SlewRises", spec := "slewRises", apart := false }
def SlewRisesSaid : Prop := slewRisesRow.holds Try.pinned (OpenSpec.ofChange slewRisesSpec)

/-- ITS FALSE NEIGHBOUR: 'it returns false'. Refute it at one input. -/
def slewRisesWrong : ChangeSpec := { name := "slewRises", fn := fun _ => fun
  | [d1, d2, d3] => { results := [.lit (.bool false)], args := [d1, d2, d3] }
  | _ => none }
def SlewRisesWrongFalsely : Prop := slewRisesRow.holds Try.pinned (OpenSpec.ofChange slewRisesWrong)

/-- 'meridianlaw8.SlewParts': WHATEVER THE INPUT: true; the input reads as it did. -/
def slewPartsSpec : ChangeSpec := { name := "slewParts", fn := fun _ => fun
  | [d1, d2] => { results := [.lit (.bool true)], args := [d1, d2] }
  | _ => none }
def slewPartsRow : OpenClaim := { program := "ytblkmakfgehghaa", sum := "ebc84b623d80565932146db2ba7d9425ba9d4aa1f4719cf9d181ece0f4d50be1", func := "meridian/meridianlaw8.SlewParts", spec := "slewParts", apart := false }
def SlewPartsSaid : Prop := slewPartsRow.holds Try.pinned (OpenSpec.ofChange slewPartsSpec)

/-- ITS FALSE NEIGHBOUR: 'it returns false'. Refute it at one input. -/
def slewPartsWrong : ChangeSpec := { name := "slewParts", fn := fun _ => fun
  | [d1, d2] => { results := [.lit (.bool false)], args := [d1, d2] }
  | _ => none }
def SlewPartsWrongFalsely : Prop := slewPartsRow.holds Try.pinned (OpenSpec.ofChange slewPartsWrong)

/-- 'meridianlaw8.SlewSteps': WHATEVER THE INPUT: true; the input reads as it did. -/
def slewStepsSpec : ChangeSpec := { name := "slewSteps", fn := fun _ => fun
  | [d1, d2, d3] => { results := [.lit (.bool true)], args := [d1, d2, d3] }
  | _ => none }
def slewStepsRow : OpenClaim := { program := "ytblkmakfgehghaa", sum := "ebc84b623d80565932146db2ba7d9425ba9d4aa1f4719cf9d181ece0f4d50be1", func := "meridian/meridianlaw8.SlewSteps", spec := "slewSteps", apart := false }
def SlewStepsSaid : Prop := slewStepsRow.holds Try.pinned (OpenSpec.ofChange slewStepsSpec)

/-- ITS FALSE NEIGHBOUR: 'it returns false'. Refute it at one input. -/
def slewStepsWrong : ChangeSpec := { name := "slewSteps", fn := fun _ => fun
  | [d1, d2, d3] => { results := [.lit (.bool false)], args := [d1, d2, d3] }
  | _ => none }
def SlewStepsWrongFalsely : Prop := slewStepsRow.holds Try.pinned (OpenSpec.ofChange slewStepsWrong)

/-- 'meridianlaw8.SlewOfNothing': WHATEVER THE INPUT: true; the input reads as it did. -/
def slewOfNothingSpec : ChangeSpec := { name := "slewOfNothing", fn := fun _ => fun
  | [d] => { results := [.lit (.bool true)], args := [d] }
  | _ => none }
def slewOfNothingRow : OpenClaim := { program := "ytblkmakfgehghaa", sum := "ebc84b623d80565932146db2ba7d9425ba9d4aa1f4719cf9d181ece0f4d50be1", func := "meridian/meridianlaw8.SlewOfNothing", spec := "slewOfNothing", apart := false }
def SlewOfNothingSaid : Prop := slewOfNothingRow.holds Try.pinned (OpenSpec.ofChange slewOfNothingSpec)

/-- ITS FALSE NEIGHBOUR: 'it returns false'. Refute it at one input. -/
def slewOfNothingWrong : ChangeSpec := { name := "slewOfNothing", fn := fun _ => fun
  | [d] => { results := [.lit (.bool false)], args := [d] }
  | _ => none }
def SlewOfNothingWrongFalsely : Prop := slewOfNothingRow.holds Try.pinned (OpenSpec.ofChange slewOfNothingWrong)

/-- 'meridianlaw8.SlewPlain': WHATEVER THE INPUT: true; the input reads as it did. -/
def slewPlainSpec : ChangeSpec := { name := "slewPlain", fn := fun _ => fun
  | [d1, d2] => { results := [.lit (.bool true)], args := [d1, d2] }
  | _ => none }
def slewPlainRow : OpenClaim := { program := "ytblkmakfgehghaa", sum := "ebc84b623d80565932146db2ba7d9425ba9d4aa1f4719cf9d181ece0f4d50be1", func := "meridian/meridianlaw8.SlewPlain", spec := "slewPlain", apart := false }
def SlewPlainSaid : Prop := slewPlainRow.holds Try.pinned (OpenSpec.ofChange slewPlainSpec)

/-- ITS FALSE NEIGHBOUR: 'it returns false'. Refute it at one input. -/
def slewPlainWrong : ChangeSpec := { name := "slewPlain", fn := fun _ => fun
  | [d1, d2] => { results := [.lit (.bool false)], args := [d1, d2] }
  | _ => none }
def SlewPlainWrongFalsely : Prop := slewPlainRow.holds Try.pinned (OpenSpec.ofChange slewPlainWrong)

/-- 'meridianlaw8.SlewOnce': WHATEVER THE INPUT: true; the input reads as it did. -/
def slewOnceSpec : ChangeSpec := { name := "slewOnce", fn := fun _ => fun
  | [d1, d2] => { results := [.lit (.bool true)], args := [d1, d2] }
  | _ => none }
def slewOnceRow : OpenClaim := { program := "ytblkmakfgehghaa", sum := "ebc84b623d80565932146db2ba7d9425ba9d4aa1f4719cf9d181ece0f4d50be1", func := "meridian/meridianlaw8.SlewOnce", spec := "slewOnce", apart := false }
def SlewOnceSaid : Prop := slewOnceRow.holds Try.pinned (OpenSpec.ofChange slewOnceSpec)

/-- ITS FALSE NEIGHBOUR: 'it returns false'. Refute it at one input. -/
def slewOnceWrong : ChangeSpec := { name := "slewOnce", fn := fun _ => fun
  | [d1, d2] => { results := [.lit (.bool false)], args := [d1, d2] }
  | _ => none }
def SlewOnceWrongFalsely : Prop := slewOnceRow.holds Try.pinned (OpenSpec.ofChange slewOnceWrong)

/- THE SECOND FORM. 'bulk': how many values and letters a reading holds, each counted each time it is reached (what is shared counts as often as it is met; a slice's spare places count too). A statement '..UptoSaid' is the law's where the arguments, and the package variables that the reading takes, are together of bulk at most 1048576: NARROWER than '..Said'. Prove '..Said' where nothing that the law and all that it calls make is longer than what came in: it says more and counts as full. Else prove '..UptoSaid'. A law counts once. -/
mutual
def uptoBulk {H : Type} : DataW H → Nat
  | .lit (.string bytes) => bytes.length + 1
  | .lit _ => 1
  | .nil => 1
  | .ptr d => uptoBulk d + 1
  | .slice elems spare => uptoBulkAll elems + uptoBulkAll spare + 1
  | .agg parts => uptoBulkAll parts + 1
  | .iface _ d => uptoBulk d + 1
  | .map entries => uptoBulkEntries entries + 1
  | .held _ => 1
def uptoBulkAll {H : Type} : List (DataW H) → Nat
  | [] => 0
  | d :: r => uptoBulk d + uptoBulkAll r
def uptoBulkEntries {H : Type} : List (Lit × DataW H) → Nat
  | [] => 0
  | x :: r => uptoBulkEntry x + uptoBulkEntries r
def uptoBulkEntry {H : Type} : Lit × DataW H → Nat
  | (.string bytes, d) => bytes.length + uptoBulk d + 1
  | (_, d) => uptoBulk d + 1
 end
def uptoSmall : (H : Type) → List (DataW H) → Bool := fun _ ds => decide (uptoBulkAll ds ≤ 1048576)
def OpenSpec.upto (s : _root_.Go.ChangeSpec) : _root_.Go.OpenSpec := { _root_.Go.OpenSpec.ofChange s with cond := some uptoSmall }

/-- 'meridianlaw8.SlewPlays', WHERE WHAT IT READS IS OF BULK AT MOST 1048576: true; the input reads as it did. -/
def slewPlaysUptoRow : OpenClaim := { program := "ytblkmakfgehghaa", sum := "ebc84b623d80565932146db2ba7d9425ba9d4aa1f4719cf9d181ece0f4d50be1", func := "meridian/meridianlaw8.SlewPlays", spec := "slewPlays", apart := false, narrowed := true }
def SlewPlaysUptoSaid : Prop := slewPlaysUptoRow.holds Try.pinned (OpenSpec.upto slewPlaysSpec)

/-- 'meridianlaw8.SlewRises', WHERE WHAT IT READS IS OF BULK AT MOST 1048576: true; the input reads as it did. -/
def slewRisesUptoRow : OpenClaim := { program := "ytblkmakfgehghaa", sum := "ebc84b623d80565932146db2ba7d9425ba9d4aa1f4719cf9d181ece0f4d50be1", func := "meridian/meridianlaw8.SlewRises", spec := "slewRises", apart := false, narrowed := true }
def SlewRisesUptoSaid : Prop := slewRisesUptoRow.holds Try.pinned (OpenSpec.upto slewRisesSpec)

/-- 'meridianlaw8.SlewParts', WHERE WHAT IT READS IS OF BULK AT MOST 1048576: true; the input reads as it did. -/
def slewPartsUptoRow : OpenClaim := { program := "ytblkmakfgehghaa", sum := "ebc84b623d80565932146db2ba7d9425ba9d4aa1f4719cf9d181ece0f4d50be1", func := "meridian/meridianlaw8.SlewParts", spec := "slewParts", apart := false, narrowed := true }
def SlewPartsUptoSaid : Prop := slewPartsUptoRow.holds Try.pinned (OpenSpec.upto slewPartsSpec)

/-- 'meridianlaw8.SlewSteps', WHERE WHAT IT READS IS OF BULK AT MOST 1048576: true; the input reads as it did. -/
def slewStepsUptoRow : OpenClaim := { program := "ytblkmakfgehghaa", sum := "ebc84b623d80565932146db2ba7d9425ba9d4aa1f4719cf9d181ece0f4d50be1", func := "meridian/meridianlaw8.SlewSteps", spec := "slewSteps", apart := false, narrowed := true }
def SlewStepsUptoSaid : Prop := slewStepsUptoRow.holds Try.pinned (OpenSpec.upto slewStepsSpec)

/-- 'meridianlaw8.SlewOfNothing', WHERE WHAT IT READS IS OF BULK AT MOST 1048576: true; the input reads as it did. -/
def slewOfNothingUptoRow : OpenClaim := { program := "ytblkmakfgehghaa", sum := "ebc84b623d80565932146db2ba7d9425ba9d4aa1f4719cf9d181ece0f4d50be1", func := "meridian/meridianlaw8.SlewOfNothing", spec := "slewOfNothing", apart := false, narrowed := true }
def SlewOfNothingUptoSaid : Prop := slewOfNothingUptoRow.holds Try.pinned (OpenSpec.upto slewOfNothingSpec)

/-- 'meridianlaw8.SlewPlain', WHERE WHAT IT READS IS OF BULK AT MOST 1048576: true; the input reads as it did. -/
def slewPlainUptoRow : OpenClaim := { program := "ytblkmakfgehghaa", sum := "ebc84b623d80565932146db2ba7d9425ba9d4aa1f4719cf9d181ece0f4d50be1", func := "meridian/meridianlaw8.SlewPlain", spec := "slewPlain", apart := false, narrowed := true }
def SlewPlainUptoSaid : Prop := slewPlainUptoRow.holds Try.pinned (OpenSpec.upto slewPlainSpec)

/-- 'meridianlaw8.SlewOnce', WHERE WHAT IT READS IS OF BULK AT MOST 1048576: true; the input reads as it did. -/
def slewOnceUptoRow : OpenClaim := { program := "ytblkmakfgehghaa", sum := "ebc84b623d80565932146db2ba7d9425ba9d4aa1f4719cf9d181ece0f4d50be1", func := "meridian/meridianlaw8.SlewOnce", spec := "slewOnce", apart := false, narrowed := true }
def SlewOnceUptoSaid : Prop := slewOnceUptoRow.holds Try.pinned (OpenSpec.upto slewOnceSpec)

end Rows
end Go.Proofs.Ytblkmakfgehghaa
