/-
  No cell of these rows narrows 'for every input' (looked for: loops, veiled, ifaces, maps, wideKeys, modest, calm, conditions, laid).
  DERIVED. THE GIVEN ROWS OF THIS SEAT. 9 by the template 'for every input the law returns true; each argument reads behind the call as it read before'; 0 by the template 'total and deterministic' (their statements: YtklahiogcpojmaaTotals.lean).
  GIVEN WITH THE SEED: the statements are not yours to turn. If you find one false, say at which input.
  Laid BY PROGRAM, IN A SANDBOX (cutbox-rows.mjs): the forced cells as the released guide's own fill.sh prints them over the translation 82d2445add5b483d… (all of the seat's roots in one cut). By AI agents, Wed Nov 11 2026. No macro, syntax, notation, axiom, sorry.
-/
import Derived.Test.YtklahiogcpojmaaChecked
import GoSem.Claim
import GoSem.ClaimJoined
import GoSem.ClaimMapViews
import Derived.JoinedTies
import Derived.KernelRfl
namespace Go.Proofs.Ytklahiogcpojmaa
/- THE CELL 'sum', in the pinned program and in every row, IS THE sha256 OF THE DUMP (.gsa) THAT YtklahiogcpojmaaProg.lean LOADS. Nothing in Lean hashes anything: it is a label: what it is worth is what the hold of that sum in a sandbox is worth. -/
noncomputable def Try.pinned : Pinned := { name := "ytklahiogcpojmaa", sum := "82d2445add5b483d47a12876eaf69435790b19dad1c0170bc80ab0bdfc3cfa98", checked := Try.checked }
namespace Rows
def none {H : Type} : Left H := { results := [], args := [] }

/-- 'meridianlaw4.ScaleAdds': WHATEVER THE INPUT: true; the input reads as it did. -/
def scaleAddsSpec : ChangeSpec := { name := "scaleAdds", fn := fun _ => fun
  | [d] => { results := [.lit (.bool true)], args := [d] }
  | _ => none }
def scaleAddsRow : OpenClaim := { program := "ytklahiogcpojmaa", sum := "82d2445add5b483d47a12876eaf69435790b19dad1c0170bc80ab0bdfc3cfa98", func := "meridian/meridianlaw4.ScaleAdds", spec := "scaleAdds", apart := false }
def ScaleAddsSaid : Prop := scaleAddsRow.holds Try.pinned (OpenSpec.ofChange scaleAddsSpec)

/-- ITS FALSE NEIGHBOUR: 'it returns false'. Refute it at one input. -/
def scaleAddsWrong : ChangeSpec := { name := "scaleAdds", fn := fun _ => fun
  | [d] => { results := [.lit (.bool false)], args := [d] }
  | _ => none }
def ScaleAddsWrongFalsely : Prop := scaleAddsRow.holds Try.pinned (OpenSpec.ofChange scaleAddsWrong)

/-- 'meridianlaw4.ScaleMuls': WHATEVER THE INPUT: true; the input reads as it did. -/
def scaleMulsSpec : ChangeSpec := { name := "scaleMuls", fn := fun _ => fun
  | [d1, d2] => { results := [.lit (.bool true)], args := [d1, d2] }
  | _ => none }
def scaleMulsRow : OpenClaim := { program := "ytklahiogcpojmaa", sum := "82d2445add5b483d47a12876eaf69435790b19dad1c0170bc80ab0bdfc3cfa98", func := "meridian/meridianlaw4.ScaleMuls", spec := "scaleMuls", apart := false }
def ScaleMulsSaid : Prop := scaleMulsRow.holds Try.pinned (OpenSpec.ofChange scaleMulsSpec)

/-- ITS FALSE NEIGHBOUR: 'it returns false'. Refute it at one input. -/
def scaleMulsWrong : ChangeSpec := { name := "scaleMuls", fn := fun _ => fun
  | [d1, d2] => { results := [.lit (.bool false)], args := [d1, d2] }
  | _ => none }
def ScaleMulsWrongFalsely : Prop := scaleMulsRow.holds Try.pinned (OpenSpec.ofChange scaleMulsWrong)

/-- 'meridianlaw4.ScaleTai': WHATEVER THE INPUT: true; the input reads as it did. -/
def scaleTaiSpec : ChangeSpec := { name := "scaleTai", fn := fun _ => fun
  | [d1, d2] => { results := [.lit (.bool true)], args := [d1, d2] }
  | _ => none }
def scaleTaiRow : OpenClaim := { program := "ytklahiogcpojmaa", sum := "82d2445add5b483d47a12876eaf69435790b19dad1c0170bc80ab0bdfc3cfa98", func := "meridian/meridianlaw4.ScaleTai", spec := "scaleTai", apart := false }
def ScaleTaiSaid : Prop := scaleTaiRow.holds Try.pinned (OpenSpec.ofChange scaleTaiSpec)

/-- ITS FALSE NEIGHBOUR: 'it returns false'. Refute it at one input. -/
def scaleTaiWrong : ChangeSpec := { name := "scaleTai", fn := fun _ => fun
  | [d1, d2] => { results := [.lit (.bool false)], args := [d1, d2] }
  | _ => none }
def ScaleTaiWrongFalsely : Prop := scaleTaiRow.holds Try.pinned (OpenSpec.ofChange scaleTaiWrong)

/-- 'meridianlaw4.ScaleStep': WHATEVER THE INPUT: true; the input reads as it did. -/
def scaleStepSpec : ChangeSpec := { name := "scaleStep", fn := fun _ => fun
  | [d1, d2] => { results := [.lit (.bool true)], args := [d1, d2] }
  | _ => none }
def scaleStepRow : OpenClaim := { program := "ytklahiogcpojmaa", sum := "82d2445add5b483d47a12876eaf69435790b19dad1c0170bc80ab0bdfc3cfa98", func := "meridian/meridianlaw4.ScaleStep", spec := "scaleStep", recurses := true, apart := false }
def ScaleStepSaid : Prop := scaleStepRow.holds Try.pinned (OpenSpec.ofChange scaleStepSpec)

/-- ITS FALSE NEIGHBOUR: 'it returns false'. Refute it at one input. -/
def scaleStepWrong : ChangeSpec := { name := "scaleStep", fn := fun _ => fun
  | [d1, d2] => { results := [.lit (.bool false)], args := [d1, d2] }
  | _ => none }
def ScaleStepWrongFalsely : Prop := scaleStepRow.holds Try.pinned (OpenSpec.ofChange scaleStepWrong)

/-- 'meridianlaw4.ScaleTables': WHATEVER THE INPUT: true; the input reads as it did. -/
def scaleTablesSpec : ChangeSpec := { name := "scaleTables", fn := fun _ => fun
  | [d1, d2, d3, d4] => { results := [.lit (.bool true)], args := [d1, d2, d3, d4] }
  | _ => none }
def scaleTablesRow : OpenClaim := { program := "ytklahiogcpojmaa", sum := "82d2445add5b483d47a12876eaf69435790b19dad1c0170bc80ab0bdfc3cfa98", func := "meridian/meridianlaw4.ScaleTables", spec := "scaleTables", apart := false }
def ScaleTablesSaid : Prop := scaleTablesRow.holds Try.pinned (OpenSpec.ofChange scaleTablesSpec)

/-- ITS FALSE NEIGHBOUR: 'it returns false'. Refute it at one input. -/
def scaleTablesWrong : ChangeSpec := { name := "scaleTables", fn := fun _ => fun
  | [d1, d2, d3, d4] => { results := [.lit (.bool false)], args := [d1, d2, d3, d4] }
  | _ => none }
def ScaleTablesWrongFalsely : Prop := scaleTablesRow.holds Try.pinned (OpenSpec.ofChange scaleTablesWrong)

/-- 'meridianlaw4.ScaleMilli': WHATEVER THE INPUT: true; the input reads as it did. -/
def scaleMilliSpec : ChangeSpec := { name := "scaleMilli", fn := fun _ => fun
  | [d1, d2] => { results := [.lit (.bool true)], args := [d1, d2] }
  | _ => none }
def scaleMilliRow : OpenClaim := { program := "ytklahiogcpojmaa", sum := "82d2445add5b483d47a12876eaf69435790b19dad1c0170bc80ab0bdfc3cfa98", func := "meridian/meridianlaw4.ScaleMilli", spec := "scaleMilli", apart := false }
def ScaleMilliSaid : Prop := scaleMilliRow.holds Try.pinned (OpenSpec.ofChange scaleMilliSpec)

/-- ITS FALSE NEIGHBOUR: 'it returns false'. Refute it at one input. -/
def scaleMilliWrong : ChangeSpec := { name := "scaleMilli", fn := fun _ => fun
  | [d1, d2] => { results := [.lit (.bool false)], args := [d1, d2] }
  | _ => none }
def ScaleMilliWrongFalsely : Prop := scaleMilliRow.holds Try.pinned (OpenSpec.ofChange scaleMilliWrong)

/-- 'meridianlaw4.ScaleHeld': WHATEVER THE INPUT: true; the input reads as it did. -/
def scaleHeldSpec : ChangeSpec := { name := "scaleHeld", fn := fun _ => fun
  | [d] => { results := [.lit (.bool true)], args := [d] }
  | _ => none }
def scaleHeldRow : OpenClaim := { program := "ytklahiogcpojmaa", sum := "82d2445add5b483d47a12876eaf69435790b19dad1c0170bc80ab0bdfc3cfa98", func := "meridian/meridianlaw4.ScaleHeld", spec := "scaleHeld", apart := false }
def ScaleHeldSaid : Prop := scaleHeldRow.holds Try.pinned (OpenSpec.ofChange scaleHeldSpec)

/-- ITS FALSE NEIGHBOUR: 'it returns false'. Refute it at one input. -/
def scaleHeldWrong : ChangeSpec := { name := "scaleHeld", fn := fun _ => fun
  | [d] => { results := [.lit (.bool false)], args := [d] }
  | _ => none }
def ScaleHeldWrongFalsely : Prop := scaleHeldRow.holds Try.pinned (OpenSpec.ofChange scaleHeldWrong)

/-- 'meridianlaw4.ScaleOrder': WHATEVER THE INPUT: true; the input reads as it did. -/
def scaleOrderSpec : ChangeSpec := { name := "scaleOrder", fn := fun _ => fun
  | [d1, d2, d3] => { results := [.lit (.bool true)], args := [d1, d2, d3] }
  | _ => none }
def scaleOrderRow : OpenClaim := { program := "ytklahiogcpojmaa", sum := "82d2445add5b483d47a12876eaf69435790b19dad1c0170bc80ab0bdfc3cfa98", func := "meridian/meridianlaw4.ScaleOrder", spec := "scaleOrder", apart := false }
def ScaleOrderSaid : Prop := scaleOrderRow.holds Try.pinned (OpenSpec.ofChange scaleOrderSpec)

/-- ITS FALSE NEIGHBOUR: 'it returns false'. Refute it at one input. -/
def scaleOrderWrong : ChangeSpec := { name := "scaleOrder", fn := fun _ => fun
  | [d1, d2, d3] => { results := [.lit (.bool false)], args := [d1, d2, d3] }
  | _ => none }
def ScaleOrderWrongFalsely : Prop := scaleOrderRow.holds Try.pinned (OpenSpec.ofChange scaleOrderWrong)

/-- 'meridianlaw4.ScaleDays': WHATEVER THE INPUT: true; the input reads as it did. -/
def scaleDaysSpec : ChangeSpec := { name := "scaleDays", fn := fun _ => fun
  | [d1, d2, d3] => { results := [.lit (.bool true)], args := [d1, d2, d3] }
  | _ => none }
def scaleDaysRow : OpenClaim := { program := "ytklahiogcpojmaa", sum := "82d2445add5b483d47a12876eaf69435790b19dad1c0170bc80ab0bdfc3cfa98", func := "meridian/meridianlaw4.ScaleDays", spec := "scaleDays", apart := false }
def ScaleDaysSaid : Prop := scaleDaysRow.holds Try.pinned (OpenSpec.ofChange scaleDaysSpec)

/-- ITS FALSE NEIGHBOUR: 'it returns false'. Refute it at one input. -/
def scaleDaysWrong : ChangeSpec := { name := "scaleDays", fn := fun _ => fun
  | [d1, d2, d3] => { results := [.lit (.bool false)], args := [d1, d2, d3] }
  | _ => none }
def ScaleDaysWrongFalsely : Prop := scaleDaysRow.holds Try.pinned (OpenSpec.ofChange scaleDaysWrong)

/- THE SECOND FORM. 'bulk': how many values and letters a reading holds, each counted each time it is reached (what is shared counts as often as it is met; a slice's spare places count too). A statement '..UptoSaid' is the law's where the arguments, and the package variables that the reading takes, are together of bulk at most 1048576: NARROWER than '..Said'. Prove '..Said' where nothing that the law and all that it calls make is longer than what came in: it says more and counts as full. Else prove '..UptoSaid'. A law counts once. -/
mutual
def uptoBulk {H : Type} : DataW H → Nat
  | .lit (.string bytes) => bytes.length + 1
  | .lit _ => 1
  | .nil => 1
  | .ptr d => uptoBulk d + 1
  | .slice elems spare => uptoBulkAll elems + uptoBulkAll spare + 1
  | .agg parts => uptoBulkAll parts + 1
  | .iface _ d => uptoBulk d + 1
  | .map entries => uptoBulkEntries entries + 1
  | .held _ => 1
def uptoBulkAll {H : Type} : List (DataW H) → Nat
  | [] => 0
  | d :: r => uptoBulk d + uptoBulkAll r
def uptoBulkEntries {H : Type} : List (Lit × DataW H) → Nat
  | [] => 0
  | x :: r => uptoBulkEntry x + uptoBulkEntries r
def uptoBulkEntry {H : Type} : Lit × DataW H → Nat
  | (.string bytes, d) => bytes.length + uptoBulk d + 1
  | (_, d) => uptoBulk d + 1
 end
def uptoSmall : (H : Type) → List (DataW H) → Bool := fun _ ds => decide (uptoBulkAll ds ≤ 1048576)
def OpenSpec.upto (s : _root_.Go.ChangeSpec) : _root_.Go.OpenSpec := { _root_.Go.OpenSpec.ofChange s with cond := some uptoSmall }

/-- 'meridianlaw4.ScaleAdds', WHERE WHAT IT READS IS OF BULK AT MOST 1048576: true; the input reads as it did. -/
def scaleAddsUptoRow : OpenClaim := { program := "ytklahiogcpojmaa", sum := "82d2445add5b483d47a12876eaf69435790b19dad1c0170bc80ab0bdfc3cfa98", func := "meridian/meridianlaw4.ScaleAdds", spec := "scaleAdds", apart := false, narrowed := true }
def ScaleAddsUptoSaid : Prop := scaleAddsUptoRow.holds Try.pinned (OpenSpec.upto scaleAddsSpec)

/-- 'meridianlaw4.ScaleMuls', WHERE WHAT IT READS IS OF BULK AT MOST 1048576: true; the input reads as it did. -/
def scaleMulsUptoRow : OpenClaim := { program := "ytklahiogcpojmaa", sum := "82d2445add5b483d47a12876eaf69435790b19dad1c0170bc80ab0bdfc3cfa98", func := "meridian/meridianlaw4.ScaleMuls", spec := "scaleMuls", apart := false, narrowed := true }
def ScaleMulsUptoSaid : Prop := scaleMulsUptoRow.holds Try.pinned (OpenSpec.upto scaleMulsSpec)

/-- 'meridianlaw4.ScaleTai', WHERE WHAT IT READS IS OF BULK AT MOST 1048576: true; the input reads as it did. -/
def scaleTaiUptoRow : OpenClaim := { program := "ytklahiogcpojmaa", sum := "82d2445add5b483d47a12876eaf69435790b19dad1c0170bc80ab0bdfc3cfa98", func := "meridian/meridianlaw4.ScaleTai", spec := "scaleTai", apart := false, narrowed := true }
def ScaleTaiUptoSaid : Prop := scaleTaiUptoRow.holds Try.pinned (OpenSpec.upto scaleTaiSpec)

/-- 'meridianlaw4.ScaleStep', WHERE WHAT IT READS IS OF BULK AT MOST 1048576: true; the input reads as it did. -/
def scaleStepUptoRow : OpenClaim := { program := "ytklahiogcpojmaa", sum := "82d2445add5b483d47a12876eaf69435790b19dad1c0170bc80ab0bdfc3cfa98", func := "meridian/meridianlaw4.ScaleStep", spec := "scaleStep", recurses := true, apart := false, narrowed := true }
def ScaleStepUptoSaid : Prop := scaleStepUptoRow.holds Try.pinned (OpenSpec.upto scaleStepSpec)

/-- 'meridianlaw4.ScaleTables', WHERE WHAT IT READS IS OF BULK AT MOST 1048576: true; the input reads as it did. -/
def scaleTablesUptoRow : OpenClaim := { program := "ytklahiogcpojmaa", sum := "82d2445add5b483d47a12876eaf69435790b19dad1c0170bc80ab0bdfc3cfa98", func := "meridian/meridianlaw4.ScaleTables", spec := "scaleTables", apart := false, narrowed := true }
def ScaleTablesUptoSaid : Prop := scaleTablesUptoRow.holds Try.pinned (OpenSpec.upto scaleTablesSpec)

/-- 'meridianlaw4.ScaleMilli', WHERE WHAT IT READS IS OF BULK AT MOST 1048576: true; the input reads as it did. -/
def scaleMilliUptoRow : OpenClaim := { program := "ytklahiogcpojmaa", sum := "82d2445add5b483d47a12876eaf69435790b19dad1c0170bc80ab0bdfc3cfa98", func := "meridian/meridianlaw4.ScaleMilli", spec := "scaleMilli", apart := false, narrowed := true }
def ScaleMilliUptoSaid : Prop := scaleMilliUptoRow.holds Try.pinned (OpenSpec.upto scaleMilliSpec)

/-- 'meridianlaw4.ScaleHeld', WHERE WHAT IT READS IS OF BULK AT MOST 1048576: true; the input reads as it did. -/
def scaleHeldUptoRow : OpenClaim := { program := "ytklahiogcpojmaa", sum := "82d2445add5b483d47a12876eaf69435790b19dad1c0170bc80ab0bdfc3cfa98", func := "meridian/meridianlaw4.ScaleHeld", spec := "scaleHeld", apart := false, narrowed := true }
def ScaleHeldUptoSaid : Prop := scaleHeldUptoRow.holds Try.pinned (OpenSpec.upto scaleHeldSpec)

/-- 'meridianlaw4.ScaleOrder', WHERE WHAT IT READS IS OF BULK AT MOST 1048576: true; the input reads as it did. -/
def scaleOrderUptoRow : OpenClaim := { program := "ytklahiogcpojmaa", sum := "82d2445add5b483d47a12876eaf69435790b19dad1c0170bc80ab0bdfc3cfa98", func := "meridian/meridianlaw4.ScaleOrder", spec := "scaleOrder", apart := false, narrowed := true }
def ScaleOrderUptoSaid : Prop := scaleOrderUptoRow.holds Try.pinned (OpenSpec.upto scaleOrderSpec)

/-- 'meridianlaw4.ScaleDays', WHERE WHAT IT READS IS OF BULK AT MOST 1048576: true; the input reads as it did. -/
def scaleDaysUptoRow : OpenClaim := { program := "ytklahiogcpojmaa", sum := "82d2445add5b483d47a12876eaf69435790b19dad1c0170bc80ab0bdfc3cfa98", func := "meridian/meridianlaw4.ScaleDays", spec := "scaleDays", apart := false, narrowed := true }
def ScaleDaysUptoSaid : Prop := scaleDaysUptoRow.holds Try.pinned (OpenSpec.upto scaleDaysSpec)

end Rows
end Go.Proofs.Ytklahiogcpojmaa
