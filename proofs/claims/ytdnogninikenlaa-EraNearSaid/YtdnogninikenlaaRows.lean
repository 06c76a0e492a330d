/-
  No cell of these rows narrows 'for every input' (looked for: loops, veiled, ifaces, maps, wideKeys, modest, calm, conditions, laid).
  DERIVED. THE GIVEN ROWS OF THIS SEAT. 6 by the template 'for every input the law returns true; each argument reads behind the call as it read before'; 0 by the template 'total and deterministic' (their statements: YtdnogninikenlaaTotals.lean).
  GIVEN WITH THE SEED: the statements are not yours to turn. If you find one false, say at which input.
  Laid BY PROGRAM, IN A SANDBOX (cutbox-rows.mjs): the forced cells as the released guide's own fill.sh prints them over the translation c8037e0fb85cd136… (all of the seat's roots in one cut). By AI agents, Wed Nov 11 2026. No macro, syntax, notation, axiom, sorry.
-/
import Derived.Test.YtdnogninikenlaaChecked
import GoSem.Claim
import GoSem.ClaimJoined
import GoSem.ClaimMapViews
import Derived.JoinedTies
import Derived.KernelRfl
namespace Go.Proofs.Ytdnogninikenlaa
/- THE CELL 'sum', in the pinned program and in every row, IS THE sha256 OF THE DUMP (.gsa) THAT YtdnogninikenlaaProg.lean LOADS. Nothing in Lean hashes anything: it is a label: what it is worth is what the hold of that sum in a sandbox is worth. -/
noncomputable def Try.pinned : Pinned := { name := "ytdnogninikenlaa", sum := "c8037e0fb85cd13653842bdb8bfef5dfed6f7f5ac2e8a0cd881dc1f7b51b4d49", checked := Try.checked }
namespace Rows
def none {H : Type} : Left H := { results := [], args := [] }

/-- 'meridianlaw5.EraStamps': WHATEVER THE INPUT: true; the input reads as it did. -/
def eraStampsSpec : ChangeSpec := { name := "eraStamps", fn := fun _ => fun
  | [d] => { results := [.lit (.bool true)], args := [d] }
  | _ => none }
def eraStampsRow : OpenClaim := { program := "ytdnogninikenlaa", sum := "c8037e0fb85cd13653842bdb8bfef5dfed6f7f5ac2e8a0cd881dc1f7b51b4d49", func := "meridian/meridianlaw5.EraStamps", spec := "eraStamps", apart := false }
def EraStampsSaid : Prop := eraStampsRow.holds Try.pinned (OpenSpec.ofChange eraStampsSpec)

/-- ITS FALSE NEIGHBOUR: 'it returns false'. Refute it at one input. -/
def eraStampsWrong : ChangeSpec := { name := "eraStamps", fn := fun _ => fun
  | [d] => { results := [.lit (.bool false)], args := [d] }
  | _ => none }
def EraStampsWrongFalsely : Prop := eraStampsRow.holds Try.pinned (OpenSpec.ofChange eraStampsWrong)

/-- 'meridianlaw5.EraNear': WHATEVER THE INPUT: true; the input reads as it did. -/
def eraNearSpec : ChangeSpec := { name := "eraNear", fn := fun _ => fun
  | [d1, d2] => { results := [.lit (.bool true)], args := [d1, d2] }
  | _ => none }
def eraNearRow : OpenClaim := { program := "ytdnogninikenlaa", sum := "c8037e0fb85cd13653842bdb8bfef5dfed6f7f5ac2e8a0cd881dc1f7b51b4d49", func := "meridian/meridianlaw5.EraNear", spec := "eraNear", apart := false }
def EraNearSaid : Prop := eraNearRow.holds Try.pinned (OpenSpec.ofChange eraNearSpec)

/-- ITS FALSE NEIGHBOUR: 'it returns false'. Refute it at one input. -/
def eraNearWrong : ChangeSpec := { name := "eraNear", fn := fun _ => fun
  | [d1, d2] => { results := [.lit (.bool false)], args := [d1, d2] }
  | _ => none }
def EraNearWrongFalsely : Prop := eraNearRow.holds Try.pinned (OpenSpec.ofChange eraNearWrong)

/-- 'meridianlaw5.EraBack': WHATEVER THE INPUT: true; the input reads as it did. -/
def eraBackSpec : ChangeSpec := { name := "eraBack", fn := fun _ => fun
  | [d1, d2, d3] => { results := [.lit (.bool true)], args := [d1, d2, d3] }
  | _ => none }
def eraBackRow : OpenClaim := { program := "ytdnogninikenlaa", sum := "c8037e0fb85cd13653842bdb8bfef5dfed6f7f5ac2e8a0cd881dc1f7b51b4d49", func := "meridian/meridianlaw5.EraBack", spec := "eraBack", apart := false }
def EraBackSaid : Prop := eraBackRow.holds Try.pinned (OpenSpec.ofChange eraBackSpec)

/-- ITS FALSE NEIGHBOUR: 'it returns false'. Refute it at one input. -/
def eraBackWrong : ChangeSpec := { name := "eraBack", fn := fun _ => fun
  | [d1, d2, d3] => { results := [.lit (.bool false)], args := [d1, d2, d3] }
  | _ => none }
def EraBackWrongFalsely : Prop := eraBackRow.holds Try.pinned (OpenSpec.ofChange eraBackWrong)

/-- 'meridianlaw5.EraLeap': WHATEVER THE INPUT: true; the input reads as it did. -/
def eraLeapSpec : ChangeSpec := { name := "eraLeap", fn := fun _ => fun
  | [d1, d2] => { results := [.lit (.bool true)], args := [d1, d2] }
  | _ => none }
def eraLeapRow : OpenClaim := { program := "ytdnogninikenlaa", sum := "c8037e0fb85cd13653842bdb8bfef5dfed6f7f5ac2e8a0cd881dc1f7b51b4d49", func := "meridian/meridianlaw5.EraLeap", spec := "eraLeap", apart := false }
def EraLeapSaid : Prop := eraLeapRow.holds Try.pinned (OpenSpec.ofChange eraLeapSpec)

/-- ITS FALSE NEIGHBOUR: 'it returns false'. Refute it at one input. -/
def eraLeapWrong : ChangeSpec := { name := "eraLeap", fn := fun _ => fun
  | [d1, d2] => { results := [.lit (.bool false)], args := [d1, d2] }
  | _ => none }
def EraLeapWrongFalsely : Prop := eraLeapRow.holds Try.pinned (OpenSpec.ofChange eraLeapWrong)

/-- 'meridianlaw5.EraOrder': WHATEVER THE INPUT: true; the input reads as it did. -/
def eraOrderSpec : ChangeSpec := { name := "eraOrder", fn := fun _ => fun
  | [d1, d2] => { results := [.lit (.bool true)], args := [d1, d2] }
  | _ => none }
def eraOrderRow : OpenClaim := { program := "ytdnogninikenlaa", sum := "c8037e0fb85cd13653842bdb8bfef5dfed6f7f5ac2e8a0cd881dc1f7b51b4d49", func := "meridian/meridianlaw5.EraOrder", spec := "eraOrder", apart := false }
def EraOrderSaid : Prop := eraOrderRow.holds Try.pinned (OpenSpec.ofChange eraOrderSpec)

/-- ITS FALSE NEIGHBOUR: 'it returns false'. Refute it at one input. -/
def eraOrderWrong : ChangeSpec := { name := "eraOrder", fn := fun _ => fun
  | [d1, d2] => { results := [.lit (.bool false)], args := [d1, d2] }
  | _ => none }
def EraOrderWrongFalsely : Prop := eraOrderRow.holds Try.pinned (OpenSpec.ofChange eraOrderWrong)

/-- 'meridianlaw5.EraAnew': WHATEVER THE INPUT: true; the input reads as it did. -/
def eraAnewSpec : ChangeSpec := { name := "eraAnew", fn := fun _ => fun
  | [d1, d2, d3, d4] => { results := [.lit (.bool true)], args := [d1, d2, d3, d4] }
  | _ => none }
def eraAnewRow : OpenClaim := { program := "ytdnogninikenlaa", sum := "c8037e0fb85cd13653842bdb8bfef5dfed6f7f5ac2e8a0cd881dc1f7b51b4d49", func := "meridian/meridianlaw5.EraAnew", spec := "eraAnew", apart := false }
def EraAnewSaid : Prop := eraAnewRow.holds Try.pinned (OpenSpec.ofChange eraAnewSpec)

/-- ITS FALSE NEIGHBOUR: 'it returns false'. Refute it at one input. -/
def eraAnewWrong : ChangeSpec := { name := "eraAnew", fn := fun _ => fun
  | [d1, d2, d3, d4] => { results := [.lit (.bool false)], args := [d1, d2, d3, d4] }
  | _ => none }
def EraAnewWrongFalsely : Prop := eraAnewRow.holds Try.pinned (OpenSpec.ofChange eraAnewWrong)

/- THE SECOND FORM. 'bulk': how many values and letters a reading holds, each counted each time it is reached (what is shared counts as often as it is met; a slice's spare places count too). A statement '..UptoSaid' is the law's where the arguments, and the package variables that the reading takes, are together of bulk at most 1048576: NARROWER than '..Said'. Prove '..Said' where nothing that the law and all that it calls make is longer than what came in: it says more and counts as full. Else prove '..UptoSaid'. A law counts once. -/
mutual
def uptoBulk {H : Type} : DataW H → Nat
  | .lit (.string bytes) => bytes.length + 1
  | .lit _ => 1
  | .nil => 1
  | .ptr d => uptoBulk d + 1
  | .slice elems spare => uptoBulkAll elems + uptoBulkAll spare + 1
  | .agg parts => uptoBulkAll parts + 1
  | .iface _ d => uptoBulk d + 1
  | .map entries => uptoBulkEntries entries + 1
  | .held _ => 1
def uptoBulkAll {H : Type} : List (DataW H) → Nat
  | [] => 0
  | d :: r => uptoBulk d + uptoBulkAll r
def uptoBulkEntries {H : Type} : List (Lit × DataW H) → Nat
  | [] => 0
  | x :: r => uptoBulkEntry x + uptoBulkEntries r
def uptoBulkEntry {H : Type} : Lit × DataW H → Nat
  | (.string bytes, d) => bytes.length + uptoBulk d + 1
  | (_, d) => uptoBulk d + 1
 end
def uptoSmall : (H : Type) → List (DataW H) → Bool := fun _ ds => decide (uptoBulkAll ds ≤ 1048576)
def OpenSpec.upto (s : _root_.Go.ChangeSpec) : _root_.Go.OpenSpec := { _root_.Go.OpenSpec.ofChange s with cond := some uptoSmall }

/-- 'meridianlaw5.EraStamps', WHERE WHAT IT READS IS OF BULK AT MOST 1048576: true; the input reads as it did. -/
def eraStampsUptoRow : OpenClaim := { program := "ytdnogninikenlaa", sum := "c8037e0fb85cd13653842bdb8bfef5dfed6f7f5ac2e8a0cd881dc1f7b51b4d49", func := "meridian/meridianlaw5.EraStamps", spec := "eraStamps", apart := false, narrowed := true }
def EraStampsUptoSaid : Prop := eraStampsUptoRow.holds Try.pinned (OpenSpec.upto eraStampsSpec)

/-- 'meridianlaw5.EraNear', WHERE WHAT IT READS IS OF BULK AT MOST 1048576: true; the input reads as it did. -/
def eraNearUptoRow : OpenClaim := { program := "ytdnogninikenlaa", sum := "c8037e0fb85cd13653842bdb8bfef5dfed6f7f5ac2e8a0cd881dc1f7b51b4d49", func := "meridian/meridianlaw5.EraNear", spec := "eraNear", apart := false, narrowed := true }
def EraNearUptoSaid : Prop := eraNearUptoRow.holds Try.pinned (OpenSpec.upto eraNearSpec)

/-- 'meridianlaw5.EraBack', WHERE WHAT IT READS IS OF BULK AT MOST 1048576: true; the input reads as it did. -/
def eraBackUptoRow : OpenClaim := { program := "ytdnogninikenlaa", sum := "c8037e0fb85cd13653842bdb8bfef5dfed6f7f5ac2e8a0cd881dc1f7b51b4d49", func := "meridian/meridianlaw5.EraBack", spec := "eraBack", apart := false, narrowed := true }
def EraBackUptoSaid : Prop := eraBackUptoRow.holds Try.pinned (OpenSpec.upto eraBackSpec)

/-- 'meridianlaw5.EraLeap', WHERE WHAT IT READS IS OF BULK AT MOST 1048576: true; the input reads as it did. -/
def eraLeapUptoRow : OpenClaim := { program := "ytdnogninikenlaa", sum := "c8037e0fb85cd13653842bdb8bfef5dfed6f7f5ac2e8a0cd881dc1f7b51b4d49", func := "meridian/meridianlaw5.EraLeap", spec := "eraLeap", apart := false, narrowed := true }
def EraLeapUptoSaid : Prop := eraLeapUptoRow.holds Try.pinned (OpenSpec.upto eraLeapSpec)

/-- 'meridianlaw5.EraOrder', WHERE WHAT IT READS IS OF BULK AT MOST 1048576: true; the input reads as it did. -/
def eraOrderUptoRow : OpenClaim := { program := "ytdnogninikenlaa", sum := "c8037e0fb85cd13653842bdb8bfef5dfed6f7f5ac2e8a0cd881dc1f7b51b4d49", func := "meridian/meridianlaw5.EraOrder", spec := "eraOrder", apart := false, narrowed := true }
def EraOrderUptoSaid : Prop := eraOrderUptoRow.holds Try.pinned (OpenSpec.upto eraOrderSpec)

/-- 'meridianlaw5.EraAnew', WHERE WHAT IT READS IS OF BULK AT MOST 1048576: true; the input reads as it did. -/
def eraAnewUptoRow : OpenClaim := { program := "ytdnogninikenlaa", sum := "c8037e0fb85cd13653842bdb8bfef5dfed6f7f5ac2e8a0cd881dc1f7b51b4d49", func := "meridian/meridianlaw5.EraAnew", spec := "eraAnew", apart := false, narrowed := true }
def EraAnewUptoSaid : Prop := eraAnewUptoRow.holds Try.pinned (OpenSpec.upto eraAnewSpec)

end Rows
end Go.Proofs.Ytdnogninikenlaa
