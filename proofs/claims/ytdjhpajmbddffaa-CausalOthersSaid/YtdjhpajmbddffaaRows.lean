/-
  No cell of these rows narrows 'for every input' (looked for: loops, veiled, ifaces, maps, wideKeys, modest, calm, conditions, laid).
  DERIVED. THE GIVEN ROWS OF THIS SEAT. 3 by the template 'for every input the law returns true; each argument reads behind the call as it read before'; 0 by the template 'total and deterministic' (their statements: YtdjhpajmbddffaaTotals.lean).
  GIVEN WITH THE SEED: the statements are not yours to turn. If you find one false, say at which input.
  Laid BY PROGRAM, IN A SANDBOX (cutbox-rows.mjs): the forced cells as the released guide's own fill.sh prints them over the translation 877280a6f2ef2314… (all of the seat's roots in one cut). By AI agents, Wed Nov 11 2026. No macro, syntax, notation, axiom, sorry.
-/
import Derived.Test.YtdjhpajmbddffaaChecked
import GoSem.Claim
import GoSem.ClaimJoined
import GoSem.ClaimMapViews
import Derived.JoinedTies
import Derived.KernelRfl
namespace Go.Proofs.Ytdjhpajmbddffaa
/- THE CELL 'sum', in the pinned program and in every row, IS THE sha256 OF THE DUMP (.gsa) THAT YtdjhpajmbddffaaProg.lean LOADS. Nothing in Lean hashes anything: it is a label: what it is worth is what the hold of that sum in a sandbox is worth. -/
noncomputable def Try.pinned : Pinned := { name := "ytdjhpajmbddffaa", sum := "877280a6f2ef23148d0fa5047476ee072a724bd12e16ad7a5f964201789b88ec", checked := Try.checked }
namespace Rows
def none {H : Type} : Left H := { results := [], args := [] }

/-- 'meridianlaw25.CausalWrites': WHATEVER THE INPUT: true; the input reads as it did. -/
def causalWritesSpec : ChangeSpec := { name := "causalWrites", fn := fun _ => fun
  | [d] => { results := [.lit (.bool true)], args := [d] }
  | _ => none }
def causalWritesRow : OpenClaim := { program := "ytdjhpajmbddffaa", sum := "877280a6f2ef23148d0fa5047476ee072a724bd12e16ad7a5f964201789b88ec", func := "meridian/meridianlaw25.CausalWrites", spec := "causalWrites", inPlace := ["slices.overlaps[[]byte]"], unfollowed := true, recurses := true, plainKeys := false, apart := false }
def CausalWritesSaid : Prop := causalWritesRow.holds Try.pinned (OpenSpec.ofChange causalWritesSpec)

/-- ITS FALSE NEIGHBOUR: 'it returns false'. Refute it at one input. -/
def causalWritesWrong : ChangeSpec := { name := "causalWrites", fn := fun _ => fun
  | [d] => { results := [.lit (.bool false)], args := [d] }
  | _ => none }
def CausalWritesWrongFalsely : Prop := causalWritesRow.holds Try.pinned (OpenSpec.ofChange causalWritesWrong)

/-- 'meridianlaw25.CausalOthers': WHATEVER THE INPUT: true; the input reads as it did. -/
def causalOthersSpec : ChangeSpec := { name := "causalOthers", fn := fun _ => fun
  | [d1, d2, d3, d4] => { results := [.lit (.bool true)], args := [d1, d2, d3, d4] }
  | _ => none }
def causalOthersRow : OpenClaim := { program := "ytdjhpajmbddffaa", sum := "877280a6f2ef23148d0fa5047476ee072a724bd12e16ad7a5f964201789b88ec", func := "meridian/meridianlaw25.CausalOthers", spec := "causalOthers", inPlace := ["slices.overlaps[[]byte]"], unfollowed := true, recurses := true, plainKeys := false, apart := false }
def CausalOthersSaid : Prop := causalOthersRow.holds Try.pinned (OpenSpec.ofChange causalOthersSpec)

/-- ITS FALSE NEIGHBOUR: 'it returns false'. Refute it at one input. -/
def causalOthersWrong : ChangeSpec := { name := "causalOthers", fn := fun _ => fun
  | [d1, d2, d3, d4] => { results := [.lit (.bool false)], args := [d1, d2, d3, d4] }
  | _ => none }
def CausalOthersWrongFalsely : Prop := causalOthersRow.holds Try.pinned (OpenSpec.ofChange causalOthersWrong)

/-- 'meridianlaw25.CausalStamps': WHATEVER THE INPUT: true; the input reads as it did. -/
def causalStampsSpec : ChangeSpec := { name := "causalStamps", fn := fun _ => fun
  | [d1, d2, d3] => { results := [.lit (.bool true)], args := [d1, d2, d3] }
  | _ => none }
def causalStampsRow : OpenClaim := { program := "ytdjhpajmbddffaa", sum := "877280a6f2ef23148d0fa5047476ee072a724bd12e16ad7a5f964201789b88ec", func := "meridian/meridianlaw25.CausalStamps", spec := "causalStamps", inPlace := ["slices.overlaps[[]byte]"], unfollowed := true, recurses := true, plainKeys := false, apart := false }
def CausalStampsSaid : Prop := causalStampsRow.holds Try.pinned (OpenSpec.ofChange causalStampsSpec)

/-- ITS FALSE NEIGHBOUR: 'it returns false'. Refute it at one input. -/
def causalStampsWrong : ChangeSpec := { name := "causalStamps", fn := fun _ => fun
  | [d1, d2, d3] => { results := [.lit (.bool false)], args := [d1, d2, d3] }
  | _ => none }
def CausalStampsWrongFalsely : Prop := causalStampsRow.holds Try.pinned (OpenSpec.ofChange causalStampsWrong)

/- THE SECOND FORM. 'bulk': how many values and letters a reading holds, each counted each time it is reached (what is shared counts as often as it is met; a slice's spare places count too). A statement '..UptoSaid' is the law's where the arguments, and the package variables that the reading takes, are together of bulk at most 1048576: NARROWER than '..Said'. Prove '..Said' where nothing that the law and all that it calls make is longer than what came in: it says more and counts as full. Else prove '..UptoSaid'. A law counts once. -/
mutual
def uptoBulk {H : Type} : DataW H → Nat
  | .lit (.string bytes) => bytes.length + 1
  | .lit _ => 1
  | .nil => 1
  | .ptr d => uptoBulk d + 1
  | .slice elems spare => uptoBulkAll elems + uptoBulkAll spare + 1
  | .agg parts => uptoBulkAll parts + 1
  | .iface _ d => uptoBulk d + 1
  | .map entries => uptoBulkEntries entries + 1
  | .held _ => 1
def uptoBulkAll {H : Type} : List (DataW H) → Nat
  | [] => 0
  | d :: r => uptoBulk d + uptoBulkAll r
def uptoBulkEntries {H : Type} : List (Lit × DataW H) → Nat
  | [] => 0
  | x :: r => uptoBulkEntry x + uptoBulkEntries r
def uptoBulkEntry {H : Type} : Lit × DataW H → Nat
  | (.string bytes, d) => bytes.length + uptoBulk d + 1
  | (_, d) => uptoBulk d + 1
 end
def uptoSmall : (H : Type) → List (DataW H) → Bool := fun _ ds => decide (uptoBulkAll ds ≤ 1048576)
def OpenSpec.upto (s : _root_.Go.ChangeSpec) : _root_.Go.OpenSpec := { _root_.Go.OpenSpec.ofChange s with cond := some uptoSmall }

/-- 'meridianlaw25.CausalWrites', WHERE WHAT IT READS IS OF BULK AT MOST 1048576: true; the input reads as it did. -/
def causalWritesUptoRow : OpenClaim := { program := "ytdjhpajmbddffaa", sum := "877280a6f2ef23148d0fa5047476ee072a724bd12e16ad7a5f964201789b88ec", func := "meridian/meridianlaw25.CausalWrites", spec := "causalWrites", inPlace := ["slices.overlaps[[]byte]"], unfollowed := true, recurses := true, plainKeys := false, apart := false, narrowed := true }
def CausalWritesUptoSaid : Prop := causalWritesUptoRow.holds Try.pinned (OpenSpec.upto causalWritesSpec)

/-- 'meridianlaw25.CausalOthers', WHERE WHAT IT READS IS OF BULK AT MOST 1048576: true; the input reads as it did. -/
def causalOthersUptoRow : OpenClaim := { program := "ytdjhpajmbddffaa", sum := "877280a6f2ef23148d0fa5047476ee072a724bd12e16ad7a5f964201789b88ec", func := "meridian/meridianlaw25.CausalOthers", spec := "causalOthers", inPlace := ["slices.overlaps[[]byte]"], unfollowed := true, recurses := true, plainKeys := false, apart := false, narrowed := true }
def CausalOthersUptoSaid : Prop := causalOthersUptoRow.holds Try.pinned (OpenSpec.upto causalOthersSpec)

/-- 'meridianlaw25.CausalStamps', WHERE WHAT IT READS IS OF BULK AT MOST 1048576: true; the input reads as it did. -/
def causalStampsUptoRow : OpenClaim := { program := "ytdjhpajmbddffaa", sum := "877280a6f2ef23148d0fa5047476ee072a724bd12e16ad7a5f964201789b88ec", func := "meridian/meridianlaw25.CausalStamps", spec := "causalStamps", inPlace := ["slices.overlaps[[]byte]"], unfollowed := true, recurses := true, plainKeys := false, apart := false, narrowed := true }
def CausalStampsUptoSaid : Prop := causalStampsUptoRow.holds Try.pinned (OpenSpec.upto causalStampsSpec)

end Rows
end Go.Proofs.Ytdjhpajmbddffaa
