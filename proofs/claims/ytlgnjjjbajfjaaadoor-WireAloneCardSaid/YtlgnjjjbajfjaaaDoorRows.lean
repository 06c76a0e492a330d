/-
  NARROWER THAN 'FOR EVERY INPUT', by the rows' own cells (each row's printed sentence says how): WireEncodes: laid · WireDecodes: laid · WireSees: laid · WireGaps: laid · WireApart: laid · WireAlone: laid.
  DERIVED. THE GIVEN ROWS OF THIS SEAT. 6 by the template 'for every input the law returns true; each argument reads behind the call as it read before'; 0 by the template 'total and deterministic' (their statements: YtlgnjjjbajfjaaaDoorTotals.lean).
  GIVEN WITH THE SEED: the statements are not yours to turn. If you find one false, say at which input.
  Laid BY PROGRAM, IN A SANDBOX (cutbox-rows.mjs): the forced cells as the released guide's own fill.sh prints them over the translation 4f6ef924a7ae9b8b… (all of the seat's roots in one cut). By AI agents, Wed Nov 11 2026. No macro, syntax, notation, axiom, sorry.
-/
import Derived.Test.YtlgnjjjbajfjaaaDoorChecked
import GoSem.Claim
import GoSem.ClaimJoined
import GoSem.ClaimMapViews
import Derived.JoinedTies
import Derived.KernelRfl
namespace Go.Proofs.YtlgnjjjbajfjaaaDoor
/- THE CELL 'sum', in the pinned program and in every row, IS THE sha256 OF THE DUMP (.gsa) THAT YtlgnjjjbajfjaaaDoorProg.lean LOADS. Nothing in Lean hashes anything: it is a label: what it is worth is what the hold of that sum in a sandbox is worth. -/
noncomputable def Tryd.pinned : Pinned := { name := "ytlgnjjjbajfjaaadoor", sum := "4f6ef924a7ae9b8b2b31aeb1031831dddfa6a99b2f55e65211fcb131b930c558", checked := Tryd.checked }
namespace Rows
def none {H : Type} : Left H := { results := [], args := [] }

/- WHAT THE LISTED PACKAGE-LEVEL VARIABLES READ AS WHEN THE CALL BEGINS. Each datum BY PROGRAM (the guide's laid-datum.mjs) off the statement by which the dump's own 'gosem.cut.vars' lays the variable. In a bare row this is a premise. The card (YtlgnjjjbajfjaaaDoorCards.lean) ties it to the program's text. -/
def laid_meridian_octet_nibbles {H : Type} : DataW H := .agg [.lit (.int .u32 0), .lit (.int .u32 498536548), .lit (.int .u32 997073096), .lit (.int .u32 651767980), .lit (.int .u32 1994146192), .lit (.int .u32 1802195444), .lit (.int .u32 1303535960), .lit (.int .u32 1342533948), .lit (.int .u32 3988292384), .lit (.int .u32 4027552580), .lit (.int .u32 3604390888), .lit (.int .u32 3412177804), .lit (.int .u32 2607071920), .lit (.int .u32 2262029012), .lit (.int .u32 2685067896), .lit (.int .u32 3183342108)]

/-- 'meridianlaw17.WireEncodes': WHATEVER THE INPUT: true; the input reads as it did. -/
def wireEncodesSpec : ChangeSpec := { name := "wireEncodes", fn := fun _ => fun
  | [d] => { results := [.lit (.bool true)], args := [d] }
  | _ => none }
def wireEncodesRow : OpenClaim := { program := "ytlgnjjjbajfjaaadoor", sum := "4f6ef924a7ae9b8b2b31aeb1031831dddfa6a99b2f55e65211fcb131b930c558", func := "meridian/meridianlaw17.WireEncodes", spec := "wireEncodes", named := ["meridian/octet.nibbles"], apart := false, laid := [("meridian/octet.nibbles", laid_meridian_octet_nibbles)] }
def WireEncodesSaid : Prop := wireEncodesRow.holds Tryd.pinned (OpenSpec.ofChange wireEncodesSpec)

/-- ITS FALSE NEIGHBOUR: 'it returns false'. Refute it at one input. -/
def wireEncodesWrong : ChangeSpec := { name := "wireEncodes", fn := fun _ => fun
  | [d] => { results := [.lit (.bool false)], args := [d] }
  | _ => none }
def WireEncodesWrongFalsely : Prop := wireEncodesRow.holds Tryd.pinned (OpenSpec.ofChange wireEncodesWrong)

/-- 'meridianlaw17.WireDecodes': WHATEVER THE INPUT: true; the input reads as it did. -/
def wireDecodesSpec : ChangeSpec := { name := "wireDecodes", fn := fun _ => fun
  | [d] => { results := [.lit (.bool true)], args := [d] }
  | _ => none }
def wireDecodesRow : OpenClaim := { program := "ytlgnjjjbajfjaaadoor", sum := "4f6ef924a7ae9b8b2b31aeb1031831dddfa6a99b2f55e65211fcb131b930c558", func := "meridian/meridianlaw17.WireDecodes", spec := "wireDecodes", named := ["meridian/octet.nibbles"], apart := false, laid := [("meridian/octet.nibbles", laid_meridian_octet_nibbles)] }
def WireDecodesSaid : Prop := wireDecodesRow.holds Tryd.pinned (OpenSpec.ofChange wireDecodesSpec)

/-- ITS FALSE NEIGHBOUR: 'it returns false'. Refute it at one input. -/
def wireDecodesWrong : ChangeSpec := { name := "wireDecodes", fn := fun _ => fun
  | [d] => { results := [.lit (.bool false)], args := [d] }
  | _ => none }
def WireDecodesWrongFalsely : Prop := wireDecodesRow.holds Tryd.pinned (OpenSpec.ofChange wireDecodesWrong)

/-- 'meridianlaw17.WireSees': WHATEVER THE INPUT: true; the input reads as it did. -/
def wireSeesSpec : ChangeSpec := { name := "wireSees", fn := fun _ => fun
  | [d1, d2, d3] => { results := [.lit (.bool true)], args := [d1, d2, d3] }
  | _ => none }
def wireSeesRow : OpenClaim := { program := "ytlgnjjjbajfjaaadoor", sum := "4f6ef924a7ae9b8b2b31aeb1031831dddfa6a99b2f55e65211fcb131b930c558", func := "meridian/meridianlaw17.WireSees", spec := "wireSees", named := ["meridian/octet.nibbles"], apart := false, laid := [("meridian/octet.nibbles", laid_meridian_octet_nibbles)] }
def WireSeesSaid : Prop := wireSeesRow.holds Tryd.pinned (OpenSpec.ofChange wireSeesSpec)

/-- ITS FALSE NEIGHBOUR: 'it returns false'. Refute it at one input. -/
def wireSeesWrong : ChangeSpec := { name := "wireSees", fn := fun _ => fun
  | [d1, d2, d3] => { results := [.lit (.bool false)], args := [d1, d2, d3] }
  | _ => none }
def WireSeesWrongFalsely : Prop := wireSeesRow.holds Tryd.pinned (OpenSpec.ofChange wireSeesWrong)

/-- 'meridianlaw17.WireGaps': WHATEVER THE INPUT: true; the input reads as it did. -/
def wireGapsSpec : ChangeSpec := { name := "wireGaps", fn := fun _ => fun
  | [d1, d2, d3] => { results := [.lit (.bool true)], args := [d1, d2, d3] }
  | _ => none }
def wireGapsRow : OpenClaim := { program := "ytlgnjjjbajfjaaadoor", sum := "4f6ef924a7ae9b8b2b31aeb1031831dddfa6a99b2f55e65211fcb131b930c558", func := "meridian/meridianlaw17.WireGaps", spec := "wireGaps", named := ["meridian/octet.nibbles"], apart := false, laid := [("meridian/octet.nibbles", laid_meridian_octet_nibbles)] }
def WireGapsSaid : Prop := wireGapsRow.holds Tryd.pinned (OpenSpec.ofChange wireGapsSpec)

/-- ITS FALSE NEIGHBOUR: 'it returns false'. Refute it at one input. -/
def wireGapsWrong : ChangeSpec := { name := "wireGaps", fn := fun _ => fun
  | [d1, d2, d3] => { results := [.lit (.bool false)], args := [d1, d2, d3] }
  | _ => none }
def WireGapsWrongFalsely : Prop := wireGapsRow.holds Tryd.pinned (OpenSpec.ofChange wireGapsWrong)

/-- 'meridianlaw17.WireApart': WHATEVER THE INPUT: true; the input reads as it did. -/
def wireApartSpec : ChangeSpec := { name := "wireApart", fn := fun _ => fun
  | [d1, d2] => { results := [.lit (.bool true)], args := [d1, d2] }
  | _ => none }
def wireApartRow : OpenClaim := { program := "ytlgnjjjbajfjaaadoor", sum := "4f6ef924a7ae9b8b2b31aeb1031831dddfa6a99b2f55e65211fcb131b930c558", func := "meridian/meridianlaw17.WireApart", spec := "wireApart", named := ["meridian/octet.nibbles"], apart := false, laid := [("meridian/octet.nibbles", laid_meridian_octet_nibbles)] }
def WireApartSaid : Prop := wireApartRow.holds Tryd.pinned (OpenSpec.ofChange wireApartSpec)

/-- ITS FALSE NEIGHBOUR: 'it returns false'. Refute it at one input. -/
def wireApartWrong : ChangeSpec := { name := "wireApart", fn := fun _ => fun
  | [d1, d2] => { results := [.lit (.bool false)], args := [d1, d2] }
  | _ => none }
def WireApartWrongFalsely : Prop := wireApartRow.holds Tryd.pinned (OpenSpec.ofChange wireApartWrong)

/-- 'meridianlaw17.WireAlone': WHATEVER THE INPUT: true; the input reads as it did. -/
def wireAloneSpec : ChangeSpec := { name := "wireAlone", fn := fun _ => fun
  | [d1, d2] => { results := [.lit (.bool true)], args := [d1, d2] }
  | _ => none }
def wireAloneRow : OpenClaim := { program := "ytlgnjjjbajfjaaadoor", sum := "4f6ef924a7ae9b8b2b31aeb1031831dddfa6a99b2f55e65211fcb131b930c558", func := "meridian/meridianlaw17.WireAlone", spec := "wireAlone", named := ["meridian/octet.nibbles"], apart := false, laid := [("meridian/octet.nibbles", laid_meridian_octet_nibbles)] }
def WireAloneSaid : Prop := wireAloneRow.holds Tryd.pinned (OpenSpec.ofChange wireAloneSpec)

/-- ITS FALSE NEIGHBOUR: 'it returns false'. Refute it at one input. -/
def wireAloneWrong : ChangeSpec := { name := "wireAlone", fn := fun _ => fun
  | [d1, d2] => { results := [.lit (.bool false)], args := [d1, d2] }
  | _ => none }
def WireAloneWrongFalsely : Prop := wireAloneRow.holds Tryd.pinned (OpenSpec.ofChange wireAloneWrong)

/- THE SECOND FORM. 'bulk': how many values and letters a reading holds, each counted each time it is reached (what is shared counts as often as it is met; a slice's spare places count too). A statement '..UptoSaid' is the law's where the arguments, and the package variables that the reading takes, are together of bulk at most 1048576: NARROWER than '..Said'. Prove '..Said' where nothing that the law and all that it calls make is longer than what came in: it says more and counts as full. Else prove '..UptoSaid'. A law counts once. -/
mutual
def uptoBulk {H : Type} : DataW H → Nat
  | .lit (.string bytes) => bytes.length + 1
  | .lit _ => 1
  | .nil => 1
  | .ptr d => uptoBulk d + 1
  | .slice elems spare => uptoBulkAll elems + uptoBulkAll spare + 1
  | .agg parts => uptoBulkAll parts + 1
  | .iface _ d => uptoBulk d + 1
  | .map entries => uptoBulkEntries entries + 1
  | .held _ => 1
def uptoBulkAll {H : Type} : List (DataW H) → Nat
  | [] => 0
  | d :: r => uptoBulk d + uptoBulkAll r
def uptoBulkEntries {H : Type} : List (Lit × DataW H) → Nat
  | [] => 0
  | x :: r => uptoBulkEntry x + uptoBulkEntries r
def uptoBulkEntry {H : Type} : Lit × DataW H → Nat
  | (.string bytes, d) => bytes.length + uptoBulk d + 1
  | (_, d) => uptoBulk d + 1
 end
def uptoSmall : (H : Type) → List (DataW H) → Bool := fun _ ds => decide (uptoBulkAll ds ≤ 1048576)
def OpenSpec.upto (s : _root_.Go.ChangeSpec) : _root_.Go.OpenSpec := { _root_.Go.OpenSpec.ofChange s with cond := some uptoSmall }

/-- 'meridianlaw17.WireEncodes', WHERE WHAT IT READS IS OF BULK AT MOST 1048576: true; the input reads as it did. -/
def wireEncodesUptoRow : OpenClaim := { program := "ytlgnjjjbajfjaaadoor", sum := "4f6ef924a7ae9b8b2b31aeb1031831dddfa6a99b2f55e65211fcb131b930c558", func := "meridian/meridianlaw17.WireEncodes", spec := "wireEncodes", named := ["meridian/octet.nibbles"], apart := false, laid := [("meridian/octet.nibbles", laid_meridian_octet_nibbles)], narrowed := true }
def WireEncodesUptoSaid : Prop := wireEncodesUptoRow.holds Tryd.pinned (OpenSpec.upto wireEncodesSpec)

/-- 'meridianlaw17.WireDecodes', WHERE WHAT IT READS IS OF BULK AT MOST 1048576: true; the input reads as it did. -/
def wireDecodesUptoRow : OpenClaim := { program := "ytlgnjjjbajfjaaadoor", sum := "4f6ef924a7ae9b8b2b31aeb1031831dddfa6a99b2f55e65211fcb131b930c558", func := "meridian/meridianlaw17.WireDecodes", spec := "wireDecodes", named := ["meridian/octet.nibbles"], apart := false, laid := [("meridian/octet.nibbles", laid_meridian_octet_nibbles)], narrowed := true }
def WireDecodesUptoSaid : Prop := wireDecodesUptoRow.holds Tryd.pinned (OpenSpec.upto wireDecodesSpec)

/-- 'meridianlaw17.WireSees', WHERE WHAT IT READS IS OF BULK AT MOST 1048576: true; the input reads as it did. -/
def wireSeesUptoRow : OpenClaim := { program := "ytlgnjjjbajfjaaadoor", sum := "4f6ef924a7ae9b8b2b31aeb1031831dddfa6a99b2f55e65211fcb131b930c558", func := "meridian/meridianlaw17.WireSees", spec := "wireSees", named := ["meridian/octet.nibbles"], apart := false, laid := [("meridian/octet.nibbles", laid_meridian_octet_nibbles)], narrowed := true }
def WireSeesUptoSaid : Prop := wireSeesUptoRow.holds Tryd.pinned (OpenSpec.upto wireSeesSpec)

/-- 'meridianlaw17.WireGaps', WHERE WHAT IT READS IS OF BULK AT MOST 1048576: true; the input reads as it did. -/
def wireGapsUptoRow : OpenClaim := { program := "ytlgnjjjbajfjaaadoor", sum := "4f6ef924a7ae9b8b2b31aeb1031831dddfa6a99b2f55e65211fcb131b930c558", func := "meridian/meridianlaw17.WireGaps", spec := "wireGaps", named := ["meridian/octet.nibbles"], apart := false, laid := [("meridian/octet.nibbles", laid_meridian_octet_nibbles)], narrowed := true }
def WireGapsUptoSaid : Prop := wireGapsUptoRow.holds Tryd.pinned (OpenSpec.upto wireGapsSpec)

/-- 'meridianlaw17.WireApart', WHERE WHAT IT READS IS OF BULK AT MOST 1048576: true; the input reads as it did. -/
def wireApartUptoRow : OpenClaim := { program := "ytlgnjjjbajfjaaadoor", sum := "4f6ef924a7ae9b8b2b31aeb1031831dddfa6a99b2f55e65211fcb131b930c558", func := "meridian/meridianlaw17.WireApart", spec := "wireApart", named := ["meridian/octet.nibbles"], apart := false, laid := [("meridian/octet.nibbles", laid_meridian_octet_nibbles)], narrowed := true }
def WireApartUptoSaid : Prop := wireApartUptoRow.holds Tryd.pinned (OpenSpec.upto wireApartSpec)

/-- 'meridianlaw17.WireAlone', WHERE WHAT IT READS IS OF BULK AT MOST 1048576: true; the input reads as it did. -/
def wireAloneUptoRow : OpenClaim := { program := "ytlgnjjjbajfjaaadoor", sum := "4f6ef924a7ae9b8b2b31aeb1031831dddfa6a99b2f55e65211fcb131b930c558", func := "meridian/meridianlaw17.WireAlone", spec := "wireAlone", named := ["meridian/octet.nibbles"], apart := false, laid := [("meridian/octet.nibbles", laid_meridian_octet_nibbles)], narrowed := true }
def WireAloneUptoSaid : Prop := wireAloneUptoRow.holds Tryd.pinned (OpenSpec.upto wireAloneSpec)

end Rows
end Go.Proofs.YtlgnjjjbajfjaaaDoor
