/-
  NARROWER THAN 'FOR EVERY INPUT', by the rows' own cells (each row's printed sentence says how): WireEncodes: laid · WireDecodes: laid · StreamSends: laid · StreamTakes: laid · StreamComes: laid · StreamOfNothing: laid · StreamSame: laid · StreamOnce: laid · StreamAgain: laid.
  DERIVED. THE GIVEN ROWS OF THIS SEAT. 9 by the template 'for every input the law returns true; each argument reads behind the call as it read before'; 0 by the template 'total and deterministic' (their statements: YtdffldlcbihjmaaDoorTotals.lean).
  GIVEN WITH THE SEED: the statements are not yours to turn. If you find one false, say at which input.
  Laid BY PROGRAM, IN A SANDBOX (cutbox-rows.mjs): the forced cells as the released guide's own fill.sh prints them over the translation 17f60be18818ed26… (all of the seat's roots in one cut). By AI agents, Wed Nov 11 2026. No macro, syntax, notation, axiom, sorry.
-/
import Derived.Test.YtdffldlcbihjmaaDoorChecked
import GoSem.Claim
import GoSem.ClaimJoined
import GoSem.ClaimMapViews
import Derived.JoinedTies
import Derived.KernelRfl
namespace Go.Proofs.YtdffldlcbihjmaaDoor
/- THE CELL 'sum', in the pinned program and in every row, IS THE sha256 OF THE DUMP (.gsa) THAT YtdffldlcbihjmaaDoorProg.lean LOADS. Nothing in Lean hashes anything: it is a label: what it is worth is what the hold of that sum in a sandbox is worth. -/
noncomputable def Tryd.pinned : Pinned := { name := "ytdffldlcbihjmaadoor", sum := "17f60be18818ed2602b0682c66dae881934ed9865f70df4ebff36fc299b1f593", checked := Tryd.checked }
namespace Rows
def none {H : Type} : Left H := { results := [], args := [] }

/- WHAT THE LISTED PACKAGE-LEVEL VARIABLES READ AS WHEN THE CALL BEGINS. Each datum BY PROGRAM (the guide's laid-datum.mjs) off the statement by which the dump's own 'gosem.cut.vars' lays the variable. In a bare row this is a premise. The card (YtdffldlcbihjmaaDoorCards.lean) ties it to the program's text. -/
def laid_meridian_octet_nibbles {H : Type} : DataW H := .agg [.lit (.int .u32 0), .lit (.int .u32 498536548), .lit (.int .u32 997073096), .lit (.int .u32 651767980), .lit (.int .u32 1994146192), .lit (.int .u32 1802195444), .lit (.int .u32 1303535960), .lit (.int .u32 1342533948), .lit (.int .u32 3988292384), .lit (.int .u32 4027552580), .lit (.int .u32 3604390888), .lit (.int .u32 3412177804), .lit (.int .u32 2607071920), .lit (.int .u32 2262029012), .lit (.int .u32 2685067896), .lit (.int .u32 3183342108)]

/-- 'meridianlaw17.WireEncodes': WHATEVER THE INPUT: true; the input reads as it did. -/
def wireEncodesSpec : ChangeSpec := { name := "wireEncodes", fn := fun _ => fun
  | [d] => { results := [.lit (.bool true)], args := [d] }
  | _ => none }
def wireEncodesRow : OpenClaim := { program := "ytdffldlcbihjmaadoor", sum := "17f60be18818ed2602b0682c66dae881934ed9865f70df4ebff36fc299b1f593", func := "meridian/meridianlaw17.WireEncodes", spec := "wireEncodes", named := ["meridian/octet.nibbles"], apart := false, laid := [("meridian/octet.nibbles", laid_meridian_octet_nibbles)] }
def WireEncodesSaid : Prop := wireEncodesRow.holds Tryd.pinned (OpenSpec.ofChange wireEncodesSpec)

/-- ITS FALSE NEIGHBOUR: 'it returns false'. Refute it at one input. -/
def wireEncodesWrong : ChangeSpec := { name := "wireEncodes", fn := fun _ => fun
  | [d] => { results := [.lit (.bool false)], args := [d] }
  | _ => none }
def WireEncodesWrongFalsely : Prop := wireEncodesRow.holds Tryd.pinned (OpenSpec.ofChange wireEncodesWrong)

/-- 'meridianlaw17.WireDecodes': WHATEVER THE INPUT: true; the input reads as it did. -/
def wireDecodesSpec : ChangeSpec := { name := "wireDecodes", fn := fun _ => fun
  | [d] => { results := [.lit (.bool true)], args := [d] }
  | _ => none }
def wireDecodesRow : OpenClaim := { program := "ytdffldlcbihjmaadoor", sum := "17f60be18818ed2602b0682c66dae881934ed9865f70df4ebff36fc299b1f593", func := "meridian/meridianlaw17.WireDecodes", spec := "wireDecodes", named := ["meridian/octet.nibbles"], apart := false, laid := [("meridian/octet.nibbles", laid_meridian_octet_nibbles)] }
def WireDecodesSaid : Prop := wireDecodesRow.holds Tryd.pinned (OpenSpec.ofChange wireDecodesSpec)

/-- ITS FALSE NEIGHBOUR: 'it returns false'. Refute it at one input. -/
def wireDecodesWrong : ChangeSpec := { name := "wireDecodes", fn := fun _ => fun
  | [d] => { results := [.lit (.bool false)], args := [d] }
  | _ => none }
def WireDecodesWrongFalsely : Prop := wireDecodesRow.holds Tryd.pinned (OpenSpec.ofChange wireDecodesWrong)

/-- 'meridianlaw18.StreamSends': WHATEVER THE INPUT: true; the input reads as it did. -/
def streamSendsSpec : ChangeSpec := { name := "streamSends", fn := fun _ => fun
  | [d1, d2, d3, d4] => { results := [.lit (.bool true)], args := [d1, d2, d3, d4] }
  | _ => none }
def streamSendsRow : OpenClaim := { program := "ytdffldlcbihjmaadoor", sum := "17f60be18818ed2602b0682c66dae881934ed9865f70df4ebff36fc299b1f593", func := "meridian/meridianlaw18.StreamSends", spec := "streamSends", named := ["meridian/octet.nibbles"], apart := false, laid := [("meridian/octet.nibbles", laid_meridian_octet_nibbles)] }
def StreamSendsSaid : Prop := streamSendsRow.holds Tryd.pinned (OpenSpec.ofChange streamSendsSpec)

/-- ITS FALSE NEIGHBOUR: 'it returns false'. Refute it at one input. -/
def streamSendsWrong : ChangeSpec := { name := "streamSends", fn := fun _ => fun
  | [d1, d2, d3, d4] => { results := [.lit (.bool false)], args := [d1, d2, d3, d4] }
  | _ => none }
def StreamSendsWrongFalsely : Prop := streamSendsRow.holds Tryd.pinned (OpenSpec.ofChange streamSendsWrong)

/-- 'meridianlaw18.StreamTakes': WHATEVER THE INPUT: true; the input reads as it did. -/
def streamTakesSpec : ChangeSpec := { name := "streamTakes", fn := fun _ => fun
  | [d1, d2, d3, d4, d5] => { results := [.lit (.bool true)], args := [d1, d2, d3, d4, d5] }
  | _ => none }
def streamTakesRow : OpenClaim := { program := "ytdffldlcbihjmaadoor", sum := "17f60be18818ed2602b0682c66dae881934ed9865f70df4ebff36fc299b1f593", func := "meridian/meridianlaw18.StreamTakes", spec := "streamTakes", named := ["meridian/octet.nibbles"], apart := false, laid := [("meridian/octet.nibbles", laid_meridian_octet_nibbles)] }
def StreamTakesSaid : Prop := streamTakesRow.holds Tryd.pinned (OpenSpec.ofChange streamTakesSpec)

/-- ITS FALSE NEIGHBOUR: 'it returns false'. Refute it at one input. -/
def streamTakesWrong : ChangeSpec := { name := "streamTakes", fn := fun _ => fun
  | [d1, d2, d3, d4, d5] => { results := [.lit (.bool false)], args := [d1, d2, d3, d4, d5] }
  | _ => none }
def StreamTakesWrongFalsely : Prop := streamTakesRow.holds Tryd.pinned (OpenSpec.ofChange streamTakesWrong)

/-- 'meridianlaw18.StreamComes': WHATEVER THE INPUT: true; the input reads as it did. -/
def streamComesSpec : ChangeSpec := { name := "streamComes", fn := fun _ => fun
  | [d1, d2] => { results := [.lit (.bool true)], args := [d1, d2] }
  | _ => none }
def streamComesRow : OpenClaim := { program := "ytdffldlcbihjmaadoor", sum := "17f60be18818ed2602b0682c66dae881934ed9865f70df4ebff36fc299b1f593", func := "meridian/meridianlaw18.StreamComes", spec := "streamComes", named := ["meridian/octet.nibbles"], apart := false, laid := [("meridian/octet.nibbles", laid_meridian_octet_nibbles)] }
def StreamComesSaid : Prop := streamComesRow.holds Tryd.pinned (OpenSpec.ofChange streamComesSpec)

/-- ITS FALSE NEIGHBOUR: 'it returns false'. Refute it at one input. -/
def streamComesWrong : ChangeSpec := { name := "streamComes", fn := fun _ => fun
  | [d1, d2] => { results := [.lit (.bool false)], args := [d1, d2] }
  | _ => none }
def StreamComesWrongFalsely : Prop := streamComesRow.holds Tryd.pinned (OpenSpec.ofChange streamComesWrong)

/-- 'meridianlaw18.StreamOfNothing': WHATEVER THE INPUT: true; the input reads as it did. -/
def streamOfNothingSpec : ChangeSpec := { name := "streamOfNothing", fn := fun _ => fun
  | [d1, d2] => { results := [.lit (.bool true)], args := [d1, d2] }
  | _ => none }
def streamOfNothingRow : OpenClaim := { program := "ytdffldlcbihjmaadoor", sum := "17f60be18818ed2602b0682c66dae881934ed9865f70df4ebff36fc299b1f593", func := "meridian/meridianlaw18.StreamOfNothing", spec := "streamOfNothing", named := ["meridian/octet.nibbles"], apart := false, laid := [("meridian/octet.nibbles", laid_meridian_octet_nibbles)] }
def StreamOfNothingSaid : Prop := streamOfNothingRow.holds Tryd.pinned (OpenSpec.ofChange streamOfNothingSpec)

/-- ITS FALSE NEIGHBOUR: 'it returns false'. Refute it at one input. -/
def streamOfNothingWrong : ChangeSpec := { name := "streamOfNothing", fn := fun _ => fun
  | [d1, d2] => { results := [.lit (.bool false)], args := [d1, d2] }
  | _ => none }
def StreamOfNothingWrongFalsely : Prop := streamOfNothingRow.holds Tryd.pinned (OpenSpec.ofChange streamOfNothingWrong)

/-- 'meridianlaw18.StreamSame': WHATEVER THE INPUT: true; the input reads as it did. -/
def streamSameSpec : ChangeSpec := { name := "streamSame", fn := fun _ => fun
  | [d1, d2] => { results := [.lit (.bool true)], args := [d1, d2] }
  | _ => none }
def streamSameRow : OpenClaim := { program := "ytdffldlcbihjmaadoor", sum := "17f60be18818ed2602b0682c66dae881934ed9865f70df4ebff36fc299b1f593", func := "meridian/meridianlaw18.StreamSame", spec := "streamSame", named := ["meridian/octet.nibbles"], apart := false, laid := [("meridian/octet.nibbles", laid_meridian_octet_nibbles)] }
def StreamSameSaid : Prop := streamSameRow.holds Tryd.pinned (OpenSpec.ofChange streamSameSpec)

/-- ITS FALSE NEIGHBOUR: 'it returns false'. Refute it at one input. -/
def streamSameWrong : ChangeSpec := { name := "streamSame", fn := fun _ => fun
  | [d1, d2] => { results := [.lit (.bool false)], args := [d1, d2] }
  | _ => none }
def StreamSameWrongFalsely : Prop := streamSameRow.holds Tryd.pinned (OpenSpec.ofChange streamSameWrong)

/-- 'meridianlaw18.StreamOnce': WHATEVER THE INPUT: true; the input reads as it did. -/
def streamOnceSpec : ChangeSpec := { name := "streamOnce", fn := fun _ => fun
  | [d1, d2, d3] => { results := [.lit (.bool true)], args := [d1, d2, d3] }
  | _ => none }
def streamOnceRow : OpenClaim := { program := "ytdffldlcbihjmaadoor", sum := "17f60be18818ed2602b0682c66dae881934ed9865f70df4ebff36fc299b1f593", func := "meridian/meridianlaw18.StreamOnce", spec := "streamOnce", named := ["meridian/octet.nibbles"], apart := false, laid := [("meridian/octet.nibbles", laid_meridian_octet_nibbles)] }
def StreamOnceSaid : Prop := streamOnceRow.holds Tryd.pinned (OpenSpec.ofChange streamOnceSpec)

/-- ITS FALSE NEIGHBOUR: 'it returns false'. Refute it at one input. -/
def streamOnceWrong : ChangeSpec := { name := "streamOnce", fn := fun _ => fun
  | [d1, d2, d3] => { results := [.lit (.bool false)], args := [d1, d2, d3] }
  | _ => none }
def StreamOnceWrongFalsely : Prop := streamOnceRow.holds Tryd.pinned (OpenSpec.ofChange streamOnceWrong)

/-- 'meridianlaw18.StreamAgain': WHATEVER THE INPUT: true; the input reads as it did. -/
def streamAgainSpec : ChangeSpec := { name := "streamAgain", fn := fun _ => fun
  | [d1, d2] => { results := [.lit (.bool true)], args := [d1, d2] }
  | _ => none }
def streamAgainRow : OpenClaim := { program := "ytdffldlcbihjmaadoor", sum := "17f60be18818ed2602b0682c66dae881934ed9865f70df4ebff36fc299b1f593", func := "meridian/meridianlaw18.StreamAgain", spec := "streamAgain", named := ["meridian/octet.nibbles"], apart := false, laid := [("meridian/octet.nibbles", laid_meridian_octet_nibbles)] }
def StreamAgainSaid : Prop := streamAgainRow.holds Tryd.pinned (OpenSpec.ofChange streamAgainSpec)

/-- ITS FALSE NEIGHBOUR: 'it returns false'. Refute it at one input. -/
def streamAgainWrong : ChangeSpec := { name := "streamAgain", fn := fun _ => fun
  | [d1, d2] => { results := [.lit (.bool false)], args := [d1, d2] }
  | _ => none }
def StreamAgainWrongFalsely : Prop := streamAgainRow.holds Tryd.pinned (OpenSpec.ofChange streamAgainWrong)

/- THE SECOND FORM. 'bulk': how many values and letters a reading holds, each counted each time it is reached (what is shared counts as often as it is met; a slice's spare places count too). A statement '..UptoSaid' is the law's where the arguments, and the package variables that the reading takes, are together of bulk at most 1048576: NARROWER than '..Said'. Prove '..Said' where nothing that the law and all that it calls make is longer than what came in: it says more and counts as full. Else prove '..UptoSaid'. A law counts once. -/
mutual
def uptoBulk {H : Type} : DataW H → Nat
  | .lit (.string bytes) => bytes.length + 1
  | .lit _ => 1
  | .nil => 1
  | .ptr d => uptoBulk d + 1
  | .slice elems spare => uptoBulkAll elems + uptoBulkAll spare + 1
  | .agg parts => uptoBulkAll parts + 1
  | .iface _ d => uptoBulk d + 1
  | .map entries => uptoBulkEntries entries + 1
  | .held _ => 1
def uptoBulkAll {H : Type} : List (DataW H) → Nat
  | [] => 0
  | d :: r => uptoBulk d + uptoBulkAll r
def uptoBulkEntries {H : Type} : List (Lit × DataW H) → Nat
  | [] => 0
  | x :: r => uptoBulkEntry x + uptoBulkEntries r
def uptoBulkEntry {H : Type} : Lit × DataW H → Nat
  | (.string bytes, d) => bytes.length + uptoBulk d + 1
  | (_, d) => uptoBulk d + 1
 end
def uptoSmall : (H : Type) → List (DataW H) → Bool := fun _ ds => decide (uptoBulkAll ds ≤ 1048576)
def OpenSpec.upto (s : _root_.Go.ChangeSpec) : _root_.Go.OpenSpec := { _root_.Go.OpenSpec.ofChange s with cond := some uptoSmall }

/-- 'meridianlaw17.WireEncodes', WHERE WHAT IT READS IS OF BULK AT MOST 1048576: true; the input reads as it did. -/
def wireEncodesUptoRow : OpenClaim := { program := "ytdffldlcbihjmaadoor", sum := "17f60be18818ed2602b0682c66dae881934ed9865f70df4ebff36fc299b1f593", func := "meridian/meridianlaw17.WireEncodes", spec := "wireEncodes", named := ["meridian/octet.nibbles"], apart := false, laid := [("meridian/octet.nibbles", laid_meridian_octet_nibbles)], narrowed := true }
def WireEncodesUptoSaid : Prop := wireEncodesUptoRow.holds Tryd.pinned (OpenSpec.upto wireEncodesSpec)

/-- 'meridianlaw17.WireDecodes', WHERE WHAT IT READS IS OF BULK AT MOST 1048576: true; the input reads as it did. -/
def wireDecodesUptoRow : OpenClaim := { program := "ytdffldlcbihjmaadoor", sum := "17f60be18818ed2602b0682c66dae881934ed9865f70df4ebff36fc299b1f593", func := "meridian/meridianlaw17.WireDecodes", spec := "wireDecodes", named := ["meridian/octet.nibbles"], apart := false, laid := [("meridian/octet.nibbles", laid_meridian_octet_nibbles)], narrowed := true }
def WireDecodesUptoSaid : Prop := wireDecodesUptoRow.holds Tryd.pinned (OpenSpec.upto wireDecodesSpec)

/-- 'meridianlaw18.StreamSends', WHERE WHAT IT READS IS OF BULK AT MOST 1048576: true; the input reads as it did. -/
def streamSendsUptoRow : OpenClaim := { program := "ytdffldlcbihjmaadoor", sum := "17f60be18818ed2602b0682c66dae881934ed9865f70df4ebff36fc299b1f593", func := "meridian/meridianlaw18.StreamSends", spec := "streamSends", named := ["meridian/octet.nibbles"], apart := false, laid := [("meridian/octet.nibbles", laid_meridian_octet_nibbles)], narrowed := true }
def StreamSendsUptoSaid : Prop := streamSendsUptoRow.holds Tryd.pinned (OpenSpec.upto streamSendsSpec)

/-- 'meridianlaw18.StreamTakes', WHERE WHAT IT READS IS OF BULK AT MOST 1048576: true; the input reads as it did. -/
def streamTakesUptoRow : OpenClaim := { program := "ytdffldlcbihjmaadoor", sum := "17f60be18818ed2602b0682c66dae881934ed9865f70df4ebff36fc299b1f593", func := "meridian/meridianlaw18.StreamTakes", spec := "streamTakes", named := ["meridian/octet.nibbles"], apart := false, laid := [("meridian/octet.nibbles", laid_meridian_octet_nibbles)], narrowed := true }
def StreamTakesUptoSaid : Prop := streamTakesUptoRow.holds Tryd.pinned (OpenSpec.upto streamTakesSpec)

/-- 'meridianlaw18.StreamComes', WHERE WHAT IT READS IS OF BULK AT MOST 1048576: true; the input reads as it did. -/
def streamComesUptoRow : OpenClaim := { program := "ytdffldlcbihjmaadoor", sum := "17f60be18818ed2602b0682c66dae881934ed9865f70df4ebff36fc299b1f593", func := "meridian/meridianlaw18.StreamComes", spec := "streamComes", named := ["meridian/octet.nibbles"], apart := false, laid := [("meridian/octet.nibbles", laid_meridian_octet_nibbles)], narrowed := true }
def StreamComesUptoSaid : Prop := streamComesUptoRow.holds Tryd.pinned (OpenSpec.upto streamComesSpec)

/-- 'meridianlaw18.StreamOfNothing', WHERE WHAT IT READS IS OF BULK AT MOST 1048576: true; the input reads as it did. -/
def streamOfNothingUptoRow : OpenClaim := { program := "ytdffldlcbihjmaadoor", sum := "17f60be18818ed2602b0682c66dae881934ed9865f70df4ebff36fc299b1f593", func := "meridian/meridianlaw18.StreamOfNothing", spec := "streamOfNothing", named := ["meridian/octet.nibbles"], apart := false, laid := [("meridian/octet.nibbles", laid_meridian_octet_nibbles)], narrowed := true }
def StreamOfNothingUptoSaid : Prop := streamOfNothingUptoRow.holds Tryd.pinned (OpenSpec.upto streamOfNothingSpec)

/-- 'meridianlaw18.StreamSame', WHERE WHAT IT READS IS OF BULK AT MOST 1048576: true; the input reads as it did. -/
def streamSameUptoRow : OpenClaim := { program := "ytdffldlcbihjmaadoor", sum := "17f60be18818ed2602b0682c66dae881934ed9865f70df4ebff36fc299b1f593", func := "meridian/meridianlaw18.StreamSame", spec := "streamSame", named := ["meridian/octet.nibbles"], apart := false, laid := [("meridian/octet.nibbles", laid_meridian_octet_nibbles)], narrowed := true }
def StreamSameUptoSaid : Prop := streamSameUptoRow.holds Tryd.pinned (OpenSpec.upto streamSameSpec)

/-- 'meridianlaw18.StreamOnce', WHERE WHAT IT READS IS OF BULK AT MOST 1048576: true; the input reads as it did. -/
def streamOnceUptoRow : OpenClaim := { program := "ytdffldlcbihjmaadoor", sum := "17f60be18818ed2602b0682c66dae881934ed9865f70df4ebff36fc299b1f593", func := "meridian/meridianlaw18.StreamOnce", spec := "streamOnce", named := ["meridian/octet.nibbles"], apart := false, laid := [("meridian/octet.nibbles", laid_meridian_octet_nibbles)], narrowed := true }
def StreamOnceUptoSaid : Prop := streamOnceUptoRow.holds Tryd.pinned (OpenSpec.upto streamOnceSpec)

/-- 'meridianlaw18.StreamAgain', WHERE WHAT IT READS IS OF BULK AT MOST 1048576: true; the input reads as it did. -/
def streamAgainUptoRow : OpenClaim := { program := "ytdffldlcbihjmaadoor", sum := "17f60be18818ed2602b0682c66dae881934ed9865f70df4ebff36fc299b1f593", func := "meridian/meridianlaw18.StreamAgain", spec := "streamAgain", named := ["meridian/octet.nibbles"], apart := false, laid := [("meridian/octet.nibbles", laid_meridian_octet_nibbles)], narrowed := true }
def StreamAgainUptoSaid : Prop := streamAgainUptoRow.holds Tryd.pinned (OpenSpec.upto streamAgainSpec)

end Rows
end Go.Proofs.YtdffldlcbihjmaaDoor
