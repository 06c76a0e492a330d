/-
  No cell of these rows narrows 'for every input' (looked for: loops, veiled, ifaces, maps, wideKeys, modest, calm, conditions, laid).
  DERIVED. THE GIVEN ROWS OF THIS SEAT. 7 by the template 'for every input the law returns true; each argument reads behind the call as it read before'; 0 by the template 'total and deterministic' (their statements: YtepdnkpmkhjlgaaGreatTotals.lean).
  GIVEN WITH THE SEED: the statements are not yours to turn. If you find one false, say at which input.
  Laid BY PROGRAM, IN A SANDBOX (cutbox-rows.mjs): the forced cells as the released guide's own fill.sh prints them over the translation 98becebe4c6fd5a2… (all of the seat's roots in one cut). By AI agents, Wed Nov 11 2026. No macro, syntax, notation, axiom, sorry.
-/
import Derived.Test.YtepdnkpmkhjlgaaGreatChecked
import GoSem.Claim
import GoSem.ClaimJoined
import GoSem.ClaimMapViews
import Derived.JoinedTies
import Derived.KernelRfl
namespace Go.Proofs.YtepdnkpmkhjlgaaGreat
/- THE CELL 'sum', in the pinned program and in every row, IS THE sha256 OF THE DUMP (.gsa) THAT YtepdnkpmkhjlgaaGreatProg.lean LOADS. Nothing in Lean hashes anything: it is a label: what it is worth is what the hold of that sum in a sandbox is worth. -/
noncomputable def Tryz.pinned : Pinned := { name := "ytepdnkpmkhjlgaagreat", sum := "98becebe4c6fd5a24b581be230759b15bacb162c86bea65c4cf4a951ee95e3fa", checked := Tryz.checked }
namespace Rows
def none {H : Type} : Left H := { results := [], args := [] }

/-- 'meridianlaw9.NtpPlays': WHATEVER THE INPUT: true; the input reads as it did. -/
def ntpPlaysSpec : ChangeSpec := { name := "ntpPlays", fn := fun _ => fun
  | [d1, d2, d3, d4] => { results := [.lit (.bool true)], args := [d1, d2, d3, d4] }
  | _ => none }
def ntpPlaysRow : OpenClaim := { program := "ytepdnkpmkhjlgaagreat", sum := "98becebe4c6fd5a24b581be230759b15bacb162c86bea65c4cf4a951ee95e3fa", func := "meridian/meridianlaw9.NtpPlays", spec := "ntpPlays", recurses := true, apart := false }
def NtpPlaysSaid : Prop := ntpPlaysRow.holds Tryz.pinned (OpenSpec.ofChange ntpPlaysSpec)

/-- ITS FALSE NEIGHBOUR: 'it returns false'. Refute it at one input. -/
def ntpPlaysWrong : ChangeSpec := { name := "ntpPlays", fn := fun _ => fun
  | [d1, d2, d3, d4] => { results := [.lit (.bool false)], args := [d1, d2, d3, d4] }
  | _ => none }
def NtpPlaysWrongFalsely : Prop := ntpPlaysRow.holds Tryz.pinned (OpenSpec.ofChange ntpPlaysWrong)

/-- 'meridianlaw9.NtpOnce': WHATEVER THE INPUT: true; the input reads as it did. -/
def ntpOnceSpec : ChangeSpec := { name := "ntpOnce", fn := fun _ => fun
  | [d1, d2, d3] => { results := [.lit (.bool true)], args := [d1, d2, d3] }
  | _ => none }
def ntpOnceRow : OpenClaim := { program := "ytepdnkpmkhjlgaagreat", sum := "98becebe4c6fd5a24b581be230759b15bacb162c86bea65c4cf4a951ee95e3fa", func := "meridian/meridianlaw9.NtpOnce", spec := "ntpOnce", recurses := true, apart := false }
def NtpOnceSaid : Prop := ntpOnceRow.holds Tryz.pinned (OpenSpec.ofChange ntpOnceSpec)

/-- ITS FALSE NEIGHBOUR: 'it returns false'. Refute it at one input. -/
def ntpOnceWrong : ChangeSpec := { name := "ntpOnce", fn := fun _ => fun
  | [d1, d2, d3] => { results := [.lit (.bool false)], args := [d1, d2, d3] }
  | _ => none }
def NtpOnceWrongFalsely : Prop := ntpOnceRow.holds Tryz.pinned (OpenSpec.ofChange ntpOnceWrong)

/-- 'meridianlaw9.NtpTrue': WHATEVER THE INPUT: true; the input reads as it did. -/
def ntpTrueSpec : ChangeSpec := { name := "ntpTrue", fn := fun _ => fun
  | [d1, d2, d3, d4] => { results := [.lit (.bool true)], args := [d1, d2, d3, d4] }
  | _ => none }
def ntpTrueRow : OpenClaim := { program := "ytepdnkpmkhjlgaagreat", sum := "98becebe4c6fd5a24b581be230759b15bacb162c86bea65c4cf4a951ee95e3fa", func := "meridian/meridianlaw9.NtpTrue", spec := "ntpTrue", recurses := true, apart := false }
def NtpTrueSaid : Prop := ntpTrueRow.holds Tryz.pinned (OpenSpec.ofChange ntpTrueSpec)

/-- ITS FALSE NEIGHBOUR: 'it returns false'. Refute it at one input. -/
def ntpTrueWrong : ChangeSpec := { name := "ntpTrue", fn := fun _ => fun
  | [d1, d2, d3, d4] => { results := [.lit (.bool false)], args := [d1, d2, d3, d4] }
  | _ => none }
def NtpTrueWrongFalsely : Prop := ntpTrueRow.holds Tryz.pinned (OpenSpec.ofChange ntpTrueWrong)

/-- 'meridianlaw9.NtpRefuses': WHATEVER THE INPUT: true; the input reads as it did. -/
def ntpRefusesSpec : ChangeSpec := { name := "ntpRefuses", fn := fun _ => fun
  | [d1, d2] => { results := [.lit (.bool true)], args := [d1, d2] }
  | _ => none }
def ntpRefusesRow : OpenClaim := { program := "ytepdnkpmkhjlgaagreat", sum := "98becebe4c6fd5a24b581be230759b15bacb162c86bea65c4cf4a951ee95e3fa", func := "meridian/meridianlaw9.NtpRefuses", spec := "ntpRefuses", recurses := true, apart := false }
def NtpRefusesSaid : Prop := ntpRefusesRow.holds Tryz.pinned (OpenSpec.ofChange ntpRefusesSpec)

/-- ITS FALSE NEIGHBOUR: 'it returns false'. Refute it at one input. -/
def ntpRefusesWrong : ChangeSpec := { name := "ntpRefuses", fn := fun _ => fun
  | [d1, d2] => { results := [.lit (.bool false)], args := [d1, d2] }
  | _ => none }
def NtpRefusesWrongFalsely : Prop := ntpRefusesRow.holds Tryz.pinned (OpenSpec.ofChange ntpRefusesWrong)

/-- 'meridianlaw9.NtpHalf': WHATEVER THE INPUT: true; the input reads as it did. -/
def ntpHalfSpec : ChangeSpec := { name := "ntpHalf", fn := fun _ => fun
  | [d1, d2] => { results := [.lit (.bool true)], args := [d1, d2] }
  | _ => none }
def ntpHalfRow : OpenClaim := { program := "ytepdnkpmkhjlgaagreat", sum := "98becebe4c6fd5a24b581be230759b15bacb162c86bea65c4cf4a951ee95e3fa", func := "meridian/meridianlaw9.NtpHalf", spec := "ntpHalf", recurses := true, apart := false }
def NtpHalfSaid : Prop := ntpHalfRow.holds Tryz.pinned (OpenSpec.ofChange ntpHalfSpec)

/-- ITS FALSE NEIGHBOUR: 'it returns false'. Refute it at one input. -/
def ntpHalfWrong : ChangeSpec := { name := "ntpHalf", fn := fun _ => fun
  | [d1, d2] => { results := [.lit (.bool false)], args := [d1, d2] }
  | _ => none }
def NtpHalfWrongFalsely : Prop := ntpHalfRow.holds Tryz.pinned (OpenSpec.ofChange ntpHalfWrong)

/-- 'meridianlaw9.NtpOld': WHATEVER THE INPUT: true; the input reads as it did. -/
def ntpOldSpec : ChangeSpec := { name := "ntpOld", fn := fun _ => fun
  | [d1, d2] => { results := [.lit (.bool true)], args := [d1, d2] }
  | _ => none }
def ntpOldRow : OpenClaim := { program := "ytepdnkpmkhjlgaagreat", sum := "98becebe4c6fd5a24b581be230759b15bacb162c86bea65c4cf4a951ee95e3fa", func := "meridian/meridianlaw9.NtpOld", spec := "ntpOld", recurses := true, apart := false }
def NtpOldSaid : Prop := ntpOldRow.holds Tryz.pinned (OpenSpec.ofChange ntpOldSpec)

/-- ITS FALSE NEIGHBOUR: 'it returns false'. Refute it at one input. -/
def ntpOldWrong : ChangeSpec := { name := "ntpOld", fn := fun _ => fun
  | [d1, d2] => { results := [.lit (.bool false)], args := [d1, d2] }
  | _ => none }
def NtpOldWrongFalsely : Prop := ntpOldRow.holds Tryz.pinned (OpenSpec.ofChange ntpOldWrong)

/-- 'meridianlaw9.NtpSlow': WHATEVER THE INPUT: true; the input reads as it did. -/
def ntpSlowSpec : ChangeSpec := { name := "ntpSlow", fn := fun _ => fun
  | [d1, d2] => { results := [.lit (.bool true)], args := [d1, d2] }
  | _ => none }
def ntpSlowRow : OpenClaim := { program := "ytepdnkpmkhjlgaagreat", sum := "98becebe4c6fd5a24b581be230759b15bacb162c86bea65c4cf4a951ee95e3fa", func := "meridian/meridianlaw9.NtpSlow", spec := "ntpSlow", recurses := true, apart := false }
def NtpSlowSaid : Prop := ntpSlowRow.holds Tryz.pinned (OpenSpec.ofChange ntpSlowSpec)

/-- ITS FALSE NEIGHBOUR: 'it returns false'. Refute it at one input. -/
def ntpSlowWrong : ChangeSpec := { name := "ntpSlow", fn := fun _ => fun
  | [d1, d2] => { results := [.lit (.bool false)], args := [d1, d2] }
  | _ => none }
def NtpSlowWrongFalsely : Prop := ntpSlowRow.holds Tryz.pinned (OpenSpec.ofChange ntpSlowWrong)

/- THE SECOND FORM. 'bulk': how many values and letters a reading holds, each counted each time it is reached (what is shared counts as often as it is met; a slice's spare places count too). A statement '..UptoSaid' is the law's where the arguments, and the package variables that the reading takes, are together of bulk at most 1048576: NARROWER than '..Said'. Prove '..Said' where nothing that the law and all that it calls make is longer than what came in: it says more and counts as full. Else prove '..UptoSaid'. A law counts once. -/
mutual
def uptoBulk {H : Type} : DataW H → Nat
  | .lit (.string bytes) => bytes.length + 1
  | .lit _ => 1
  | .nil => 1
  | .ptr d => uptoBulk d + 1
  | .slice elems spare => uptoBulkAll elems + uptoBulkAll spare + 1
  | .agg parts => uptoBulkAll parts + 1
  | .iface _ d => uptoBulk d + 1
  | .map entries => uptoBulkEntries entries + 1
  | .held _ => 1
def uptoBulkAll {H : Type} : List (DataW H) → Nat
  | [] => 0
  | d :: r => uptoBulk d + uptoBulkAll r
def uptoBulkEntries {H : Type} : List (Lit × DataW H) → Nat
  | [] => 0
  | x :: r => uptoBulkEntry x + uptoBulkEntries r
def uptoBulkEntry {H : Type} : Lit × DataW H → Nat
  | (.string bytes, d) => bytes.length + uptoBulk d + 1
  | (_, d) => uptoBulk d + 1
 end
def uptoSmall : (H : Type) → List (DataW H) → Bool := fun _ ds => decide (uptoBulkAll ds ≤ 1048576)
def OpenSpec.upto (s : _root_.Go.ChangeSpec) : _root_.Go.OpenSpec := { _root_.Go.OpenSpec.ofChange s with cond := some uptoSmall }

/-- 'meridianlaw9.NtpPlays', WHERE WHAT IT READS IS OF BULK AT MOST 1048576: true; the input reads as it did. -/
def ntpPlaysUptoRow : OpenClaim := { program := "ytepdnkpmkhjlgaagreat", sum := "98becebe4c6fd5a24b581be230759b15bacb162c86bea65c4cf4a951ee95e3fa", func := "meridian/meridianlaw9.NtpPlays", spec := "ntpPlays", recurses := true, apart := false, narrowed := true }
def NtpPlaysUptoSaid : Prop := ntpPlaysUptoRow.holds Tryz.pinned (OpenSpec.upto ntpPlaysSpec)

/-- 'meridianlaw9.NtpOnce', WHERE WHAT IT READS IS OF BULK AT MOST 1048576: true; the input reads as it did. -/
def ntpOnceUptoRow : OpenClaim := { program := "ytepdnkpmkhjlgaagreat", sum := "98becebe4c6fd5a24b581be230759b15bacb162c86bea65c4cf4a951ee95e3fa", func := "meridian/meridianlaw9.NtpOnce", spec := "ntpOnce", recurses := true, apart := false, narrowed := true }
def NtpOnceUptoSaid : Prop := ntpOnceUptoRow.holds Tryz.pinned (OpenSpec.upto ntpOnceSpec)

/-- 'meridianlaw9.NtpTrue', WHERE WHAT IT READS IS OF BULK AT MOST 1048576: true; the input reads as it did. -/
def ntpTrueUptoRow : OpenClaim := { program := "ytepdnkpmkhjlgaagreat", sum := "98becebe4c6fd5a24b581be230759b15bacb162c86bea65c4cf4a951ee95e3fa", func := "meridian/meridianlaw9.NtpTrue", spec := "ntpTrue", recurses := true, apart := false, narrowed := true }
def NtpTrueUptoSaid : Prop := ntpTrueUptoRow.holds Tryz.pinned (OpenSpec.upto ntpTrueSpec)

/-- 'meridianlaw9.NtpRefuses', WHERE WHAT IT READS IS OF BULK AT MOST 1048576: true; the input reads as it did. -/
def ntpRefusesUptoRow : OpenClaim := { program := "ytepdnkpmkhjlgaagreat", sum := "98becebe4c6fd5a24b581be230759b15bacb162c86bea65c4cf4a951ee95e3fa", func := "meridian/meridianlaw9.NtpRefuses", spec := "ntpRefuses", recurses := true, apart := false, narrowed := true }
def NtpRefusesUptoSaid : Prop := ntpRefusesUptoRow.holds Tryz.pinned (OpenSpec.upto ntpRefusesSpec)

/-- 'meridianlaw9.NtpHalf', WHERE WHAT IT READS IS OF BULK AT MOST 1048576: true; the input reads as it did. -/
def ntpHalfUptoRow : OpenClaim := { program := "ytepdnkpmkhjlgaagreat", sum := "98becebe4c6fd5a24b581be230759b15bacb162c86bea65c4cf4a951ee95e3fa", func := "meridian/meridianlaw9.NtpHalf", spec := "ntpHalf", recurses := true, apart := false, narrowed := true }
def NtpHalfUptoSaid : Prop := ntpHalfUptoRow.holds Tryz.pinned (OpenSpec.upto ntpHalfSpec)

/-- 'meridianlaw9.NtpOld', WHERE WHAT IT READS IS OF BULK AT MOST 1048576: true; the input reads as it did. -/
def ntpOldUptoRow : OpenClaim := { program := "ytepdnkpmkhjlgaagreat", sum := "98becebe4c6fd5a24b581be230759b15bacb162c86bea65c4cf4a951ee95e3fa", func := "meridian/meridianlaw9.NtpOld", spec := "ntpOld", recurses := true, apart := false, narrowed := true }
def NtpOldUptoSaid : Prop := ntpOldUptoRow.holds Tryz.pinned (OpenSpec.upto ntpOldSpec)

/-- 'meridianlaw9.NtpSlow', WHERE WHAT IT READS IS OF BULK AT MOST 1048576: true; the input reads as it did. -/
def ntpSlowUptoRow : OpenClaim := { program := "ytepdnkpmkhjlgaagreat", sum := "98becebe4c6fd5a24b581be230759b15bacb162c86bea65c4cf4a951ee95e3fa", func := "meridian/meridianlaw9.NtpSlow", spec := "ntpSlow", recurses := true, apart := false, narrowed := true }
def NtpSlowUptoSaid : Prop := ntpSlowUptoRow.holds Tryz.pinned (OpenSpec.upto ntpSlowSpec)

end Rows
end Go.Proofs.YtepdnkpmkhjlgaaGreat
