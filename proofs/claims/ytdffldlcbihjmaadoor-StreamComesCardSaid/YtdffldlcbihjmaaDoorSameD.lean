/- Whether two records are one: what it means. -/
import Derived.Test.YtdffldlcbihjmaaDoorStrB
import Derived.Test.YtdffldlcbihjmaaDoorRec9
set_option linter.unusedSimpArgs false
set_option linter.unusedVariables false
namespace Go.Proofs.YtdffldlcbihjmaaDoor
open Go.RowKit

def sameVB (ml ct vo : Int) (p : List Int) (g : Bool) (tt : Int) (ml' ct' vo' : Int) (p' : List Int) (g' : Bool) (tt' : Int) : Bool := decide (ml = ml') && (decide (ct = ct') && (decide (vo = vo') && (decide (p = p') && (decide (g = g') && decide (tt = tt')))))
def sameRB (o s : Int) (key : ByteArray) (ml ct vo : Int) (p : List Int) (g : Bool) (tt : Int) (o' s' : Int) (key' : ByteArray) (ml' ct' vo' : Int) (p' : List Int) (g' : Bool) (tt' : Int) : Bool := decide (o = o') && (decide (s = s') && (decide (key = key') && sameVB ml ct vo p g tt ml' ct' vo' p' g' tt'))
end Go.Proofs.YtdffldlcbihjmaaDoor
