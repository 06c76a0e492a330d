/- whether two records are one, by the reference alone (a part of XSame: for a seat that has no rec.Same). -/
import Derived.Test.YtpflbhcgkndpcaaGreatDoorStrB
import Derived.Test.YtpflbhcgkndpcaaGreatDoorRec9
/- Whether two records are one: what it means. -/
set_option linter.unusedSimpArgs false
set_option linter.unusedVariables false
namespace Go.Proofs.YtpflbhcgkndpcaaGreatDoor
open Go.RowKit

def sameVB (ml ct vo : Int) (p : List Int) (g : Bool) (tt : Int) (ml' ct' vo' : Int) (p' : List Int) (g' : Bool) (tt' : Int) : Bool := decide (ml = ml') && (decide (ct = ct') && (decide (vo = vo') && (decide (p = p') && (decide (g = g') && decide (tt = tt')))))
def sameRB (o s : Int) (key : ByteArray) (ml ct vo : Int) (p : List Int) (g : Bool) (tt : Int) (o' s' : Int) (key' : ByteArray) (ml' ct' vo' : Int) (p' : List Int) (g' : Bool) (tt' : Int) : Bool := decide (o = o') && (decide (s = s') && (decide (key = key') && sameVB ml ct vo p g tt ml' ct' vo' p' g' tt'))
end Go.Proofs.YtpflbhcgkndpcaaGreatDoor

/- the reference's SameV (written by gen/same.py). -/
namespace Go.Proofs.YtpflbhcgkndpcaaGreatDoor
open Go.RowKit

end Go.Proofs.YtpflbhcgkndpcaaGreatDoor

/- whether two records are one, by the reference alone (a part of XSame: for a seat that has no rec.Same). -/
namespace Go.Proofs.YtpflbhcgkndpcaaGreatDoor
open Go.RowKit

end Go.Proofs.YtpflbhcgkndpcaaGreatDoor

