/- Whether two records are one: what it means; bytes.Equal (written by gen/same.py). -/
import Derived.Test.YtpccneikblbhdaaStrB
import Derived.Test.YtpccneikblbhdaaRec9
import Derived.Test.YtpccneikblbhdaaEqL
set_option linter.unusedSimpArgs false
set_option linter.unusedVariables false
namespace Go.Proofs.Ytpccneikblbhdaa
open Go.RowKit

def sameVB (ml ct vo : Int) (p : List Int) (g : Bool) (tt : Int) (ml' ct' vo' : Int) (p' : List Int) (g' : Bool) (tt' : Int) : Bool := decide (ml = ml') && (decide (ct = ct') && (decide (vo = vo') && (decide (p = p') && (decide (g = g') && decide (tt = tt')))))
def sameRB (o s : Int) (key : ByteArray) (ml ct vo : Int) (p : List Int) (g : Bool) (tt : Int) (o' s' : Int) (key' : ByteArray) (ml' ct' vo' : Int) (p' : List Int) (g' : Bool) (tt' : Int) : Bool := decide (o = o') && (decide (s = s') && (decide (key = key') && sameVB ml ct vo p g tt ml' ct' vo' p' g' tt'))
theorem bytes_eq (A : Option Addr) (p : List Int) (c : Nat) (A' : Option Addr) (p' : List Int) (c' : Nat) (w : World) (h : ByL w A p) (h' : ByL w A' p') (hb : isBy p) (hb' : isBy p') :
    Calls Try.prog 47 #[.slice A p.length c, .slice A' p'.length c'] w fun e w' => e = .returned (.bool (decide (p = p'))) ∧ w = w' := by
  refine (Any.bytes_Equal_all Try.lays115 A A' p.length c p'.length c' p p' w rfl rfl (fun h0 => ?_) (fun h0 => ?_)).mono ?_
  · obtain ⟨B, O, rfl, _, hc⟩ := h h0
    refine ⟨B, O, rfl, fun i hi => ?_⟩
    have h1 := hb p[i] (List.getElem_mem hi)
    rw [hc i _ (bC_at p i hi)]
    simp [hi, List.getD_eq_getElem?_getD]
  · obtain ⟨B, O, rfl, _, hc⟩ := h' h0
    refine ⟨B, O, rfl, fun i hi => ?_⟩
    have h1 := hb' p'[i] (List.getElem_mem hi)
    rw [hc i _ (bC_at p' i hi)]
    simp [hi, List.getD_eq_getElem?_getD]
  · rintro e w' ⟨rfl, rfl⟩
    refine ⟨?_, rfl⟩
    have : (Lib.bytesOf p == Lib.bytesOf p') = decide (p = p') := by
      rw [Bool.eq_iff_iff, beq_iff_eq, decide_eq_true_eq, ← strB_inj hb hb']
      unfold strB
      simp
    rw [this]
end Go.Proofs.Ytpccneikblbhdaa
