/- Stage 25: ContainsFunc of one row of bytes with the closure of read (kL, strB, bytes_eq as in XStrB and XSame0). -/
import Derived.Test.YtdjhpajmbddffaaBut
import Derived.Test.YtdjhpajmbddffaaLaw
import Derived.Test.YtdjhpajmbddffaaOctMem
import Derived.Test.YtdjhpajmbddffaaEqL
import Derived.Lib.Bytes
set_option linter.unusedSimpArgs false
set_option linter.unusedVariables false
namespace Go.Proofs.Ytdjhpajmbddffaa
open Go.RowKit

def kL (key : ByteArray) : List Int := key.data.toList.map fun b => (b.toNat : Int)
theorem kL_len (key : ByteArray) : (kL key).length = key.size := by simp [kL]
theorem kL_by (key : ByteArray) : isBy (kL key) := by
  intro x hx
  simp [kL] at hx
  obtain ⟨b, _, rfl⟩ := hx
  have := b.toNat_lt
  omega
/-- Bytes as a text. -/
def strB (l : List Int) : ByteArray := ⟨(Lib.bytesOf l).toArray⟩
theorem kL_str {l : List Int} (h : isBy l) : kL (strB l) = l := by
  unfold kL strB Lib.bytesOf
  simp only [List.map_map]
  conv => rhs; rw [← List.map_id l]
  apply List.map_congr_left
  intro x hx
  have := h x hx
  simp
  omega
theorem strB_inj {a b : List Int} (ha : isBy a) (hb : isBy b) : strB a = strB b ↔ a = b := ⟨fun h => by rw [← kL_str ha, ← kL_str hb, h], fun h => by rw [h]⟩
theorem strB_size (l : List Int) : (strB l).size = l.length := by simp [strB, Lib.bytesOf, ByteArray.size]
theorem bytes_eq (A : Option Addr) (p : List Int) (c : Nat) (A' : Option Addr) (p' : List Int) (c' : Nat) (w : World) (h : ByL w A p) (h' : ByL w A' p') (hb : isBy p) (hb' : isBy p') :
    Calls Try.prog 39 #[.slice A p.length c, .slice A' p'.length c'] w fun e w' => e = .returned (.bool (decide (p = p'))) ∧ w = w' := by
  refine (Any.bytes_Equal_all Try.lays115 A A' p.length c p'.length c' p p' w rfl rfl (fun h0 => ?_) (fun h0 => ?_)).mono ?_
  · obtain ⟨B, O, rfl, _, hc⟩ := h h0
    refine ⟨B, O, rfl, fun i hi => ?_⟩
    have h1 := hb p[i] (List.getElem_mem hi)
    rw [hc i _ (bC_at p i hi)]
    simp [hi, List.getD_eq_getElem?_getD]
  · obtain ⟨B, O, rfl, _, hc⟩ := h' h0
    refine ⟨B, O, rfl, fun i hi => ?_⟩
    have h1 := hb' p'[i] (List.getElem_mem hi)
    rw [hc i _ (bC_at p' i hi)]
    simp [hi, List.getD_eq_getElem?_getD]
  · rintro e w' ⟨rfl, rfl⟩
    refine ⟨?_, rfl⟩
    have : (Lib.bytesOf p == Lib.bytesOf p') = decide (p = p') := by
      rw [Bool.eq_iff_iff, beq_iff_eq, decide_eq_true_eq, ← strB_inj hb hb']
      unfold strB
      simp
    rw [this]
theorem read_cl (A A' : Option Addr) (c c' : Nat) (p : List Int) (nb : Nat) (w : World) (h : w.cell? ⟨nb, 0, none⟩ = some (.slice A' p.length c')) (hA : ByL w A p) (hA' : ByL w A' p) (hp : isBy p) :
    Calls Try.prog 38 #[.slice A p.length c, .pointer (some ⟨nb, 0, none⟩)] w fun e w' => e = .returned (.bool true) ∧ w = w' := by
  have HE := Lib.hid (bytes_eq A p c A' p c' w hA hA' hp hp)
  clear hA hA' hp
  go_enter Try.func38, Try.ntmps38
  go_wp2_with (go_at_call 39; refine HE.out.mono ?_; rintro e1 w1 ⟨rfl, rfl⟩)
  go_ret
  exact ⟨by simp, rfl⟩
theorem index_one (g cap : Nat) (A A' : Option Addr) (c c' : Nat) (p : List Int) (nb : Nat) (w : World) (h0 : w.cell? ⟨g, 0, none⟩ = some (.slice A p.length c)) (h : w.cell? ⟨nb, 0, none⟩ = some (.slice A' p.length c')) (hA : ByL w A p) (hA' : ByL w A' p) (hp : isBy p) :
    Calls Try.prog 51 #[.slice (some ⟨g, 0, none⟩) 1 cap, .func (.func 38) #[] #[.pointer (some ⟨nb, 0, none⟩)]] w fun e w' => e = .returned (.int .i64 0) ∧ w = w' := by
  have HX := Lib.hid (read_cl A A' c c' p nb w h hA hA' hp)
  clear h hA hA' hp
  go_enter Try.func51, Try.ntmps51
  go_wp2
  refine wp_loop_rounds 2 ?_
  rw [rounds_succ]
  go_wp2_with fail
  refine HX.out.mono ?_; rintro e w1 ⟨rfl, rfl⟩
  go_wp2
  go_ret
  exact ⟨rfl, rfl⟩
theorem contains_one (g cap : Nat) (A A' : Option Addr) (c c' : Nat) (p : List Int) (nb : Nat) (w : World) (h0 : w.cell? ⟨g, 0, none⟩ = some (.slice A p.length c)) (h : w.cell? ⟨nb, 0, none⟩ = some (.slice A' p.length c')) (hA : ByL w A p) (hA' : ByL w A' p) (hp : isBy p) :
    Calls Try.prog 37 #[.slice (some ⟨g, 0, none⟩) 1 cap, .func (.func 38) #[] #[.pointer (some ⟨nb, 0, none⟩)]] w fun e w' => e = .returned (.bool true) ∧ w = w' := by
  have HX := Lib.hid (index_one g cap A A' c c' p nb w h0 h hA hA' hp)
  clear h0 h hA hA' hp
  go_enter Try.func37, Try.ntmps37
  go_wp2_with (go_at_call 51; refine HX.out.mono ?_; rintro e w1 ⟨rfl, rfl⟩)
  go_ret
  exact ⟨by simp, rfl⟩
end Go.Proofs.Ytdjhpajmbddffaa
