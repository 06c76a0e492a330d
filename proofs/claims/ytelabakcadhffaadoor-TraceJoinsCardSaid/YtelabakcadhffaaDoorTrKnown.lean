/- Stage 26: the value that each law of trace asks besides. -/
import Derived.Test.YtelabakcadhffaaDoorTrLine
import Derived.Lib.SmallJoins
set_option linter.unusedSimpArgs false
set_option linter.unusedVariables false
namespace Go.Proofs.YtelabakcadhffaaDoor
open Go.RowKit Go.Sort Go.Joins

theorem numS_small (n : Nat) (h : n < 10) : numS (n : Int) = ⟨#[UInt8.ofNat (48 + n)]⟩ := by
  unfold numS
  rw [if_neg (by omega), Lib.itoa_nonneg, Lib.decDigits_one h]
theorem line_known : lineL 4 1 0 0 0 0 true [118] [] = [52, 32, 49, 32, 102, 111, 117, 110, 100, 32, 34, 118, 34] := by
  have h4 := numS_small 4 (by omega)
  have h1 := numS_small 1 (by omega)
  unfold lineL frontL headL
  rw [show (4 : Int) = ((4 : Nat) : Int) from rfl, show (1 : Int) = ((1 : Nat) : Int) from rfl, h4, h1]
  rfl
theorem known26 (w : World) (ht : Tab w) : Calls Tryd.prog 7 #[] w fun e w' => e = .returned (.bool true) ∧ Below w.heap.size w w' := by
  have hb0 : Below w.heap.size w (w.alloc (.cells #[.int .u8 118] 5 (1, 2))) := (Below.refl _ _).alloc (Nat.le_refl _) _
  have hby : ByL (w.alloc (.cells #[.int .u8 118] 5 (1, 2))) (some ⟨w.heap.size, 0, none⟩) [118] := fun _ => ⟨_, _, rfl, by simp, fun j u hu => by
    obtain ⟨q, rfl⟩ := bC_some hu
    have hj : j = 0 := by simpa using q
    subst hj
    rw [Lib.cell_of_heap (heap_alloc_new w _)]
    rfl⟩
  have HL := Lib.hid (tr_line 4 1 0 0 0 0 0 ⟨#[]⟩ ⟨#[]⟩ none 0 0 0 0 0 0 true (some ⟨w.heap.size, 0, none⟩) [118] 1 none [] 0 _ (ht.below hb0) hby (by intro x hx; simp at hx; omega) (by simp) (fun h => absurd h (by simp)) (fun x hx => by cases hx) (by simp) (by omega) (by omega) (by omega) (by omega) (by omega) (by omega))
  rw [line_known] at HL
  have hcv := run_convert_bytes_const_at (P := Tryd.prog) w 22 5 #[.int .u8 118] 1 1 w.heap.size rfl Tryd.underlying22 Tryd.underlying5
  have HB := Lib.hid hb0
  clear hb0 hby ht
  go_enter Tryd.func7, Tryd.ntmps7
  go_wp2_with fail
  refine HL.out.mono ?_; rintro e w1 ⟨rfl, hb1⟩
  have HF := Lib.hid (HB.out.trans (hb1.mono HB.out.size))
  clear hb1
  go_wp2
  go_ret
  exact ⟨rfl, HF.out⟩
end Go.Proofs.YtelabakcadhffaaDoor
