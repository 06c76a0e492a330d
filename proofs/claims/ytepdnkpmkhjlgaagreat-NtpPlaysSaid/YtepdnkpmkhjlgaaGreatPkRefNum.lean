/- The reference's number. -/
import Derived.Test.YtepdnkpmkhjlgaaGreatM9H
set_option linter.unusedSimpArgs false
set_option linter.unusedVariables false
namespace Go.Proofs.YtepdnkpmkhjlgaaGreat
open Go.RowKit

set_option maxHeartbeats 1000000 in
theorem ref6_number (B O k c : Nat) (f : Nat → Int) (w : World) (h : ∀ j, j < k → w.cell? ⟨B, O + j, none⟩ = some (.int .u8 (f j))) (hb : ∀ j, j < k → 0 ≤ f j ∧ f j ≤ 255) (hk : k ≤ 8) :
    Calls Tryz.prog 60 #[.slice (some ⟨B, O, none⟩) k c] w fun e w' => e = .returned (.int .u64 (numK f k)) ∧ w = w' := by
  have hk' : (k : Int) ≤ 8 := by omega
  have HC := Lib.hid h
  have HB := Lib.hid hb
  clear h hb
  go_enter Tryz.func60, Tryz.ntmps60
  go_wp2
  go_loop [3, 4] (fun u i => ∃ q : Nat, q ≤ k ∧ i = .int .i64 q ∧ u = .int .u64 (numK f q)) (fun _ i => k - (intOf i).toNat)
  case atStart => exact ⟨0, Nat.zero_le _, rfl, rfl⟩
  case round =>
    obtain ⟨q, hq, rfl, rfl⟩ := hrel
    by_cases hlt : q < k
    · have x0 := HC.out q hlt
      have hb := HB.out q hlt
      have hbd := numK_bd f q (fun j hj => HB.out j (by omega))
      have hpow : (256 : Int) ^ q ≤ 72057594037927936 := by
        rcases (show q = 0 ∨ q = 1 ∨ q = 2 ∨ q = 3 ∨ q = 4 ∨ q = 5 ∨ q = 6 ∨ q = 7 from by omega) with rfl | rfl | rfl | rfl | rfl | rfl | rfl | rfl <;> decide
      have lk : (q : Int) < (k : Int) := by omega
      have m0 := hbd.1
      have m1 : numK f q ≤ 72057594037927935 := by omega
      have HS : Hid (numK f (q + 1) = numK f q * 256 + f q) := Lib.hid rfl
      have c0 := hb.1
      have c1 := hb.2
      clear hbd hpow hb
      generalize numK f q = m at *
      generalize f q = c' at *
      have hor := bits_or8 m c' m0 m1 c0 c1
      have hm : m * 256 < 18446744073709551616 := by omega
      go_wp2
      go_round
      case rel => exact ⟨q + 1, by omega, by go_num, by rw [HS.out]⟩
      case measure => simp [intOf]; omega
    · obtain rfl : q = k := by omega
      go_wp2
      go_ret
      exact ⟨rfl, rfl⟩
end Go.Proofs.YtepdnkpmkhjlgaaGreat
