/- packet.lay. -/
import Derived.Test.YtfllemmmgmdliaaU8
set_option linter.unusedSimpArgs false
set_option linter.unusedVariables false
namespace Go.Proofs.Ytfllemmmgmdliaa
open Go.RowKit

set_option maxHeartbeats 1000000 in
theorem pk_lay (g n o k c : Nat) (f : Nat → Int) (x : Int) (w : World) (h : U8At w g n f) (hk : o + k ≤ n) (hk8 : k ≤ 8) (x0 : 0 ≤ x) (x1 : x < 18446744073709551616) :
    Calls Try.prog 16 #[.slice (some ⟨g, o, none⟩) k c, .int .u64 x] w fun e w' => e = .returned (.tuple #[]) ∧ Only g w w' ∧ U8At w' g n (layF f o k x) := by
  have hk' : (k : Int) ≤ 8 := by omega
  have H0 := Lib.hid (show U8At w g n (layI f o k 0 x) from h.congr (fun j _ => by unfold layI; rw [if_neg (by omega)]))
  clear h
  go_enter Try.func16, Try.ntmps16
  go_wp2
  go_loopw [1, 7] (fun t i wr => ∃ q : Nat, q ≤ k ∧ i = .int .i64 q ∧ t = .int .u64 (x / 256 ^ q) ∧ Only g w wr ∧ U8At wr g n (layI f o k q x)) (fun _ i _ => k - (intOf i).toNat)
  case atStart => exact ⟨0, Nat.zero_le _, rfl, by simp, Only.refl _ _, H0.out⟩
  case round =>
    obtain ⟨q, hq, rfl, rfl, hO, hU⟩ := hrel
    clear H0
    by_cases hlt : q < k
    · have lk : (q : Int) < (k : Int) := by omega
      have hp := pow256_succ x q
      have hy0 : 0 ≤ x / 256 ^ q := Int.ediv_nonneg x0 (Int.pow_nonneg (by omega))
      have hy1 : x / 256 ^ q < 18446744073709551616 := by
        have := Int.ediv_le_self (256 ^ q) x0
        omega
      have HP := Lib.hid hp
      have HS := Lib.hid (hU.set (i := o + (k - 1 - q)) (by omega) (x / 256 ^ q % 256))
      have HC := Lib.hid (layI_succ f o k q x hlt)
      have cc := hU.c (o + (k - 1 - q)) (by omega)
      have ff := hU.fz (o + (k - 1 - q))
      have e1 : ((k : Int) - 1 - (q : Int)) = ((k - 1 - q : Nat) : Int) := by omega
      have l1 : ((k - 1 - q : Nat) : Int) < (k : Int) := by omega
      clear hp hU
      generalize x / 256 ^ q = y at *
      generalize k - 1 - q = d at *
      go_wp2
      go_roundw
      case rel => exact ⟨q + 1, by omega, by go_num, by rw [HP.out], by (repeat' (first | (with_reducible exact Only.refl _ _) | (with_reducible assumption) | (with_reducible refine Only.alloc ?_ _) | (with_reducible refine Only.setB ?_ _) | (refine Only.setCell ?_ (Or.inr ?_) _) | (with_reducible refine Only.drewN ?_ _) | (with_reducible refine Only.drew ?_) | (with_reducible refine Only.trans ?_ (by with_reducible assumption)) | (with_reducible refine Only.trans ?_ (Only.of_below (by with_reducible assumption))) | go_size)), HS.out.congr (fun j _ => HC.out j)⟩
      case measure => simp [intOf]; omega
    · obtain rfl : q = k := by omega
      go_wp2
      exact bodyPost_end (by simp [results, Try.results16, go_sem]) rfl ⟨rfl, hO, hU.congr (fun j _ => by unfold layI layF; rw [show o + q - q = o from by omega])⟩
end Go.Proofs.Ytfllemmmgmdliaa
