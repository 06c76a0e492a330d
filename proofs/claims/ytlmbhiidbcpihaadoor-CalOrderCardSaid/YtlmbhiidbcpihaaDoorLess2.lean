/- Dates as text lie in the order of their counts: plain mathematics. -/
import Derived.Test.YtlmbhiidbcpihaaDoorPrm
import Derived.Test.YtlmbhiidbcpihaaDoorCalPlain
set_option linter.unusedSimpArgs false
set_option linter.unusedVariables false
namespace Go.Proofs.YtlmbhiidbcpihaaDoor
open Go.RowKit

theorem digLess (a b : Nat) (x y : List UInt8) : Op.bytesLess (UInt8.ofNat (48 + a % 10) :: x) (UInt8.ofNat (48 + b % 10) :: y) = (decide (a % 10 < b % 10) || (decide (a % 10 = b % 10) && Op.bytesLess x y)) := by
  rw [Op.bytesLess]
  have e1 : (UInt8.ofNat (48 + a % 10) < UInt8.ofNat (48 + b % 10)) ↔ a % 10 < b % 10 := by
    rw [UInt8.lt_iff_toNat_lt, dig_nat, dig_nat]; omega
  have e2 : (UInt8.ofNat (48 + a % 10) == UInt8.ofNat (48 + b % 10)) = decide (a % 10 = b % 10) := by
    rw [Bool.eq_iff_iff, beq_iff_eq, decide_eq_true_eq, ← UInt8.toNat_inj, dig_nat, dig_nat]; omega
  rw [e2]
  simp only [e1]
theorem lowd_less (i a b : Nat) (x y : List UInt8) : Op.bytesLess (lowd i a ++ x) (lowd i b ++ y) = (decide (a % 10 ^ i < b % 10 ^ i) || (decide (a % 10 ^ i = b % 10 ^ i) && Op.bytesLess x y)) := by
  induction i with
  | zero => simp [lowd, Nat.mod_one]
  | succ i ih =>
    show Op.bytesLess (UInt8.ofNat (48 + a / 10 ^ i % 10) :: (lowd i a ++ x)) (UInt8.ofNat (48 + b / 10 ^ i % 10) :: (lowd i b ++ y)) = _
    rw [digLess, ih]
    have h1 : a % 10 ^ (i + 1) = a / 10 ^ i % 10 * 10 ^ i + a % 10 ^ i := by rw [Nat.pow_succ, Nat.mod_mul, Nat.mul_comm, Nat.add_comm]
    have h2 : b % 10 ^ (i + 1) = b / 10 ^ i % 10 * 10 ^ i + b % 10 ^ i := by rw [Nat.pow_succ, Nat.mod_mul, Nat.mul_comm, Nat.add_comm]
    have hp : 0 < 10 ^ i := Nat.pow_pos (by omega)
    have l1 := Nat.mod_lt a hp
    have l2 := Nat.mod_lt b hp
    rw [h1, h2]
    generalize a / 10 ^ i % 10 = p
    generalize b / 10 ^ i % 10 = q
    generalize a % 10 ^ i = r at *
    generalize b % 10 ^ i = t at *
    generalize 10 ^ i = N at *
    rcases Nat.lt_trichotomy p q with h | h | h
    · have : (p + 1) * N ≤ q * N := Nat.mul_le_mul_right _ h
      rw [Nat.add_mul, Nat.one_mul] at this
      have e : p * N + r < q * N + t := by omega
      simp [h, e]
    · subst h
      have e1 : (p * N + r < p * N + t) ↔ r < t := by omega
      have e2 : (p * N + r = p * N + t) ↔ r = t := by omega
      simp [e1, e2]
    · have : (q + 1) * N ≤ p * N := Nat.mul_le_mul_right _ h
      rw [Nat.add_mul, Nat.one_mul] at this
      have e1 : ¬ p * N + r < q * N + t := by omega
      have e2 : ¬ p * N + r = q * N + t := by omega
      have e3 : ¬ p < q := by omega
      have e4 : ¬ p = q := by omega
      simp [e1, e2, e3, e4]
theorem date_less (y m d y' m' d' : Nat) (hy : y < 10000) (hy' : y' < 10000) (hm : m < 100) (hm' : m' < 100) (hd : d < 100) (hd' : d' < 100) :
    Op.bytesLess (dateS y m d).toList (dateS y' m' d').toList = (decide (y < y') || (decide (y = y') && (decide (m < m') || (decide (m = m') && decide (d < d'))))) := by
  rw [Lib.toList_data, Lib.toList_data]
  show Op.bytesLess (lowd 4 y ++ [45] ++ lowd 2 m ++ [45] ++ lowd 2 d) (lowd 4 y' ++ [45] ++ lowd 2 m' ++ [45] ++ lowd 2 d') = _
  have dash : ∀ u v : List UInt8, Op.bytesLess (45 :: u) (45 :: v) = Op.bytesLess u v := fun u v => by
    rw [Op.bytesLess]; simp
  have e := lowd_less 2 d d' [] []
  rw [List.append_nil, List.append_nil] at e
  simp only [List.append_assoc, List.cons_append, List.nil_append]
  rw [lowd_less, dash, lowd_less, dash, e, Nat.mod_eq_of_lt (show y < 10 ^ 4 by omega), Nat.mod_eq_of_lt (show y' < 10 ^ 4 by omega), Nat.mod_eq_of_lt (show m < 10 ^ 2 by omega), Nat.mod_eq_of_lt (show m' < 10 ^ 2 by omega), Nat.mod_eq_of_lt (show d < 10 ^ 2 by omega), Nat.mod_eq_of_lt (show d' < 10 ^ 2 by omega)]
  simp [Op.bytesLess]
theorem num_lt_y {y m d y' m' d' : Int} (h : Cal.Vld y m d) (h' : Cal.Vld y' m' d') (e : y < y') : Cal.num y m d < Cal.num y' m' d' := by
  obtain ⟨a1, a2, a3, a4, a5, a6⟩ := h
  obtain ⟨b1, b2, b3, b4, b5, b6⟩ := h'
  unfold Cal.num
  have c1 := Cal.cum_succ y m a3 a4
  have d1 := Cal.cum_mono y (m + 1) 13 (by omega) (by omega) (by omega)
  have k2 := (Cal.cum_bd y' m' (by omega) (by omega)).1
  rw [Cal.cum_13] at d1
  have s1 := Cal.yr_succ y
  have := Cal.yr_mono (y + 1) y' (by omega)
  omega
theorem num_lt_m {y m d m' d' : Int} (h : Cal.Vld y m d) (h' : Cal.Vld y m' d') (e : m < m') : Cal.num y m d < Cal.num y m' d' := by
  obtain ⟨a1, a2, a3, a4, a5, a6⟩ := h
  obtain ⟨b1, b2, b3, b4, b5, b6⟩ := h'
  unfold Cal.num
  have c1 := Cal.cum_succ y m a3 a4
  have := Cal.cum_mono y (m + 1) m' (by omega) (by omega) (by omega)
  omega
theorem num_lt_d {y m d d' : Int} (e : d < d') : Cal.num y m d < Cal.num y m d' := by
  unfold Cal.num; omega
end Go.Proofs.YtlmbhiidbcpihaaDoor
