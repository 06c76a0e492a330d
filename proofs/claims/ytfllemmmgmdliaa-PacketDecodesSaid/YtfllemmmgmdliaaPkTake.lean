/- packet.take; bytes.Equal. -/
import Derived.Test.YtfllemmmgmdliaaS6A
import Derived.Test.YtfllemmmgmdliaaPkArg
import Derived.Test.YtfllemmmgmdliaaEqL
set_option linter.unusedSimpArgs false
set_option linter.unusedVariables false
namespace Go.Proofs.Ytfllemmmgmdliaa
open Go.RowKit

/-- Bytes as a number, the highest first. -/
def numK (f : Nat → Int) : Nat → Int
  | 0 => 0
  | k + 1 => numK f k * 256 + f k
theorem numK_bd (f : Nat → Int) (k : Nat) (h : ∀ j, j < k → 0 ≤ f j ∧ f j ≤ 255) : 0 ≤ numK f k ∧ numK f k < 256 ^ k := by
  induction k with
  | zero => simp [numK]
  | succ k ih =>
    have h1 := ih (fun j hj => h j (by omega))
    have h2 := h k (by omega)
    have e : (256 : Int) ^ (k + 1) = 256 ^ k * 256 := Int.pow_succ 256 k
    unfold numK
    omega
theorem bits_or8 (m c : Int) (m0 : 0 ≤ m) (m1 : m ≤ 72057594037927935) (c0 : 0 ≤ c) (c1 : c ≤ 255) : bits .or .u64 (m * 256) c = m * 256 + c := by
  obtain ⟨m, rfl⟩ := Int.eq_ofNat_of_zero_le m0
  obtain ⟨c, rfl⟩ := Int.eq_ofNat_of_zero_le c0
  show IntKind.u64.wrap ((BitVec.ofInt 64 ((m : Int) * 256) ||| BitVec.ofInt 64 (c : Int)).toNat : Int) = _
  have e1 : (BitVec.ofInt 64 ((m : Int) * 256)).toNat = m * 256 := by
    rw [show ((m : Int) * 256) = ((m * 256 : Nat) : Int) from by omega, BitVec.ofInt_natCast, BitVec.toNat_ofNat]; exact Nat.mod_eq_of_lt (by omega)
  have e2 : (BitVec.ofInt 64 (c : Int)).toNat = c := by rw [BitVec.ofInt_natCast, BitVec.toNat_ofNat]; exact Nat.mod_eq_of_lt (by omega)
  have e3 : m * 256 ||| c = m * 256 + c := by
    have := Nat.two_pow_add_eq_or_of_lt (i := 8) (b := c) (by omega) m
    rw [show m * 256 = 2 ^ 8 * m from by omega]
    exact this.symm
  rw [BitVec.toNat_or, e1, e2, e3, IntWalk.u64_in _ (by omega)]
  omega
set_option maxHeartbeats 1000000 in
theorem pk_take (B O k c : Nat) (f : Nat → Int) (w : World) (h : ∀ j, j < k → w.cell? ⟨B, O + j, none⟩ = some (.int .u8 (f j))) (hb : ∀ j, j < k → 0 ≤ f j ∧ f j ≤ 255) (hk : k ≤ 8) :
    Calls Try.prog 19 #[.slice (some ⟨B, O, none⟩) k c] w fun e w' => e = .returned (.int .u64 (numK f k)) ∧ w = w' := by
  have hk' : (k : Int) ≤ 8 := by omega
  have HC := Lib.hid h
  have HB := Lib.hid hb
  clear h hb
  go_enter Try.func19, Try.ntmps19
  go_wp2
  go_loop [3, 8] (fun u i => ∃ q : Nat, q ≤ k ∧ i = .int .i64 q ∧ u = .int .u64 (numK f q)) (fun _ i => k - (intOf i).toNat)
  case atStart => exact ⟨0, Nat.zero_le _, rfl, rfl⟩
  case round =>
    obtain ⟨q, hq, rfl, rfl⟩ := hrel
    by_cases hlt : q < k
    · have x0 := HC.out q hlt
      have hb := HB.out q hlt
      have hbd := numK_bd f q (fun j hj => HB.out j (by omega))
      have hpow : (256 : Int) ^ q ≤ 72057594037927936 := by
        have : q ≤ 7 := by omega
        rcases (show q = 0 ∨ q = 1 ∨ q = 2 ∨ q = 3 ∨ q = 4 ∨ q = 5 ∨ q = 6 ∨ q = 7 from by omega) with rfl | rfl | rfl | rfl | rfl | rfl | rfl | rfl <;> decide
      have lk : (q : Int) < (k : Int) := by omega
      have m0 := hbd.1
      have m1 : numK f q ≤ 72057594037927935 := by omega
      have HS : Hid (numK f (q + 1) = numK f q * 256 + f q) := Lib.hid rfl
      have c0 := hb.1
      have c1 := hb.2
      clear hbd hpow hb
      generalize numK f q = m at *
      generalize f q = c' at *
      have hor := bits_or8 m c' m0 m1 c0 c1
      have hm : m * 256 < 18446744073709551616 := by omega
      go_wp2
      go_round
      case rel => exact ⟨q + 1, by omega, by go_num, by rw [HS.out]⟩
      case measure => simp [intOf]; omega
    · obtain rfl : q = k := by omega
      go_wp2
      go_ret
      exact ⟨rfl, rfl⟩
theorem eq_bytes (n : Nat) (f : Nat → Int) (n' : Nat) (f' : Nat → Int) (hf : ∀ j, j < n → 0 ≤ f j ∧ f j ≤ 255) (hf' : ∀ j, j < n' → 0 ≤ f' j ∧ f' j ≤ 255) :
    (Lib.bytesOf ((List.range n).map f) == Lib.bytesOf ((List.range n').map f')) = eqB n f n' f' := by
  rw [Bool.eq_iff_iff]
  simp only [beq_iff_eq, eqB, Bool.and_eq_true, decide_eq_true_eq, eqK_iff]
  constructor
  · intro h
    have hn : n = n' := by
      have := congrArg List.length h
      simpa [Lib.bytesOf] using this
    subst hn
    refine ⟨rfl, fun j hj => ?_⟩
    have h1 := congrArg (fun l : List UInt8 => l[j]?) h
    simp [Lib.bytesOf, hj] at h1
    have a := hf j hj
    have b := hf' j hj
    have h2 := congrArg UInt8.toNat h1
    rw [UInt8.toNat_ofNat', UInt8.toNat_ofNat', Nat.mod_eq_of_lt (by omega), Nat.mod_eq_of_lt (by omega)] at h2
    omega
  · rintro ⟨rfl, h⟩
    unfold Lib.bytesOf
    congr 1
    apply List.map_congr_left
    intro j hj
    exact h j (by simpa using hj)
theorem equal6 (A : Option Addr) (n c : Nat) (f : Nat → Int) (A' : Option Addr) (n' c' : Nat) (f' : Nat → Int) (w : World) (h : BytesAt w A n f) (h' : BytesAt w A' n' f') (hf : ∀ j, j < n → 0 ≤ f j ∧ f j ≤ 255) (hf' : ∀ j, j < n' → 0 ≤ f' j ∧ f' j ≤ 255) :
    Calls Try.prog 20 #[.slice A n c, .slice A' n' c'] w fun e w' => e = .returned (.bool (eqB n f n' f')) ∧ w = w' := by
  refine (Any.bytes_Equal_all Try.lays115 A A' n c n' c' ((List.range n).map f) ((List.range n').map f') w (by simp) (by simp) (fun h0 => ?_) (fun h0 => ?_)).mono ?_
  · obtain ⟨B, O, rfl, _, hc⟩ := h h0
    exact ⟨B, O, rfl, fun i hi => by rw [hc i hi]; simp [hi, List.getD_eq_getElem?_getD]⟩
  · obtain ⟨B, O, rfl, _, hc⟩ := h' h0
    exact ⟨B, O, rfl, fun i hi => by rw [hc i hi]; simp [hi, List.getD_eq_getElem?_getD]⟩
  · rintro e w' ⟨rfl, rfl⟩
    exact ⟨by rw [eq_bytes n f n' f' hf hf'], rfl⟩
end Go.Proofs.Ytfllemmmgmdliaa
