/- Dates as text: the reference's digits. -/
import Derived.Test.YtonleiffbfdikaaDoorCalC
import Derived.Test.YtonleiffbfdikaaDoorRef2B
import Derived.Lib.Hide
set_option linter.unusedSimpArgs false
set_option linter.unusedVariables false
namespace Go.Proofs.YtonleiffbfdikaaDoor
open Go.RowKit

/-- The last i decimal digits of n. -/
def lowd : Nat → Nat → List UInt8
  | 0, _ => []
  | i + 1, n => UInt8.ofNat (48 + n / 10 ^ i % 10) :: lowd i n
theorem lowd_len (i n : Nat) : (lowd i n).length = i := by
  induction i with
  | zero => rfl
  | succ i ih => simp [lowd, ih]
def strOf (l : List UInt8) : ByteArray := ⟨l.toArray⟩
theorem strOf_cons (c : UInt8) (l : List UInt8) : (⟨#[c]⟩ : ByteArray) ++ strOf l = strOf (c :: l) := by
  apply ByteArray.ext
  simp [strOf]
set_option maxHeartbeats 1000000 in
theorem ref2_digits (n many : Nat) (w : World) (hn : n ≤ 100000) (hm : many ≤ 10) :
    Calls Tryd.prog 60 #[.int .i64 n, .int .i64 many] w fun e w' => e = .returned (.string (strOf (lowd many n))) ∧ Below w.heap.size w w' := by
  have HB0 := Below.refl w.heap.size w
  have h0 : Hid (strOf (lowd 0 n) = ⟨#[]⟩) := rfl
  go_enter Tryd.func60, Tryd.ntmps60
  go_wp2
  go_loopw [0, 5, 6] (fun x s i wr => ∃ k : Nat, k ≤ many ∧ i = .int .i64 k ∧ x = .int .i64 ((n / 10 ^ k : Nat) : Int) ∧ s = .string (strOf (lowd k n)) ∧ Below w.heap.size w wr) (fun _ _ i _ => many - (intOf i).toNat)
  case atStart => exact ⟨0, Nat.zero_le _, rfl, by simp, by rw [h0.out], HB0⟩
  case round =>
    obtain ⟨k, hk, rfl, rfl, rfl, HB⟩ := hrel
    clear HB0
    by_cases hlt : k < many
    · have hq : n / 10 ^ k ≤ 100000 := Nat.le_trans (Nat.div_le_self _ _) hn
      have hq' : ((n / 10 ^ k : Nat) : Int) ≤ 100000 := by omega
      have hq0 : (0 : Int) ≤ ((n / 10 ^ k : Nat) : Int) := Int.natCast_nonneg _
      have hS : (strOf (lowd k n)).size ≤ 10 := by
        have : (strOf (lowd k n)).size = (lowd k n).length := by simp [strOf, ByteArray.size]
        rw [this, lowd_len]; omega
      have HC : Hid (strOf (lowd (k + 1) n) = ⟨#[UInt8.ofNat (48 + n / 10 ^ k % 10)]⟩ ++ strOf (lowd k n)) := (strOf_cons (UInt8.ofNat (48 + n / 10 ^ k % 10)) (lowd k n)).symm
      have HD : Hid (n / 10 ^ (k + 1) = n / 10 ^ k / 10) := by show _ = _; rw [Nat.pow_succ, Nat.div_div_eq_div_mul]
      generalize hSS : strOf (lowd k n) = S at *
      have HSS := Lib.hid hSS
      clear hSS
      generalize hQ : n / 10 ^ k = q at *
      have hcv : (convert 53 9 (.slice (some ⟨wr.heap.size, 0, none⟩) 1 1)).run Tryd.prog (wr.alloc (.cells #[.int .u8 (48 + (q : Int) % 10)] 5)) = .ok (.string ⟨#[UInt8.ofNat (48 + q % 10)]⟩) (wr.alloc (.cells #[.int .u8 (48 + (q : Int) % 10)] 5)) := by
        refine run_convert_bytes_back _ _ _ 5 ⟨wr.heap.size, 0, none⟩ 1 [UInt8.ofNat (48 + q % 10)] Tryd.underlying53 Tryd.underlying5 Tryd.underlying9 ?_
        intro j hj
        simp only [List.length_cons, List.length_nil] at hj
        obtain rfl : j = 0 := by omega
        have hb : (UInt8.ofNat (48 + q % 10)).toNat = 48 + q % 10 := by rw [UInt8.toNat_ofNat']; omega
        show (wr.alloc _).cell? ((⟨wr.heap.size, 0, none⟩ : Addr).add 0) = _
        rw [show ((⟨wr.heap.size, 0, none⟩ : Addr).add 0) = ⟨wr.heap.size, 0, none⟩ from by unfold Addr.add; simp]
        simp [hb]
        omega
      have HQ := Lib.hid hQ
      clear hQ
      generalize UInt8.ofNat (48 + q % 10) = cb at *
      have zr := HB.size
      go_wp2
      go_roundw
      case rel => exact ⟨k + 1, by omega, by go_num, by rw [HD.out]; rfl, by rw [HC.out], by (repeat' (first | (with_reducible exact Below.refl _ _) | (with_reducible assumption) | (with_reducible refine Below.trans ?_ (Below.mono (by with_reducible assumption) ?_)) | (with_reducible refine Below.alloc ?_ ?_ _) | (with_reducible refine Below.setCell ?_ ?_ _) | (with_reducible refine below_drewN ?_ _) | (with_reducible refine Below.drew ?_) | go_size))⟩
      case measure => simp [intOf]; omega
    · obtain rfl : k = many := by omega
      go_wp2
      go_ret
      exact ⟨rfl, HB⟩
end Go.Proofs.YtonleiffbfdikaaDoor
