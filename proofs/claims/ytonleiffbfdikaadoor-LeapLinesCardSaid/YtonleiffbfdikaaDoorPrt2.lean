/- Dates as text: cal.padded, cal.Print; the reference's Print. -/
import Derived.Test.YtonleiffbfdikaaDoorPrt
import Derived.Test.YtonleiffbfdikaaDoorItoaL
import Derived.Lib.QuietBelow
import Derived.Shelf.Unicode.PredsPay
set_option linter.unusedSimpArgs false
set_option linter.unusedVariables false
namespace Go.Proofs.YtonleiffbfdikaaDoor
open Go.RowKit Go.Sort

theorem lowd_zero (i : Nat) : lowd i 0 = List.replicate i 48 := by
  induction i with
  | zero => rfl
  | succ i ih => rw [lowd, ih, Nat.zero_div]; rfl
theorem lowd_snoc (i n : Nat) : lowd (i + 1) n = lowd i (n / 10) ++ [UInt8.ofNat (48 + n % 10)] := by
  induction i generalizing n with
  | zero => simp [lowd]
  | succ i ih =>
    show UInt8.ofNat (48 + n / 10 ^ (i + 1) % 10) :: lowd (i + 1) n = UInt8.ofNat (48 + n / 10 / 10 ^ i % 10) :: lowd i (n / 10) ++ [UInt8.ofNat (48 + n % 10)]
    rw [ih, Nat.div_div_eq_div_mul, Nat.pow_succ, Nat.mul_comm 10]
    rfl
theorem pad_eq : ∀ (wd n : Nat), n < 10 ^ (wd + 1) → List.replicate (wd + 1 - (Lib.decDigits n).length) 48 ++ Lib.decDigits n = lowd (wd + 1) n ∧ (Lib.decDigits n).length ≤ wd + 1
  | 0, n, h => by
    have h' : n < 10 := by simpa using h
    rw [Lib.decDigits_one h']
    simp [lowd, Nat.mod_eq_of_lt h']
  | wd + 1, n, h => by
    by_cases h10 : n < 10
    · rw [Lib.decDigits_one h10, lowd_snoc, Nat.div_eq_of_lt h10, lowd_zero, Nat.mod_eq_of_lt h10]
      simp
    · have hq : n / 10 < 10 ^ (wd + 1) := by rw [Nat.pow_succ] at h; omega
      obtain ⟨i1, i2⟩ := pad_eq wd (n / 10) hq
      have e : Lib.decDigits n = Lib.decDigits (n / 10) ++ [UInt8.ofNat (48 + n % 10)] := by
        conv => lhs; rw [Lib.decDigits, dif_neg h10]
      rw [e, lowd_snoc, ← i1]
      simp
      omega
theorem below_grow_drewN (w : World) (k : Nat) (os : Array Obj) : Below w.heap.size w (grow (w.drewN k) os) := ⟨rfl, rfl, rfl, by simp [grow], fun i hi => by simp [grow, Array.getElem?_append, hi]⟩
def Tab (w : World) : Prop := Lib.TabIs Tryd.prog w "internal/strconv.uint64pow10" .u64 Lib.pow10Tab
theorem Tab.below {w w' : World} (h : Tab w) (k : Below w.heap.size w w') : Tab w' := TabIs_below (g := 0) (by kernel_rfl) h k
theorem itoa_ok (n : Nat) (w : World) (ht : Tab w) (hn : n ≤ 1000000) : Calls Tryd.prog 31 #[.int .i64 n] w fun e w' => e = .returned (.string (strOf (Lib.decDigits n))) ∧ Below w.heap.size w w' := by
  refine (Any.strconv_Itoa Tryd.laysM171 (n : Int) (by omega) (by omega) w ht).mono fun e w' ⟨he, k, os, hw⟩ => ⟨?_, ?_⟩
  · rw [he, Lib.itoa_nonneg]; rfl
  · rw [hw]; exact below_grow_drewN _ _ _
theorem strOf_size (l : List UInt8) : (strOf l).size = l.length := by simp [strOf, ByteArray.size]
set_option maxHeartbeats 1000000 in
theorem cal_padded (n wd : Nat) (w : World) (ht : Tab w) (hn : n < 10 ^ (wd + 1)) (hw : wd ≤ 5) : Calls Tryd.prog 57 #[.int .i64 n, .int .i64 ((wd + 1 : Nat) : Int)] w fun e w' => e = .returned (.string (strOf (lowd (wd + 1) n))) ∧ Below w.heap.size w w' := by
  have h6 : n < 1000000 := Nat.lt_of_lt_of_le hn (Nat.pow_le_pow_right (by omega) (show wd + 1 ≤ 6 by omega))
  obtain ⟨hp, hl⟩ := pad_eq wd n hn
  have HI := Lib.hid (itoa_ok n w ht (by omega))
  generalize Lib.decDigits n = D at *
  have HP := Lib.hid hp
  clear hp ht hn
  go_enter Tryd.func57, Tryd.ntmps57
  go_wp2_with fail
  refine HI.out.mono ?_; rintro e w1 ⟨rfl, hb1⟩
  go_wp2_with fail
  go_loop [5] (fun s => ∃ j : Nat, j + D.length ≤ wd + 1 ∧ s = .string (strOf (List.replicate j 48 ++ D))) (fun s => wd + 1 - (match s with | .string b => b.size | _ => 0))
  case atStart => exact ⟨0, by omega, rfl⟩
  case round =>
    obtain ⟨j, hj, rfl⟩ := hrel
    have hsz : (strOf (List.replicate j 48 ++ D)).size = j + D.length := by rw [strOf_size]; simp
    have hsi : ((strOf (List.replicate j 48 ++ D)).size : Int) = ((j + D.length : Nat) : Int) := by omega
    by_cases hlt : j + D.length < wd + 1
    · have t1 : decide ((strOf (List.replicate j 48 ++ D)).size < wd + 1) = true := by simp only [decide_eq_true_eq]; omega
      have HN : Hid (strOf (List.replicate (j + 1) 48 ++ D) = ⟨#[48]⟩ ++ strOf (List.replicate j 48 ++ D)) := by show _ = _; rw [List.replicate_succ]; exact (strOf_cons 48 (List.replicate j 48 ++ D)).symm
      have HS := Lib.hid hsz
      have hle : (strOf (List.replicate j 48 ++ D)).size ≤ 100 := by omega
      have hlt2 : (strOf (List.replicate j 48 ++ D)).size < wd + 1 := by omega
      clear hsz hsi
      generalize strOf (List.replicate j 48 ++ D) = S at *
      go_wp2
      go_round
      case rel => exact ⟨j + 1, by omega, by rw [HN.out]⟩
      case measure =>
        show wd + 1 - ((⟨#[48]⟩ : ByteArray) ++ S).size < wd + 1 - S.size
        rw [ByteArray.size_append]
        show wd + 1 - (1 + S.size) < wd + 1 - S.size
        omega
    · have hge : ¬ (strOf (List.replicate j 48 ++ D)).size < wd + 1 := by omega
      have HJ : Hid (j = wd + 1 - D.length) := by show _ = _; omega
      have HF : Hid (strOf (List.replicate j 48 ++ D) = strOf (lowd (wd + 1) n)) := by show _ = _; rw [HJ.out, HP.out]
      clear hsz hsi
      generalize strOf (List.replicate j 48 ++ D) = S at *
      go_wp2
      go_ret
      exact ⟨by rw [HF.out]; rfl, hb1⟩
end Go.Proofs.YtonleiffbfdikaaDoor
