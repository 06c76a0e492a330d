/- The reference's Print of a table: the same text. -/
import Derived.Test.YtonleiffbfdikaaDoorLeapPrt
import Derived.Test.YtonleiffbfdikaaDoorRef3Is
import Derived.Lib.QuietBelow
set_option linter.unusedSimpArgs false
set_option linter.unusedVariables false
namespace Go.Proofs.YtonleiffbfdikaaDoor
open Go.RowKit Go.Sort

theorem strOf_data (s : ByteArray) : strOf s.data.toList = s := by
  apply ByteArray.ext; simp [strOf]
theorem lines_str (z : Nat → Int) (k : Nat) : strOf (linesB z (k + 1)) = strOf (linesB z k) ++ dayS (z (k * 2)) ++ ⟨#[32]⟩ ++ strOf (Lib.decDigits (z (k * 2 + 1)).toNat) ++ ⟨#[10]⟩ := by
  apply ByteArray.ext
  simp [strOf, linesB, lineB]
theorem tab_str (z : Nat → Int) (n : Nat) (x : Int) : strOf (tabB z n x) = strOf (linesB z n) ++ ⟨#[101, 120, 112, 105, 114, 101, 115, 32]⟩ ++ dayS x ++ ⟨#[10]⟩ := by
  apply ByteArray.ext
  simp [strOf, tabB]
set_option maxRecDepth 100000 in
set_option maxHeartbeats 4000000 in
theorem ref3_print_yes (A : Option Addr) (n c : Nat) (x : Int) (z : Nat → Int) (w : World) (hz : FlatAt w A 2 n z) (hT : IsTab z n x) :
    Calls Tryd.prog 22 #[.agg #[.slice A n c, .int .i64 x]] w fun e w' => e = .returned (.tuple #[.string (strOf (tabB z n x)), .int .i64 0]) ∧ Below w.heap.size w w' := by
  have HB0 : Below w.heap.size w (w.alloc (.cells #[.slice A n c, .int .i64 x] 24)) := by (repeat' (first | (with_reducible exact Below.refl _ _) | (with_reducible assumption) | (with_reducible refine Below.trans ?_ (Below.mono (by with_reducible assumption) ?_)) | (with_reducible refine Below.alloc ?_ ?_ _) | (with_reducible refine Below.setCell ?_ ?_ _) | (with_reducible refine below_drewN ?_ _) | (with_reducible refine Below.drew ?_) | go_size))
  have X0 : Tb (w.alloc (.cells #[.slice A n c, .int .i64 x] 24)) w.heap.size (.slice A n c) x := ⟨by simp [go_sem], by simp [go_sem], by simp [go_sem], by simp [go_sem], by simp⟩
  have n1 : 1 ≤ n := hT.1
  have n100 : n ≤ 100 := hT.2.1
  have hx1 := hT.2.2.2.1
  have hx2 := hT.2.2.2.2.1
  have HOK := Lib.hid hT.2.2.1
  have HI := Lib.hid (ref3_is A n c x z _ true (hz.below HB0) (by unfold maxLen; omega) (by simp [hT]))
  obtain ⟨BA, OA, rfl, lBA, hcA⟩ := hz (by omega)
  have HCA := Lib.hid hcA
  have h00 : Hid (strOf (linesB z 0) = ⟨#[]⟩) := rfl
  clear hz hT hcA
  go_enter Tryd.func22, Tryd.ntmps22
  go_wp2_with fail
  refine HI.out.mono ?_; rintro e w1 ⟨rfl, hb1⟩
  have HB1 := HB0.trans (hb1.mono HB0.size)
  have X1 := Lib.hid (X0.below hb1)
  clear hb1 X0 HB0 HI
  go_wp2_with fail
  go_loopw [4, 5] (fun s i wr => ∃ k : Nat, k ≤ n ∧ i = .int .i64 k ∧ s = .string (strOf (linesB z k)) ∧ Below w.heap.size w wr ∧ Tb wr w.heap.size (.slice (some ⟨BA, OA, none⟩) n c) x) (fun _ i _ => n - (intOf i).toNat)
  case atStart => exact ⟨0, Nat.zero_le _, rfl, by rw [h00.out], HB1, X1.out⟩
  case round =>
    clear X1 HB1
    obtain ⟨k, hk, rfl, rfl, HB, X⟩ := hrel
    have XX := Lib.hid X
    obtain ⟨y0, y1, yf0, yf1, yl⟩ := X
    have hlen := linesB_len (z := z) k (fun j hj => HOK.out j (by omega))
    rw [← strOf_size] at hlen
    by_cases hlt : k < n
    · have hok := HOK.out k hlt
      have hd1 := hok.1
      have hd2 := hok.2.1
      have ho1 := hok.2.2.1
      have ho2 := hok.2.2.2.1
      have t2 : ((k : Int) < (n : Int)) := by omega
      have t3 : (0 : Int) ≤ (k : Int) := by omega
      have cd := (HB.cell (p := ⟨BA, OA + k * 2, none⟩) lBA).trans (HCA.out (k * 2) (by omega)).1
      have co : wr.cell? ⟨BA, OA + k * 2 + 1, none⟩ = some (.int .i64 (z (k * 2 + 1))) := (HB.cell (p := ⟨BA, OA + k * 2 + 1, none⟩) lBA).trans (HCA.out (k * 2 + 1) (by omega)).1
      have HLN := Lib.hid (lines_str z k)
      have hs1 : (dayS (z (k * 2))).size ≤ 10 := by rw [dayS_size _ hd1 hd2]; omega
      have hs2 := dec_len (n := (z (k * 2 + 1)).toNat) (by omega)
      rw [← strOf_size] at hs2
      have P1 := Lib.hid fun (w : World) => ref3_date (z (k * 2)) w hd1 hd2
      have P2 : Hid (∀ w : World, Calls Tryd.prog 34 #[.int .i64 (z (k * 2 + 1))] w fun e w' => e = .returned (.string (strOf (Lib.decDigits (z (k * 2 + 1)).toNat))) ∧ Below w.heap.size w w') := fun w => by
        have := ref1_dec (z (k * 2 + 1)).toNat w (by omega)
        rwa [Int.toNat_of_nonneg ho1] at this
      generalize z (k * 2) = zd at *
      generalize strOf (Lib.decDigits (z (k * 2 + 1)).toNat) = S2 at *
      generalize z (k * 2 + 1) = zo at *
      generalize dayS zd = S1 at *
      generalize hS0 : strOf (linesB z k) = S0 at *
      have HS0 := Lib.hid hS0
      have m0 : ¬ 9223372036854775807 < S0.size + S1.size := by omega
      have m1 : ¬ 9223372036854775807 < S0.size + S1.size + 1 := by omega
      have m2 : ¬ 9223372036854775807 < S0.size + S1.size + 1 + S2.size := by omega
      have m3 : ¬ 9223372036854775807 < S0.size + S1.size + 1 + S2.size + 1 := by omega
      have k0 := fun d os => cell_regrown y0 d os
      have k1 := fun d os => cell_regrown cd d os
      have k2 := fun d os => cell_regrown co d os
      have A1 := Lib.hid fun (d' : Nat) (os : Array Obj) => Calls.regrown_of (P1.out (grow (redrawn wr d') os))
      have A2 := Lib.hid fun (d' : Nat) (os : Array Obj) => Calls.regrown_of (P2.out (grow (redrawn wr d') os))
      clear hok hd1 hd2 ho1 ho2 hlt hlen hS0 P1 P2
      go_wp2_with fail
      refine wp_region_quiet_below (by kernel_rfl) (by kernel_rfl) ?_
      repeat (quiet_step (first | (go_at_call 33; with_reducible exact A1.out _ _) | (go_at_call 34; with_reducible exact A2.out _ _)))
      refine wpQuiet_nil ?_
      intro _ hw'
      obtain ⟨⟨dq, osq⟩, hw''⟩ := hw'
      subst hw''
      have HBG := below_regrown wr dq osq
      have HBF := Lib.hid (HB.trans (HBG.mono HB.size))
      have XF := Lib.hid (XX.out.below HBG)
      clear HBG
      go_wp2
      exact ⟨⟨k + 1, by omega, by simp, by rw [HLN.out], HBF.out, XF.out⟩, by simp [intOf]; omega⟩
    · obtain rfl : k = n := by omega
      have t2 : ¬ ((k : Int) < (k : Int)) := by omega
      have hsx : (dayS x).size ≤ 10 := by rw [dayS_size _ hx1 hx2]; omega
      have HTB := Lib.hid (tab_str z k x)
      have PX := Lib.hid fun (w : World) => ref3_date x w hx1 hx2
      generalize dayS x = SX at *
      generalize hS0 : strOf (linesB z k) = S0 at *
      have m0 : ¬ 9223372036854775807 < S0.size + 8 := by omega
      have m1 : ¬ 9223372036854775807 < S0.size + 8 + SX.size := by omega
      have m2 : ¬ 9223372036854775807 < S0.size + 8 + SX.size + 1 := by omega
      clear hlt hS0 hlen
      go_wp2_with fail
      refine (PX.out _).mono ?_; rintro e w6 ⟨rfl, hb6⟩
      have HB6 := HB.trans (hb6.mono HB.size)
      clear hb6
      go_wp2
      go_ret2
      exact ⟨by rw [HTB.out]; rfl, HB6⟩
end Go.Proofs.YtonleiffbfdikaaDoor
