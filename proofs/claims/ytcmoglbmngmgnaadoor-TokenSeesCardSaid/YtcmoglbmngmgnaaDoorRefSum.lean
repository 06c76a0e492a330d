/- The reference's check sum is the same number. -/
import Derived.Test.YtcmoglbmngmgnaaDoorTokSumV
set_option linter.unusedSimpArgs false
set_option linter.unusedVariables false
namespace Go.Proofs.YtcmoglbmngmgnaaDoor
open Go.RowKit Go.Sort

def crcI : Nat → Nat → Nat
  | 0, s => s
  | k + 1, s => crc1 (crcI k s)
theorem crcI_eight (s : Nat) : crcI 8 s = crc4 (crc4 s) := by
  show crc1 (crc1 (crc1 (crc1 (crc1 (crc1 (crc1 (crc1 s))))))) = _
  rw [crc4_is, crc4_is]
theorem crc1_le (c : Nat) (h : c ≤ 4294967295) : crc1 c ≤ 4294967295 := by
  have hl := Nat.xor_lt_two_pow (n := 32) (x := c / 2) (y := 3988292384) (by omega) (by decide)
  unfold crc1
  split <;> omega
theorem and1N (a : Nat) (ha : a ≤ 4294967295) : bits .and .u32 (a : Int) 1 = ((a % 2 : Nat) : Int) := by
  have h : bits .and .u32 (a : Int) 1 = IntKind.u32.wrap ((BitVec.ofInt 32 a &&& BitVec.ofInt 32 1).toNat : Int) := rfl
  have e2 : (BitVec.ofInt 32 1).toNat = 2 ^ 1 - 1 := by decide
  have ht : (BitVec.ofInt 32 a &&& BitVec.ofInt 32 1).toNat = a % 2 := by
    rw [BitVec.toNat_and, e2, BitVec.ofInt_natCast, BitVec.toNat_ofNat, Nat.mod_eq_of_lt (by omega), Nat.and_two_pow_sub_one_eq_mod]
  rw [h, ht]
  exact IntWalk.u32_in _ (by omega)
set_option maxRecDepth 100000 in
set_option maxHeartbeats 4000000 in
theorem ref_sum (B n cc : Nat) (z : Nat → Nat) (w : World) (hn : n ≤ 1000000) (hb : ∀ j, j < n → w.cell? ⟨B, j, none⟩ = some (.int .u8 (z j)) ∧ z j ≤ 255) :
    Calls Tryd.prog 21 #[.slice (some ⟨B, 0, none⟩) n cc] w fun e w' => e = .returned (.int .u32 ((4294967295 ^^^ crcT z 4294967295 n : Nat) : Int)) ∧ w = w' := by
  have HB := Lib.hid hb
  have hni : (n : Int) ≤ 1000000 := by omega
  clear hb
  go_enter Tryd.func21, Tryd.ntmps21
  go_wp2
  go_loop [3, 4] (fun s i => ∃ (j : Nat) (v : Nat), j ≤ n ∧ i = .int .i64 j ∧ s = .int .u32 v ∧ v ≤ 4294967295 ∧ Hid (v = crcT z 4294967295 j)) (fun _ i => n - (intOf i).toNat)
  case atStart => exact ⟨0, 4294967295, Nat.zero_le _, rfl, rfl, by omega, Lib.hid rfl⟩
  case round =>
    obtain ⟨j, s, hj, rfl, rfl, hs, HS⟩ := hrel
    by_cases hlt : j < n
    · obtain ⟨hcell, hb1⟩ := HB.out j hlt
      have HJ : Hid (crcT z 4294967295 (j + 1) = crcB (crcT z 4294967295 j) (z j)) := Lib.hid rfl
      have lj : (j : Int) < (n : Int) := by omega
      generalize z j = b at *
      have hwb : IntKind.u32.wrap (b : Int) = (b : Int) := IntWalk.u32_in _ (by omega)
      obtain ⟨h1, l1⟩ := xorN s b hs (by omega)
      have HX : Hid (crcB s b = crc4 (crc4 (s ^^^ b))) := Lib.hid rfl
      generalize s ^^^ b = s1 at *
      go_wp2
      go_loop [3, 5] (fun s i => ∃ (k : Nat) (v : Nat), k ≤ 8 ∧ i = .int .i64 k ∧ s = .int .u32 v ∧ v ≤ 4294967295 ∧ Hid (v = crcI k s1)) (fun _ i => 8 - (intOf i).toNat)
      case atStart => exact ⟨0, s1, by omega, rfl, rfl, l1, Lib.hid rfl⟩
      case round =>
        obtain ⟨k, v, hk, rfl, rfl, hv, HV⟩ := hrel
        by_cases hk8 : k < 8
        · have lk : (k : Int) < 8 := by omega
          have e1 := and1N v hv
          have q1 : (v : Int) / 2 = ((v / 2 : Nat) : Int) := rfl
          obtain ⟨Q, hQ⟩ : ∃ q : Int, (v : Int) / 2 = q := ⟨_, rfl⟩
          have HC : Hid (crcI (k + 1) s1 = crc1 (crcI k s1)) := Lib.hid rfl
          rcases Nat.mod_two_eq_zero_or_one v with h2 | h2
          · have HN : Hid (Q = ((crc1 v : Nat) : Int)) := Lib.hid (by rw [← hQ, q1]; unfold crc1; rw [if_neg (by omega)])
            have LN := Lib.hid (crc1_le v hv)
            rw [h2] at e1
            clear q1
            go_wp2
            go_round
            case rel => exact ⟨k + 1, crc1 v, by omega, by go_num, by rw [HN.out], LN.out, Lib.hid (by rw [HC.out, ← HV.out])⟩
            case measure => simp [intOf]; omega
          · obtain ⟨x1, x2⟩ := xorN (v / 2) 3988292384 (by omega) (by omega)
            have HN : Hid (v / 2 ^^^ 3988292384 = crc1 v) := Lib.hid (by unfold crc1; rw [if_pos h2])
            rw [HN.out, ← q1, hQ] at x1
            have x1' : bits .xor .u32 Q 3988292384 = ((crc1 v : Nat) : Int) := x1
            have LN := Lib.hid (crc1_le v hv)
            rw [h2] at e1
            have HC2 : Hid (crcI (k + 1) s1 = crc1 v) := Lib.hid (by rw [HC.out, ← HV.out])
            clear q1 x1 x2 HN HC
            generalize crc1 v = v' at *
            go_wp2
            go_round
            case rel => exact ⟨k + 1, v', by omega, by go_num, rfl, LN.out, Lib.hid HC2.out.symm⟩
            case measure => simp [intOf]; omega
        · obtain rfl : k = 8 := by omega
          go_wp2
          go_round
          case rel => exact ⟨j + 1, v, by omega, by go_num, rfl, hv, Lib.hid (by rw [HJ.out, ← HS.out, HX.out, HV.out, crcI_eight])⟩
          case measure => simp [intOf]; omega
    · obtain rfl : j = n := by omega
      obtain ⟨h3, l3⟩ := xorN 4294967295 s (by omega) hs
      have h3' : bits .xor .u32 IntKind.u32.max (s : Int) = ((4294967295 ^^^ s : Nat) : Int) := h3
      obtain ⟨v3, hv3⟩ : ∃ q, 4294967295 ^^^ s = q := ⟨_, rfl⟩
      rw [hv3] at h3'
      have HV := Lib.hid hv3
      clear hv3 h3 l3
      go_wp2
      go_ret
      exact ⟨by rw [← HS.out, HV.out]; rfl, rfl⟩
end Go.Proofs.YtcmoglbmngmgnaaDoor
