/- The check sum as a number: four binary digits at once, or one after another, is the same. -/
import Derived.Test.YtcmoglbmngmgnaaDoorTokSum
set_option linter.unusedSimpArgs false
set_option linter.unusedVariables false
namespace Go.Proofs.YtcmoglbmngmgnaaDoor
open Go.RowKit Go.Sort

/-- One binary digit on. -/
def crc1 (c : Nat) : Nat := if c % 2 = 1 then c / 2 ^^^ 3988292384 else c / 2
/-- Four binary digits on, by the table. -/
def crc4 (c : Nat) : Nat := c / 16 ^^^ (nibL.getD (c % 16) 0).toNat
def crcB (s b : Nat) : Nat := crc4 (crc4 (s ^^^ b))
def crcT (z : Nat → Nat) (s : Nat) : Nat → Nat
  | 0 => s
  | j + 1 => crcB (crcT z s j) (z j)
theorem crc1_xor (a b : Nat) : crc1 (a ^^^ b) = crc1 a ^^^ crc1 b := by
  have h1 : (a ^^^ b) / 2 = a / 2 ^^^ b / 2 := Nat.xor_div_two
  have h2 : (a ^^^ b) % 2 = (a + b) % 2 := by
    have := Nat.xor_mod_two_pow (a := a) (b := b) (n := 1)
    rw [show (2 : Nat) ^ 1 = 2 from rfl] at this
    rw [this]
    rcases Nat.mod_two_eq_zero_or_one a with ha | ha <;> rcases Nat.mod_two_eq_zero_or_one b with hb | hb <;> rw [ha, hb, Nat.add_mod, ha, hb] <;> rfl
  unfold crc1
  rw [h1, h2]
  rcases Nat.mod_two_eq_zero_or_one a with ha | ha <;> rcases Nat.mod_two_eq_zero_or_one b with hb | hb
  · have : (a + b) % 2 = 0 := by omega
    simp [ha, hb, this]
  · have : (a + b) % 2 = 1 := by omega
    simp [ha, hb, this, Nat.xor_assoc]
  · have : (a + b) % 2 = 1 := by omega
    simp only [ha, hb, this, if_true]
    simp only [show ¬ (0 : Nat) = 1 by decide, if_false]
    rw [Nat.xor_assoc, Nat.xor_comm (b / 2), ← Nat.xor_assoc]
  · have : (a + b) % 2 = 0 := by omega
    simp only [ha, hb, this, if_true]
    simp only [show ¬ (0 : Nat) = 1 by decide, if_false]
    rw [Nat.xor_assoc, Nat.xor_comm 3988292384, Nat.xor_assoc, Nat.xor_self, Nat.xor_zero]
theorem crc1_two (a : Nat) : crc1 (2 * a) = a := by
  unfold crc1
  rw [if_neg (by omega)]
  omega
theorem crc4_is (c : Nat) : crc1 (crc1 (crc1 (crc1 c))) = crc4 c := by
  have hc : c = (2 * (2 * (2 * (2 * (c / 16))))) ^^^ (c % 16) := by
    have h : 2 * (2 * (2 * (2 * (c / 16)))) = 2 ^ 4 * (c / 16) := by omega
    rw [h]
    have := Nat.two_pow_add_eq_or_of_lt (i := 4) (b := c % 16) (Nat.mod_lt _ (by decide)) (c / 16)
    have h3 := Nat.div_add_mod c 16
    have h4 : (2 ^ 4 * (c / 16)) ^^^ (c % 16) = 2 ^ 4 * (c / 16) + c % 16 := by
      rw [this]
      refine Nat.eq_of_testBit_eq fun i => ?_
      rw [Nat.testBit_xor, Nat.testBit_or, Nat.testBit_two_pow_mul]
      by_cases hi : 4 ≤ i
      · have : (c % 16).testBit i = false := Nat.testBit_lt_two_pow (Nat.lt_of_lt_of_le (Nat.mod_lt c (by decide : 0 < 16)) (by have := Nat.pow_le_pow_right (n := 2) (by decide) hi; omega))
        simp [this]
      · simp [hi]
    rw [h4]
    omega
  have hr : ∀ r : Fin 16, crc1 (crc1 (crc1 (crc1 r.val))) = (nibL.getD r.val 0).toNat := by decide
  conv => lhs; rw [hc]
  rw [crc1_xor, crc1_two, crc1_xor, crc1_two, crc1_xor, crc1_two, crc1_xor, crc1_two, hr ⟨c % 16, Nat.mod_lt _ (by decide)⟩]
  rfl
theorem xorN (a b : Nat) (ha : a ≤ 4294967295) (hb : b ≤ 4294967295) : bits .xor .u32 (a : Int) (b : Int) = ((a ^^^ b : Nat) : Int) ∧ a ^^^ b ≤ 4294967295 := by
  have h : bits .xor .u32 (a : Int) (b : Int) = IntKind.u32.wrap ((BitVec.ofInt 32 a ^^^ BitVec.ofInt 32 b).toNat : Int) := rfl
  have hl := Nat.xor_lt_two_pow (n := 32) (x := a) (y := b) (by omega) (by omega)
  have e : (2 : Nat) ^ 32 = 4294967296 := by decide
  rw [e] at hl
  have ht : (BitVec.ofInt 32 a ^^^ BitVec.ofInt 32 b).toNat = a ^^^ b := by
    rw [BitVec.toNat_xor, BitVec.ofInt_natCast, BitVec.ofInt_natCast, BitVec.toNat_ofNat, BitVec.toNat_ofNat, Nat.mod_eq_of_lt (by omega), Nat.mod_eq_of_lt (by omega)]
  rw [h, ht]
  exact ⟨IntWalk.u32_in _ (by omega), by omega⟩
theorem and15N (a : Nat) (ha : a ≤ 4294967295) : bits .and .u32 (a : Int) 15 = ((a % 16 : Nat) : Int) := by
  have h : bits .and .u32 (a : Int) 15 = IntKind.u32.wrap ((BitVec.ofInt 32 a &&& BitVec.ofInt 32 15).toNat : Int) := rfl
  have e2 : (BitVec.ofInt 32 15).toNat = 2 ^ 4 - 1 := by decide
  have ht : (BitVec.ofInt 32 a &&& BitVec.ofInt 32 15).toNat = a % 16 := by
    rw [BitVec.toNat_and, e2, BitVec.ofInt_natCast, BitVec.toNat_ofNat, Nat.mod_eq_of_lt (by omega), Nat.and_two_pow_sub_one_eq_mod]
  rw [h, ht]
  exact IntWalk.u32_in _ (by omega)
theorem nib_nat (w : World) (ht : Tb2 w) (i : Nat) (hi : i < 16) : w.cell? ⟨0, i, none⟩ = some (.int .u32 (((nibL.getD i 0).toNat : Nat) : Int)) ∧ (nibL.getD i 0).toNat ≤ 4294967295 := by
  have h1 := ht.nib.cell (g := 0) (by kernel_rfl) i hi
  have : ∀ i : Fin 16, nibL.getD i.val 0 = ((nibL.getD i.val 0).toNat : Int) ∧ (nibL.getD i.val 0).toNat ≤ 4294967295 := by decide
  obtain ⟨a, b⟩ := this ⟨i, hi⟩
  exact ⟨by rw [← a]; exact h1, b⟩
theorem crc4_le (c : Nat) (h : c ≤ 4294967295) : crc4 c ≤ 4294967295 := by
  have : ∀ i : Fin 16, (nibL.getD i.val 0).toNat < 2 ^ 32 := by decide
  have hl := Nat.xor_lt_two_pow (n := 32) (x := c / 16) (y := (nibL.getD (c % 16) 0).toNat) (by omega) (this ⟨c % 16, Nat.mod_lt _ (by decide)⟩)
  unfold crc4
  omega
set_option maxRecDepth 100000 in
set_option maxHeartbeats 4000000 in
theorem sum_val (g c cc B n : Nat) (z : Nat → Nat) (w : World) (ht : Tb2 w) (hg : w.cell? ⟨g, 0, none⟩ = some (.slice (some ⟨B, 0, none⟩) n cc)) (hn : n ≤ 1000000) (hb : ∀ j, j < n → w.cell? ⟨B, j, none⟩ = some (.int .u8 (z j)) ∧ z j ≤ 255) :
    Calls Tryd.prog 18 #[.slice (some ⟨g, 0, none⟩) 1 c] w fun e w' => (e = .returned (.int .u32 ((4294967295 ^^^ crcT z 4294967295 n : Nat) : Int)) ∧ 4294967295 ^^^ crcT z 4294967295 n ≤ 4294967295) ∧ w = w' := by
  have HT := Lib.hid (nib_nat w ht)
  have HB := Lib.hid hb
  have hni : (n : Int) ≤ 1000000 := by omega
  clear ht hb
  go_enter Tryd.func18, Tryd.ntmps18
  go_wp2
  go_loop [3, 10] (fun s i => ∃ (k : Nat) (v : Nat), k ≤ 1 ∧ i = .int .i64 k ∧ s = .int .u32 v ∧ v ≤ 4294967295 ∧ (k = 0 → v = 4294967295) ∧ (k = 1 → v = crcT z 4294967295 n)) (fun _ i => 1 - (intOf i).toNat)
  case atStart => exact ⟨0, 4294967295, by omega, rfl, rfl, by omega, fun _ => rfl, fun h => by omega⟩
  case round =>
    obtain ⟨k, v, hk, rfl, rfl, hv, hv0, hv1⟩ := hrel
    by_cases hk0 : k = 0
    · subst hk0
      obtain rfl := hv0 rfl
      clear hv0 hv1
      go_wp2
      go_loop [3, 16] (fun s i => ∃ (j : Nat) (v : Nat), j ≤ n ∧ i = .int .i64 j ∧ s = .int .u32 v ∧ v ≤ 4294967295 ∧ Hid (v = crcT z 4294967295 j)) (fun _ i => n - (intOf i).toNat)
      case atStart => exact ⟨0, 4294967295, Nat.zero_le _, rfl, rfl, hv, Lib.hid rfl⟩
      case round =>
        obtain ⟨j, s, hj, rfl, rfl, hs, HS⟩ := hrel
        by_cases hlt : j < n
        · obtain ⟨hcell, hb1⟩ := HB.out j hlt
          have HJ : Hid (crcT z 4294967295 (j + 1) = crcB (crcT z 4294967295 j) (z j)) := Lib.hid rfl
          have lj : (j : Int) < (n : Int) := by omega
          generalize z j = b at *
          have hwb : IntKind.u32.wrap (b : Int) = (b : Int) := IntWalk.u32_in _ (by omega)
          obtain ⟨h1, l1⟩ := xorN s b hs (by omega)
          have e1 := and15N (s ^^^ b) l1
          obtain ⟨c1, k1⟩ := HT.out ((s ^^^ b) % 16) (Nat.mod_lt _ (by decide))
          have d1 : (s ^^^ b) / 16 ≤ 4294967295 := by omega
          have M1 : Hid (crc4 (s ^^^ b) = (s ^^^ b) / 16 ^^^ (nibL.getD ((s ^^^ b) % 16) 0).toNat) := Lib.hid rfl
          obtain ⟨h2, l2⟩ := xorN ((s ^^^ b) / 16) ((nibL.getD ((s ^^^ b) % 16) 0).toNat) d1 k1
          rw [← M1.out] at h2 l2
          have g1 : (((s ^^^ b) % 16 : Nat) : Int) < 16 := by omega
          have q1 : ((s ^^^ b : Nat) : Int) / 16 = (((s ^^^ b) / 16 : Nat) : Int) := rfl
          obtain ⟨Q1, hQ1⟩ : ∃ q : Int, ((s ^^^ b : Nat) : Int) / 16 = q := ⟨_, rfl⟩
          rw [← q1, hQ1] at h2
          have HX : Hid (crcB s b = crc4 (crc4 (s ^^^ b))) := Lib.hid rfl
          generalize (nibL.getD ((s ^^^ b) % 16) 0).toNat = v1 at *
          generalize (s ^^^ b) % 16 = r1 at *
          clear q1 M1 d1
          generalize s ^^^ b = s1 at *
          have e2 := and15N (crc4 s1) l2
          obtain ⟨c2, k2⟩ := HT.out (crc4 s1 % 16) (Nat.mod_lt _ (by decide))
          have d2 : crc4 s1 / 16 ≤ 4294967295 := by omega
          have M2 : Hid (crc4 (crc4 s1) = crc4 s1 / 16 ^^^ (nibL.getD (crc4 s1 % 16) 0).toNat) := Lib.hid rfl
          obtain ⟨h3, l3⟩ := xorN (crc4 s1 / 16) ((nibL.getD (crc4 s1 % 16) 0).toNat) d2 k2
          rw [← M2.out] at h3 l3
          have g2 : ((crc4 s1 % 16 : Nat) : Int) < 16 := by omega
          have q2 : ((crc4 s1 : Nat) : Int) / 16 = ((crc4 s1 / 16 : Nat) : Int) := rfl
          obtain ⟨Q2, hQ2⟩ : ∃ q : Int, ((crc4 s1 : Nat) : Int) / 16 = q := ⟨_, rfl⟩
          rw [← q2, hQ2] at h3
          generalize (nibL.getD (crc4 s1 % 16) 0).toNat = v2 at *
          generalize crc4 s1 % 16 = r2 at *
          clear q2 M2 d2
          generalize crc4 s1 = s2 at *
          generalize crc4 s2 = s3 at *
          go_wp2
          go_round
          case rel => exact ⟨j + 1, s3, by omega, by go_num, rfl, l3, Lib.hid (by rw [HJ.out, ← HS.out, HX.out])⟩
          case measure => simp [intOf]; omega
        · obtain rfl : j = n := by omega
          go_wp2
          go_round
          case rel => exact ⟨1, s, by omega, by go_num, rfl, hs, fun h => by omega, fun _ => HS.out⟩
          case measure => simp [intOf]
    · obtain rfl : k = 1 := by omega
      have hve := hv1 rfl
      obtain ⟨h3, l3⟩ := xorN 4294967295 v (by omega) hv
      have h3' : bits .xor .u32 IntKind.u32.max (v : Int) = ((4294967295 ^^^ v : Nat) : Int) := h3
      obtain ⟨v3, hv3⟩ : ∃ q, 4294967295 ^^^ v = q := ⟨_, rfl⟩
      rw [hv3] at h3' l3
      have HV := Lib.hid (And.intro hve hv3)
      have HL := Lib.hid l3
      clear hve hv3 h3 l3 hv0 hv1
      go_wp2
      go_ret
      exact ⟨⟨by rw [← HV.out.1, HV.out.2]; rfl, by rw [← HV.out.1, HV.out.2]; exact HL.out⟩, rfl⟩
end Go.Proofs.YtcmoglbmngmgnaaDoor
