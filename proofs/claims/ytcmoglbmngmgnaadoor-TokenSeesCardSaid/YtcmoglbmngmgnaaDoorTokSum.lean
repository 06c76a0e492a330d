/- octet.Sum of one row: some value of 32 bits; nothing is written. -/
import Derived.Test.YtcmoglbmngmgnaaDoorTokTab
set_option linter.unusedSimpArgs false
set_option linter.unusedVariables false
namespace Go.Proofs.YtcmoglbmngmgnaaDoor
open Go.RowKit Go.Sort

theorem xor32 (a b : Int) : ∃ v : Nat, bits .xor .u32 a b = (v : Int) ∧ v ≤ 4294967295 := by
  have h : bits .xor .u32 a b = IntKind.u32.wrap ((BitVec.ofInt 32 a ^^^ BitVec.ofInt 32 b).toNat : Int) := rfl
  have hl := (BitVec.ofInt 32 a ^^^ BitVec.ofInt 32 b).isLt
  have e : (2 : Nat) ^ 32 = 4294967296 := by decide
  rw [e] at hl
  exact ⟨_, by rw [h, IntWalk.u32_in _ (by omega)], by omega⟩
theorem and32 (a : Int) : ∃ d : Nat, bits .and .u32 a 15 = (d : Int) ∧ d < 16 := by
  have h : bits .and .u32 a 15 = IntKind.u32.wrap ((BitVec.ofInt 32 a &&& BitVec.ofInt 32 15).toNat : Int) := rfl
  have hl : (BitVec.ofInt 32 a &&& BitVec.ofInt 32 15).toNat ≤ 15 := by
    rw [BitVec.toNat_and]
    exact Nat.and_le_right
  exact ⟨_, by rw [h, IntWalk.u32_in _ (by omega)], by omega⟩
set_option maxRecDepth 100000 in
set_option maxHeartbeats 4000000 in
theorem sum_any (g c cc B n : Nat) (w : World) (ht : Tb2 w) (hg : w.cell? ⟨g, 0, none⟩ = some (.slice (some ⟨B, 0, none⟩) n cc)) (hn : n ≤ 1000000) (hb : ∀ j, j < n → ∃ b : Int, w.cell? ⟨B, j, none⟩ = some (.int .u8 b) ∧ 0 ≤ b ∧ b ≤ 255) :
    Calls Tryd.prog 18 #[.slice (some ⟨g, 0, none⟩) 1 c] w fun e w' => (∃ v : Nat, e = .returned (.int .u32 v) ∧ v ≤ 4294967295) ∧ w = w' := by
  have HT := Lib.hid ht
  have HB := Lib.hid hb
  have hni : (n : Int) ≤ 1000000 := by omega
  clear ht hb
  go_enter Tryd.func18, Tryd.ntmps18
  go_wp2
  go_loop [3, 10] (fun s i => ∃ (k : Nat) (v : Nat), k ≤ 1 ∧ i = .int .i64 k ∧ s = .int .u32 v ∧ v ≤ 4294967295) (fun _ i => 1 - (intOf i).toNat)
  case atStart => exact ⟨0, 4294967295, by omega, rfl, rfl, by omega⟩
  case round =>
    obtain ⟨k, v, hk, rfl, rfl, hv⟩ := hrel
    by_cases hk0 : k = 0
    · subst hk0
      go_wp2
      go_loop [3, 16] (fun s i => ∃ (j : Nat) (v : Nat), j ≤ n ∧ i = .int .i64 j ∧ s = .int .u32 v ∧ v ≤ 4294967295) (fun _ i => n - (intOf i).toNat)
      case atStart => exact ⟨0, v, Nat.zero_le _, rfl, rfl, hv⟩
      case round =>
        obtain ⟨j, s, hj, rfl, rfl, hs⟩ := hrel
        by_cases hlt : j < n
        · obtain ⟨b, hcell, hb0, hb1⟩ := HB.out j hlt
          have lj : (j : Int) < (n : Int) := by omega
          have hwb : IntKind.u32.wrap b = b := IntWalk.u32_in _ (by omega)
          obtain ⟨s1, h1, l1⟩ := xor32 s b
          obtain ⟨d1, e1, f1⟩ := and32 s1
          obtain ⟨v1, c1, v10, v11⟩ := HT.out.nibble d1 f1
          obtain ⟨q1, hq1⟩ : ∃ q : Int, (s1 : Int) / 16 = q := ⟨_, rfl⟩
          obtain ⟨s2, h2, l2⟩ := xor32 q1 v1
          obtain ⟨d2, e2, f2⟩ := and32 s2
          obtain ⟨v2, c2, v20, v21⟩ := HT.out.nibble d2 f2
          obtain ⟨q2, hq2⟩ : ∃ q : Int, (s2 : Int) / 16 = q := ⟨_, rfl⟩
          obtain ⟨s3, h3, l3⟩ := xor32 q2 v2
          have g1 : (d1 : Int) < 16 := by omega
          have g2 : (d2 : Int) < 16 := by omega
          go_wp2
          go_round
          case rel => exact ⟨j + 1, s3, by omega, by go_num, rfl, l3⟩
          case measure => simp [intOf]; omega
        · obtain rfl : j = n := by omega
          go_wp2
          go_round
          case rel => exact ⟨1, s, by omega, by go_num, rfl, hs⟩
          case measure => simp [intOf]
    · obtain rfl : k = 1 := by omega
      obtain ⟨v3, h3, l3⟩ := xor32 IntKind.u32.max v
      go_wp2
      go_ret
      exact ⟨⟨v3, rfl, l3⟩, rfl⟩
end Go.Proofs.YtcmoglbmngmgnaaDoor
