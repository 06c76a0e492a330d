/- octet.Sum of one row; the reference's Sum: one number. -/
import Derived.Test.YtdffldlcbihjmaaDoorCrc
set_option linter.unusedSimpArgs false
set_option linter.unusedVariables false
namespace Go.Proofs.YtdffldlcbihjmaaDoor
open Go.RowKit Go.Sort

theorem crcL_take (s : Nat) (l : List Int) (j : Nat) (h : j < l.length) : crcL s (l.take (j + 1)) = crcB (crcL s (l.take j)) l[j].toNat := by
  rw [List.take_succ_eq_append_getElem h, crcL_append]
  rfl
set_option maxRecDepth 100000 in
set_option maxHeartbeats 4000000 in
theorem oct_sum (g c cc : Nat) (A : Option Addr) (l : List Int) (w : World) (ht : Nib w) (hg : w.cell? ⟨g, 0, none⟩ = some (.slice A l.length cc)) (hby : ByL w A l) (hb : isBy l) (hn : l.length ≤ 1000000) :
    Calls Tryd.prog 83 #[.slice (some ⟨g, 0, none⟩) 1 c] w fun e w' => e = .returned (.int .u32 (sumL l : Nat)) ∧ w = w' := by
  have HT := Lib.hid (fun i hi => nib_cell ht i hi)
  have HB := Lib.hid (And.intro hby hb)
  have HLE := Lib.hid (sumL_le hb)
  have hni : (l.length : Int) ≤ 1000000 := by omega
  have HS : Hid (sumL l = 4294967295 ^^^ crcL 4294967295 l) := Lib.hid rfl
  clear ht hby hb
  go_enter Tryd.func83, Tryd.ntmps83
  go_wp2
  go_loop [3, 10] (fun s i => ∃ (k : Nat) (v : Nat), k ≤ 1 ∧ i = .int .i64 k ∧ s = .int .u32 v ∧ v ≤ 4294967295 ∧ (k = 0 → v = 4294967295) ∧ (k = 1 → v = crcL 4294967295 l)) (fun _ i => 1 - (intOf i).toNat)
  case atStart => exact ⟨0, 4294967295, by omega, rfl, rfl, by omega, fun _ => rfl, fun h => by omega⟩
  case round =>
    obtain ⟨k, v, hk, rfl, rfl, hv, hv0, hv1⟩ := hrel
    by_cases hk0 : k = 0
    · subst hk0
      obtain rfl := hv0 rfl
      clear hv0 hv1
      go_wp2
      go_loop [3, 16] (fun s i => ∃ (j : Nat) (v : Nat), j ≤ l.length ∧ i = .int .i64 j ∧ s = .int .u32 v ∧ v ≤ 4294967295 ∧ Hid (v = crcL 4294967295 (l.take j))) (fun _ i => l.length - (intOf i).toNat)
      case atStart => exact ⟨0, 4294967295, Nat.zero_le _, rfl, rfl, hv, Lib.hid rfl⟩
      case round =>
        obtain ⟨j, s, hj, rfl, rfl, hs, HSJ⟩ := hrel
        by_cases hlt : j < l.length
        · obtain ⟨B, O, rfl, hB, hcells⟩ := HB.out.1 (by omega)
          have hcell0 := hcells j _ (bC_at l j hlt)
          have hx := HB.out.2 l[j] (List.getElem_mem hlt)
          have HJ : Hid (crcL 4294967295 (l.take (j + 1)) = crcB (crcL 4294967295 (l.take j)) l[j].toNat) := Lib.hid (crcL_take _ l j hlt)
          have lj : (j : Int) < (l.length : Int) := by omega
          obtain ⟨b, hbe⟩ : ∃ b : Nat, l[j].toNat = b := ⟨_, rfl⟩
          have hbi : l[j] = (b : Int) := by omega
          rw [hbe] at HJ
          rw [hbi] at hcell0
          have hb1 : b ≤ 255 := by omega
          clear hcells hx hbe hbi
          have hwb : IntKind.u32.wrap (b : Int) = (b : Int) := IntWalk.u32_in _ (by omega)
          obtain ⟨h1, l1⟩ := xorN s b hs (by omega)
          have e1 := and15N (s ^^^ b) l1
          obtain ⟨c1, k1⟩ := HT.out ((s ^^^ b) % 16) (Nat.mod_lt _ (by decide))
          have d1 : (s ^^^ b) / 16 ≤ 4294967295 := by omega
          have M1 : Hid (crc4 (s ^^^ b) = (s ^^^ b) / 16 ^^^ (nibL.getD ((s ^^^ b) % 16) 0).toNat) := Lib.hid rfl
          obtain ⟨h2, l2⟩ := xorN ((s ^^^ b) / 16) ((nibL.getD ((s ^^^ b) % 16) 0).toNat) d1 k1
          rw [← M1.out] at h2 l2
          have g1 : (((s ^^^ b) % 16 : Nat) : Int) < 16 := by omega
          have q1 : ((s ^^^ b : Nat) : Int) / 16 = (((s ^^^ b) / 16 : Nat) : Int) := rfl
          obtain ⟨Q1, hQ1⟩ : ∃ q : Int, ((s ^^^ b : Nat) : Int) / 16 = q := ⟨_, rfl⟩
          rw [← q1, hQ1] at h2
          have HX : Hid (crcB s b = crc4 (crc4 (s ^^^ b))) := Lib.hid rfl
          generalize (nibL.getD ((s ^^^ b) % 16) 0).toNat = v1 at *
          generalize (s ^^^ b) % 16 = r1 at *
          clear q1 M1 d1
          generalize s ^^^ b = s1 at *
          have e2 := and15N (crc4 s1) l2
          obtain ⟨c2, k2⟩ := HT.out (crc4 s1 % 16) (Nat.mod_lt _ (by decide))
          have d2 : crc4 s1 / 16 ≤ 4294967295 := by omega
          have M2 : Hid (crc4 (crc4 s1) = crc4 s1 / 16 ^^^ (nibL.getD (crc4 s1 % 16) 0).toNat) := Lib.hid rfl
          obtain ⟨h3, l3⟩ := xorN (crc4 s1 / 16) ((nibL.getD (crc4 s1 % 16) 0).toNat) d2 k2
          rw [← M2.out] at h3 l3
          have g2 : ((crc4 s1 % 16 : Nat) : Int) < 16 := by omega
          have q2 : ((crc4 s1 : Nat) : Int) / 16 = ((crc4 s1 / 16 : Nat) : Int) := rfl
          obtain ⟨Q2, hQ2⟩ : ∃ q : Int, ((crc4 s1 : Nat) : Int) / 16 = q := ⟨_, rfl⟩
          rw [← q2, hQ2] at h3
          generalize (nibL.getD (crc4 s1 % 16) 0).toNat = v2 at *
          generalize crc4 s1 % 16 = r2 at *
          clear q2 M2 d2
          generalize crc4 s1 = s2 at *
          generalize crc4 s2 = s3 at *
          go_wp2
          go_round
          case rel => exact ⟨j + 1, s3, by omega, by go_num, rfl, l3, Lib.hid (by rw [HJ.out, ← HSJ.out, HX.out])⟩
          case measure => simp [intOf]; omega
        · obtain rfl : j = l.length := by omega
          go_wp2
          go_round
          case rel => exact ⟨1, s, by omega, by go_num, rfl, hs, fun h => by omega, fun _ => by rw [HSJ.out, List.take_length]⟩
          case measure => simp [intOf]
    · obtain rfl : k = 1 := by omega
      have hve := hv1 rfl
      obtain ⟨h3, l3⟩ := xorN 4294967295 v (by omega) hv
      have h3' : bits .xor .u32 IntKind.u32.max (v : Int) = ((4294967295 ^^^ v : Nat) : Int) := h3
      obtain ⟨v3, hv3⟩ : ∃ q, 4294967295 ^^^ v = q := ⟨_, rfl⟩
      rw [hv3] at h3' l3
      have HV : Hid (sumL l = v3) := Lib.hid (by rw [HS.out, ← hve, hv3])
      clear hve hv3 h3 l3 hv0 hv1
      go_wp2
      go_ret
      exact ⟨by rw [HV.out]; rfl, rfl⟩
set_option maxRecDepth 100000 in
set_option maxHeartbeats 4000000 in
theorem ref_sum (cc : Nat) (A : Option Addr) (l : List Int) (w : World) (hby : ByL w A l) (hb : isBy l) (hn : l.length ≤ 1000000) :
    Calls Tryd.prog 91 #[.slice A l.length cc] w fun e w' => e = .returned (.int .u32 (sumL l : Nat)) ∧ w = w' := by
  have HB := Lib.hid (And.intro hby hb)
  have hni : (l.length : Int) ≤ 1000000 := by omega
  have HSM : Hid (sumL l = 4294967295 ^^^ crcL 4294967295 l) := Lib.hid rfl
  clear hby hb
  go_enter Tryd.func91, Tryd.ntmps91
  go_wp2
  go_loop [3, 4] (fun s i => ∃ (j : Nat) (v : Nat), j ≤ l.length ∧ i = .int .i64 j ∧ s = .int .u32 v ∧ v ≤ 4294967295 ∧ Hid (v = crcL 4294967295 (l.take j))) (fun _ i => l.length - (intOf i).toNat)
  case atStart => exact ⟨0, 4294967295, Nat.zero_le _, rfl, rfl, by omega, Lib.hid rfl⟩
  case round =>
    obtain ⟨j, s, hj, rfl, rfl, hs, HS⟩ := hrel
    by_cases hlt : j < l.length
    · obtain ⟨B, O, rfl, hB, hcells⟩ := HB.out.1 (by omega)
      have hcell0 := hcells j _ (bC_at l j hlt)
      have hx := HB.out.2 l[j] (List.getElem_mem hlt)
      have HJ : Hid (crcL 4294967295 (l.take (j + 1)) = crcB (crcL 4294967295 (l.take j)) l[j].toNat) := Lib.hid (crcL_take _ l j hlt)
      have lj : (j : Int) < (l.length : Int) := by omega
      obtain ⟨b, hbe⟩ : ∃ b : Nat, l[j].toNat = b := ⟨_, rfl⟩
      have hbi : l[j] = (b : Int) := by omega
      rw [hbe] at HJ
      rw [hbi] at hcell0
      have hb1 : b ≤ 255 := by omega
      clear hcells hx hbe hbi
      have hwb : IntKind.u32.wrap (b : Int) = (b : Int) := IntWalk.u32_in _ (by omega)
      obtain ⟨h1, l1⟩ := xorN s b hs (by omega)
      have HX : Hid (crcB s b = crc4 (crc4 (s ^^^ b))) := Lib.hid rfl
      generalize s ^^^ b = s1 at *
      go_wp2
      go_loop [3, 5] (fun s i => ∃ (k : Nat) (v : Nat), k ≤ 8 ∧ i = .int .i64 k ∧ s = .int .u32 v ∧ v ≤ 4294967295 ∧ Hid (v = crcI k s1)) (fun _ i => 8 - (intOf i).toNat)
      case atStart => exact ⟨0, s1, by omega, rfl, rfl, l1, Lib.hid rfl⟩
      case round =>
        obtain ⟨k, v, hk, rfl, rfl, hv, HV⟩ := hrel
        by_cases hk8 : k < 8
        · have lk : (k : Int) < 8 := by omega
          have e1 := and1N v hv
          have q1 : (v : Int) / 2 = ((v / 2 : Nat) : Int) := rfl
          obtain ⟨Q, hQ⟩ : ∃ q : Int, (v : Int) / 2 = q := ⟨_, rfl⟩
          have HC : Hid (crcI (k + 1) s1 = crc1 (crcI k s1)) := Lib.hid rfl
          rcases Nat.mod_two_eq_zero_or_one v with h2 | h2
          · have HN : Hid (Q = ((crc1 v : Nat) : Int)) := Lib.hid (by rw [← hQ, q1]; unfold crc1; rw [if_neg (by omega)])
            have LN := Lib.hid (crc1_le v hv)
            rw [h2] at e1
            clear q1
            go_wp2
            go_round
            case rel => exact ⟨k + 1, crc1 v, by omega, by go_num, by rw [HN.out], LN.out, Lib.hid (by rw [HC.out, ← HV.out])⟩
            case measure => simp [intOf]; omega
          · obtain ⟨x1, x2⟩ := xorN (v / 2) 3988292384 (by omega) (by omega)
            have HN : Hid (v / 2 ^^^ 3988292384 = crc1 v) := Lib.hid (by unfold crc1; rw [if_pos h2])
            rw [HN.out, ← q1, hQ] at x1
            have x1' : bits .xor .u32 Q 3988292384 = ((crc1 v : Nat) : Int) := x1
            have LN := Lib.hid (crc1_le v hv)
            rw [h2] at e1
            have HC2 : Hid (crcI (k + 1) s1 = crc1 v) := Lib.hid (by rw [HC.out, ← HV.out])
            clear q1 x1 x2 HN HC
            generalize crc1 v = v' at *
            go_wp2
            go_round
            case rel => exact ⟨k + 1, v', by omega, by go_num, rfl, LN.out, Lib.hid HC2.out.symm⟩
            case measure => simp [intOf]; omega
        · obtain rfl : k = 8 := by omega
          go_wp2
          go_round
          case rel => exact ⟨j + 1, v, by omega, by go_num, rfl, hv, Lib.hid (by rw [HJ.out, ← HS.out, HX.out, HV.out, crcI_eight])⟩
          case measure => simp [intOf]; omega
    · obtain rfl : j = l.length := by omega
      obtain ⟨h3, l3⟩ := xorN 4294967295 s (by omega) hs
      have h3' : bits .xor .u32 IntKind.u32.max (s : Int) = ((4294967295 ^^^ s : Nat) : Int) := h3
      obtain ⟨v3, hv3⟩ : ∃ q, 4294967295 ^^^ s = q := ⟨_, rfl⟩
      rw [hv3] at h3'
      have HV : Hid (sumL l = v3) := Lib.hid (by rw [HSM.out, ← hv3, HS.out, List.take_length])
      clear hv3 h3 l3
      go_wp2
      go_ret
      exact ⟨by rw [HV.out]; rfl, rfl⟩
end Go.Proofs.YtdffldlcbihjmaaDoor
