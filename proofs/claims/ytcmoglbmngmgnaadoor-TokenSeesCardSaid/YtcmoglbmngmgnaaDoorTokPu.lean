/- strconv.ParseUint to the base 16, of sixteen letters. -/
import Derived.Test.YtcmoglbmngmgnaaDoorTokRef
set_option linter.unusedSimpArgs false
set_option linter.unusedVariables false
namespace Go.Proofs.YtcmoglbmngmgnaaDoor
open Go.RowKit Go.Sort Go.Op

def lowN (c : Nat) : Nat := if c % 64 < 32 then c + 32 else c
def hv (c : Nat) : Option Nat := if 48 ≤ c ∧ c ≤ 57 then some (c - 48) else if 97 ≤ lowN c ∧ lowN c ≤ 102 then some (lowN c - 87) else none
def foldH : List UInt8 → Nat → Option Nat
  | [], n => some n
  | c :: t, n => match hv c.toNat with
    | none => none
    | some d => foldH t (n * 16 + d)
theorem foldH_none {c : UInt8} {t : List UInt8} {n : Nat} (h : hv c.toNat = none) : foldH (c :: t) n = none := by simp [foldH, h]
theorem foldH_some {c : UInt8} {t : List UInt8} {n d : Nat} (h : hv c.toNat = some d) : foldH (c :: t) n = foldH t (n * 16 + d) := by simp [foldH, h]
theorem or32 (c : Nat) (h : c ≤ 255) : bits .or .u8 (c : Int) 32 = (lowN c : Int) := by
  have : ∀ i : Fin 256, bits .or .u8 (i.val : Int) 32 = (lowN i.val : Int) := by decide +kernel
  exact this ⟨c, by omega⟩
theorem w8 (x : Int) (h0 : 0 ≤ x) (h1 : x ≤ 255) : IntKind.u8.wrap x = x := by
  have : IntKind.u8.wrap x = x % 256 := by simp [IntKind.wrap, IntKind.bits, IntKind.signed]
  rw [this]; omega
theorem lowN_le {c : Nat} (h : c ≤ 255) : lowN c ≤ 255 := by unfold lowN; split <;> omega
theorem lower_is (c : Nat) (w : World) (h : c ≤ 255) : Calls Tryd.prog 40 #[.int .u8 (c : Int)] w fun e w' => e = .returned (.int .u8 (lowN c : Int)) ∧ w = w' := by
  have h1 := or32 c h
  generalize lowN c = d at *
  go_enter Tryd.func40, Tryd.ntmps40
  go_wp2
  go_ret
  exact ⟨rfl, rfl⟩
theorem strO_at (l : List UInt8) (j : Nat) (h : j < l.length) : ((strO l).data.toList.getD j 0).toNat = l[j].toNat := by
  show (l.toArray.toList.getD j 0).toNat = _
  simp [List.getD_eq_getElem?_getD, h]
theorem strO_size (l : List UInt8) : (strO l).size = l.length := by simp [strO, ByteArray.size]
/-- What the numeral tells, or the error. -/
def PuRes (l : List UInt8) (e : Ending) : Prop := (∃ X : Nat, foldH l 0 = some X ∧ X < 18446744073709551616 ∧ e = .returned (.tuple #[.int .u64 (X : Int), .nilIface])) ∨ (foldH l 0 = none ∧ e = .returned (.tuple #[.int .u64 0, .iface 79 (.int .i64 2)]))
set_option maxRecDepth 100000 in
set_option maxHeartbeats 4000000 in
theorem int_pu (l : List UInt8) (w : World) (hl : l.length = 16) :
    Calls Tryd.prog 29 #[.string (strO l), .int .i64 16, .int .i64 64] w fun e w' => PuRes l e ∧ Below w.heap.size w w' := by
  have hne : (strO l).toList.isEmpty = false := by
    rw [ByteArray.toList_eq]
    have h3 : (strO l).data.toList = l := by simp [strO]
    rw [h3]
    cases l with
    | nil => simp at hl
    | cons a b => rfl
  have hsz : (strO l).size = 16 := by rw [strO_size, hl]
  have hcv := Lib.run_convert_string_bytes (P := Tryd.prog) w 9 39 5 (strO l) Tryd.underlying9 Tryd.underlying39 Tryd.underlying5
  have HK3 := Lib.hid (bytesWorld_below w 5 (strO l))
  have hcl := bytesWorld_cellsV w 5 (strO l)
  have hz3 := Lib.bytesWorld_size w 5 (strO l)
  rw [hsz] at hcv hcl
  generalize grownCap w 16 0 5 = cp at *
  have HCL : Hid (∀ (j : Nat) (q : j < l.length), (Lib.bytesWorld w 5 (strO l)).cell? ⟨w.heap.size, j, none⟩ = some (.int .u8 (l[j].toNat : Int)) ∧ l[j].toNat ≤ 255) := Lib.hid (fun j q => by
    have := hcl j (by omega)
    rwa [strO_at l j q] at this)
  generalize Lib.bytesWorld w 5 (strO l) = w3 at *
  have HL := Lib.hid hl
  clear hcl hsz hl
  generalize strO l = S at *
  have HMV : Hid (∀ x : Nat, (x : Int) ≤ 18446744073709551615 → decide (IntKind.u64.wrap (IntKind.u64.wrap 18446744073709551616 - 1) < (x : Int)) = false) := Lib.hid (fun x hx => by
    have u0 : IntKind.u64.wrap (IntKind.u64.wrap 18446744073709551616 - 1) = 18446744073709551615 := by decide
    rw [u0]
    simp
    omega)
  go_enter Tryd.func29, Tryd.ntmps29
  go_wp2
  go_loop [12, 13, 101] (fun u n i => ∃ (j v : Nat), j ≤ 16 ∧ u = .bool false ∧ i = .int .i64 j ∧ n = .int .u64 v ∧ Hid (v < 16 ^ j ∧ foldH l 0 = foldH (l.drop j) v)) (fun _ _ i => 16 - (intOf i).toNat)
  case atStart => exact ⟨0, 0, by omega, rfl, rfl, rfl, Lib.hid ⟨by decide, by simp⟩⟩
  case round =>
    obtain ⟨j, v, hj, rfl, rfl, rfl, HV⟩ := hrel
    by_cases hlt : j < 16
    · have hj16 : j < l.length := by have := HL.out; omega
      obtain ⟨hcell, hb1⟩ := HCL.out j hj16
      have HF := HV.out.2
      rw [List.drop_eq_getElem_cons hj16] at HF
      have lj : (j : Int) < 16 := by omega
      have hvb : v < 1152921504606846976 := by
        have h1 := HV.out.1
        have h2 : (16 : Nat) ^ j ≤ 16 ^ 15 := Nat.pow_le_pow_right (by omega) (by omega)
        have : (16 : Nat) ^ 15 = 1152921504606846976 := by decide
        omega
      have t9 : decide ((1152921504606846976 : Int) ≤ (v : Int)) = false := by simp; omega
      have HP : Hid (v < 16 ^ j) := Lib.hid HV.out.1
      clear HV
      generalize l[j] = cc at *
      have HN : Hid (hv cc.toNat = none → foldH l 0 = none) := Lib.hid (fun h => by rw [HF, foldH_none h])
      have HS : Hid (∀ d, hv cc.toNat = some d → foldH l 0 = foldH (l.drop (j + 1)) (v * 16 + d)) := Lib.hid (fun d h => by rw [HF, foldH_some h])
      clear HF
      generalize cc.toNat = c at *
      have HLW := Lib.hid (fun W => lower_is c W hb1)
      have hlw := lowN_le hb1
      have HNX : Hid (∀ d : Nat, d < 16 → v * 16 + d < 16 ^ (j + 1)) := Lib.hid (fun d hd => by have := HP.out; rw [Nat.pow_succ]; omega)
      have hd16 : ∀ d : Nat, d < 16 → IntKind.u64.wrap (d : Int) = (d : Int) := fun d hd => IntWalk.u64_in _ (by omega)
      have t10 : IntKind.u64.wrap ((v : Int) * 16) = ((v * 16 : Nat) : Int) := by rw [IntWalk.u64_in _ (by omega)]; omega
      obtain ⟨m, hm⟩ : ∃ m, v * 16 = m := ⟨_, rfl⟩
      rw [hm] at t10
      have hmb : m ≤ 18446744073709551600 := by omega
      rw [hm] at HNX HS
      by_cases hdig : 48 ≤ c ∧ c ≤ 57
      · obtain ⟨d, hd⟩ : ∃ d, c - 48 = d := ⟨_, rfl⟩
        have HD : Hid (hv c = some d) := Lib.hid (by unfold hv; rw [if_pos hdig, hd])
        have t1 : ((c : Int) == 95) = false := by simp; omega
        have t2 : decide ((48 : Int) ≤ (c : Int)) = true := by simp; omega
        have t3 : decide ((c : Int) ≤ 57) = true := by simp; omega
        have t4 : IntKind.u8.wrap ((c : Int) - 48) = (d : Int) := by rw [w8 _ (by omega) (by omega)]; omega
        have t5 : decide ((16 : Int) ≤ (d : Int)) = false := by simp; omega
        have t6 := hd16 d (by omega)
        obtain ⟨m2, hm2⟩ : ∃ m2, m + d = m2 := ⟨_, rfl⟩
        have t7 : IntKind.u64.wrap ((m : Int) + (d : Int)) = (m2 : Int) := by rw [IntWalk.u64_in _ (by omega)]; omega
        have t8 : m ≤ m2 := by omega
        have t11 := HMV.out m2 (by omega)
        have HR : Hid (m2 < 16 ^ (j + 1) ∧ foldH l 0 = foldH (l.drop (j + 1)) m2) := Lib.hid (hm2 ▸ ⟨HNX.out d (by omega), HS.out d HD.out⟩)
        clear hdig HD HN HS HNX hd16 HP hm hm2 hd HLW hlw
        go_wp2
        go_round
        case rel => exact ⟨j + 1, m2, by omega, rfl, by go_num, rfl, HR.out⟩
        case measure => simp [intOf]; omega
      · have HNO : Hid (∀ d, hv c = some d → 97 ≤ lowN c ∧ lowN c ≤ 102 ∧ d = lowN c - 87) := Lib.hid (fun d h => by
          unfold hv at h
          rw [if_neg hdig] at h
          split at h
          · injection h with h; omega
          · cases h)
        have HBAD : Hid (¬ (97 ≤ lowN c ∧ lowN c ≤ 102) → foldH l 0 = none) := Lib.hid (fun h => HN.out (by unfold hv; rw [if_neg hdig, if_neg h]))
        have HGOOD : Hid (97 ≤ lowN c ∧ lowN c ≤ 102 → hv c = some (lowN c - 87)) := Lib.hid (fun h => by unfold hv; rw [if_neg hdig, if_pos h])
        have hq0 : c < 48 → lowN c < 97 := fun h => by unfold lowN; split <;> omega
        have hq1 : c = 95 → lowN c = 127 := fun h => by subst h; decide
        clear HNO
        generalize lowN c = q at *
        have hqi : (q : Int) ≤ 255 := by omega
        by_cases c48 : c < 48
        · have t1 : ((c : Int) == 95) = false := by simp; omega
          have t2 : decide ((48 : Int) ≤ (c : Int)) = false := by simp; omega
          have hq := hq0 c48
          have t3 : decide ((97 : Int) ≤ (q : Int)) = false := by simp; omega
          have HE := Lib.hid (HBAD.out (by omega))
          clear hdig HN HS HNX hd16 HP hm HBAD HGOOD hq0 hq1 hq
          go_wp2_with (go_at_call 40; refine (HLW.out _).mono ?_; rintro e w' ⟨rfl, rfl⟩)
          go_ret2
          exact ⟨Or.inr ⟨HE.out, rfl⟩, HK3.out⟩
        have t2 : decide ((48 : Int) ≤ (c : Int)) = true := by simp; omega
        have t3 : decide ((c : Int) ≤ 57) = false := by simp; omega
        by_cases c95 : c = 95
        · have hq := hq1 c95
          have t1 : ((c : Int) == 95) = true := by simp; omega
          have t4 : decide ((97 : Int) ≤ (q : Int)) = true := by simp; omega
          have t5 : decide ((q : Int) ≤ 122) = false := by simp; omega
          have HE := Lib.hid (HBAD.out (by omega))
          clear hdig HN HS HNX hd16 HP hm HBAD HGOOD hq0 hq1 hq c95
          go_wp2_with (go_at_call 40; refine (HLW.out _).mono ?_; rintro e w' ⟨rfl, rfl⟩)
          go_ret2
          exact ⟨Or.inr ⟨HE.out, rfl⟩, HK3.out⟩
        have t1 : ((c : Int) == 95) = false := by simp; omega
        by_cases q97 : 97 ≤ q
        · have t4 : decide ((97 : Int) ≤ (q : Int)) = true := by simp; omega
          by_cases q122 : q ≤ 122
          · have t5 : decide ((q : Int) ≤ 122) = true := by simp; omega
            obtain ⟨r, hr⟩ : ∃ r, q - 97 = r := ⟨_, rfl⟩
            obtain ⟨d, hd⟩ : ∃ d, r + 10 = d := ⟨_, rfl⟩
            have t6 : IntKind.u8.wrap ((q : Int) - 97) = (r : Int) := by rw [w8 _ (by omega) (by omega)]; omega
            have t12 : IntKind.u8.wrap ((r : Int) + 10) = (d : Int) := by rw [w8 _ (by omega) (by omega)]; omega
            by_cases q102 : q ≤ 102
            · have HD : Hid (hv c = some d) := Lib.hid (by rw [HGOOD.out (by omega)]; congr 1; omega)
              have t13 : decide ((16 : Int) ≤ (d : Int)) = false := by simp; omega
              have t14 := hd16 d (by omega)
              obtain ⟨m2, hm2⟩ : ∃ m2, m + d = m2 := ⟨_, rfl⟩
              have t7 : IntKind.u64.wrap ((m : Int) + (d : Int)) = (m2 : Int) := by rw [IntWalk.u64_in _ (by omega)]; omega
              have t8 : m ≤ m2 := by omega
              have t11 := HMV.out m2 (by omega)
              have HR : Hid (m2 < 16 ^ (j + 1) ∧ foldH l 0 = foldH (l.drop (j + 1)) m2) := Lib.hid (hm2 ▸ ⟨HNX.out d (by omega), HS.out d HD.out⟩)
              clear hdig HN HS HNX hd16 HP hm HBAD HGOOD hq0 hq1 HD hm2 hd hr c95 c48 q97 q122 q102
              go_wp2_with (go_at_call 40; refine (HLW.out _).mono ?_; rintro e w' ⟨rfl, rfl⟩)
              go_round
              case rel => exact ⟨j + 1, m2, by omega, rfl, by go_num, rfl, HR.out⟩
              case measure => simp [intOf]; omega
            · have t13 : decide ((16 : Int) ≤ (d : Int)) = true := by simp; omega
              have HE := Lib.hid (HBAD.out (by omega))
              clear hdig HN HS HNX hd16 HP hm HBAD HGOOD hq0 hq1 hd hr c95 c48 q97 q122 q102
              go_wp2_with (go_at_call 40; refine (HLW.out _).mono ?_; rintro e w' ⟨rfl, rfl⟩)
              go_ret2
              exact ⟨Or.inr ⟨HE.out, rfl⟩, HK3.out⟩
          · have t5 : decide ((q : Int) ≤ 122) = false := by simp; omega
            have HE := Lib.hid (HBAD.out (by omega))
            clear hdig HN HS HNX hd16 HP hm HBAD HGOOD hq0 hq1 c95 c48 q97 q122
            go_wp2_with (go_at_call 40; refine (HLW.out _).mono ?_; rintro e w' ⟨rfl, rfl⟩)
            go_ret2
            exact ⟨Or.inr ⟨HE.out, rfl⟩, HK3.out⟩
        · have t4 : decide ((97 : Int) ≤ (q : Int)) = false := by simp; omega
          have HE := Lib.hid (HBAD.out (by omega))
          clear hdig HN HS HNX hd16 HP hm HBAD HGOOD hq0 hq1 c95 c48 q97
          go_wp2_with (go_at_call 40; refine (HLW.out _).mono ?_; rintro e w' ⟨rfl, rfl⟩)
          go_ret2
          exact ⟨Or.inr ⟨HE.out, rfl⟩, HK3.out⟩
    · obtain rfl : j = 16 := by omega
      have hX : v < 18446744073709551616 := by
        have h1 := HV.out.1
        have : (16 : Nat) ^ 16 = 18446744073709551616 := by decide
        omega
      have HE : Hid (foldH l 0 = some v) := Lib.hid (by rw [HV.out.2, List.drop_of_length_le (by have := HL.out; omega)]; rfl)
      go_wp2
      go_ret2
      exact ⟨Or.inl ⟨v, HE.out, hX, rfl⟩, HK3.out⟩
end Go.Proofs.YtcmoglbmngmgnaaDoor
