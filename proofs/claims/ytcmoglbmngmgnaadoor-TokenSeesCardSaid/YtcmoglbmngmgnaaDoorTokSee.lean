/- One byte that is another one: the check sum tells it (plain mathematics). -/
import Derived.Test.YtcmoglbmngmgnaaDoorTokRPar
set_option linter.unusedSimpArgs false
set_option linter.unusedVariables false
namespace Go.Proofs.YtcmoglbmngmgnaaDoor
open Go.RowKit Go.Sort Go.Op

theorem xor_right_inj {a b k : Nat} (h : a ^^^ k = b ^^^ k) : a = b := by
  have := congrArg (· ^^^ k) h
  simpa [Nat.xor_assoc] using this
theorem xor_left_inj {a b k : Nat} (h : k ^^^ a = k ^^^ b) : a = b := by
  rw [Nat.xor_comm k a, Nat.xor_comm k b] at h
  exact xor_right_inj h
theorem crc4_inj {c c' : Nat} (h : c ≤ 4294967295) (h' : c' ≤ 4294967295) (e : crc4 c = crc4 c') : c = c' := by
  unfold crc4 at e
  have e1 := congrArg (· / 2 ^ 28) e
  simp only [Nat.xor_div_two_pow] at e1
  have p : (2 : Nat) ^ 28 = 268435456 := by decide
  have z1 : c / 16 / 2 ^ 28 = 0 := by rw [p]; omega
  have z2 : c' / 16 / 2 ^ 28 = 0 := by rw [p]; omega
  rw [z1, z2, Nat.zero_xor, Nat.zero_xor] at e1
  have hd : ∀ i j : Fin 16, (nibL.getD i.val 0).toNat / 2 ^ 28 = (nibL.getD j.val 0).toNat / 2 ^ 28 → i.val = j.val := by decide
  have hm := hd ⟨c % 16, Nat.mod_lt _ (by decide)⟩ ⟨c' % 16, Nat.mod_lt _ (by decide)⟩ e1
  simp only at hm
  rw [hm] at e
  have := xor_right_inj e
  omega
theorem xor_le {a b : Nat} (h : a ≤ 4294967295) (k : b ≤ 4294967295) : a ^^^ b ≤ 4294967295 := by
  have := Nat.xor_lt_two_pow (n := 32) (x := a) (y := b) (by omega) (by omega)
  omega
theorem crcB_inj_s {s s' b : Nat} (h : s ≤ 4294967295) (h' : s' ≤ 4294967295) (hb : b ≤ 255) (e : crcB s b = crcB s' b) : s = s' := by
  unfold crcB at e
  have l := xor_le h (show b ≤ 4294967295 by omega)
  have l' := xor_le h' (show b ≤ 4294967295 by omega)
  exact xor_right_inj (crc4_inj l l' (crc4_inj (crc4_le _ l) (crc4_le _ l') e))
theorem crcB_inj_b {s b b' : Nat} (h : s ≤ 4294967295) (hb : b ≤ 255) (hb' : b' ≤ 255) (e : crcB s b = crcB s b') : b = b' := by
  unfold crcB at e
  have l := xor_le h (show b ≤ 4294967295 by omega)
  have l' := xor_le h (show b' ≤ 4294967295 by omega)
  exact xor_left_inj (crc4_inj l l' (crc4_inj (crc4_le _ l) (crc4_le _ l') e))
theorem crcT_same {z z' : Nat → Nat} {s : Nat} : ∀ n, (∀ j, j < n → z j = z' j) → crcT z s n = crcT z' s n
  | 0, _ => rfl
  | n + 1, h => by
    show crcB _ _ = crcB _ _
    rw [crcT_same n (fun j hj => h j (by omega)), h n (by omega)]
theorem crcT_one {z z' : Nat → Nat} {s i : Nat} (hs : s ≤ 4294967295) (hz : ∀ j, z j ≤ 255) (hz' : ∀ j, z' j ≤ 255) (hi : z i ≠ z' i) : ∀ n, i < n → (∀ j, j < n → j ≠ i → z j = z' j) → crcT z s n ≠ crcT z' s n
  | 0, h, _ => absurd h (by omega)
  | n + 1, h, he => by
    intro e
    have e' : crcB (crcT z s n) (z n) = crcB (crcT z' s n) (z' n) := e
    by_cases hn : n = i
    · subst hn
      rw [crcT_same (z := z) (z' := z') n (fun j hj => he j (by omega) (by omega))] at e'
      exact hi (crcB_inj_b (crcT_le z' hz' s hs n) (hz n) (hz' n) e')
    · rw [he n (by omega) hn] at e'
      exact crcT_one hs hz hz' hi n (by omega) (fun j hj => he j (by omega)) (crcB_inj_s (crcT_le z hz s hs n) (crcT_le z' hz' s hs n) (hz' n) e')
theorem u8_le (b : UInt8) : b.toNat ≤ 255 := by have := b.toNat_lt; omega
/-- The bytes that a token's sum is of. -/
theorem head_list (X : Nat) (hX : X < 18446744073709551616) : (⟨#[109]⟩ ++ hexP 16 X : ByteArray).data.toList = [109] ++ fixH 16 X := by
  have p16 : (16 : Nat) ^ 16 = 18446744073709551616 := by decide
  rw [hexP_fix 15 X (by omega) (by rw [p16]; exact hX)]
  simp [strO]
theorem one_other (X : Nat) (hX : X < 18446744073709551616) (i : Nat) (hi : i < 26) (v : UInt8) (hv : ∀ u, (tokT X (sumH X)).data.toList[i]? = some u → u ≠ v) : tokV (strO ((tokT X (sumH X)).data.toList.set i v)) = none := by
  cases hT : tokV (strO ((tokT X (sumH X)).data.toList.set i v)) with
  | none => rfl
  | some Y =>
    exfalso
    obtain ⟨hY, e⟩ := tokV_inv hT
    have p16 : (16 : Nat) ^ 16 = 18446744073709551616 := by decide
    have p8 : (16 : Nat) ^ 8 = 4294967296 := by decide
    have hx := sumH_le X
    have hy := sumH_le Y
    have el : (tokT Y (sumH Y)).data.toList = (tokT X (sumH X)).data.toList.set i v := by rw [e]; simp [strO]
    have lX := tokT_list X (sumH X) (by rw [p16]; exact hX) (by rw [p8]; omega)
    have lY := tokT_list Y (sumH Y) (by rw [p16]; exact hY) (by rw [p8]; omega)
    have hl : (tokT X (sumH X)).data.toList.length = 26 := by rw [lX]; simp [fixH_len]
    have hother : ∀ j, j ≠ i → (tokT Y (sumH Y)).data.toList[j]? = (tokT X (sumH X)).data.toList[j]? := fun j hj => by
      rw [el, List.getElem?_set_ne (fun h => hj h.symm)]
    have hat : (tokT Y (sumH Y)).data.toList[i]? = some v := by
      rw [el, List.getElem?_set_self (by omega)]
    by_cases hXY : Y = X
    · subst hXY
      exact hv v hat rfl
    · -- the digits part somewhere: there stands the one byte
      have hfix : fixH 16 Y ≠ fixH 16 X := fun h => hXY (by
        have := fixH_inj 16 Y X (by rw [p16]; exact hY) (by rw [p16]; exact hX)
        rw [h] at this
        simpa using this)
      have hdig : ∀ Z y, Z < 18446744073709551616 → y ≤ 4294967295 → ∀ j, j < 16 → (tokT Z y).data.toList[j + 1]? = (fixH 16 Z)[j]? := fun Z y hZ hyy j hj => by
        rw [tokT_list Z y (by rw [p16]; exact hZ) (by rw [p8]; omega), List.getElem?_append_left (by simp [fixH_len]; omega), List.singleton_append, List.getElem?_cons_succ]
      have hi16 : 1 ≤ i ∧ i ≤ 16 := by
        refine Classical.byContradiction fun hn => hfix ?_
        apply List.ext_getElem?
        intro j
        by_cases hj : j < 16
        · rw [← hdig Y _ hY hy j hj, ← hdig X _ hX hx j hj]
          exact hother (j + 1) (by omega)
        · rw [List.getElem?_eq_none (by rw [fixH_len]; omega), List.getElem?_eq_none (by rw [fixH_len]; omega)]
      -- so the sums' digits are the same
      have hsum : sumH Y = sumH X := by
        have hs : ∀ Z y, Z < 18446744073709551616 → y ≤ 4294967295 → ∀ j, j < 8 → (tokT Z y).data.toList[j + 18]? = (fixH 8 y)[j]? := fun Z y hZ hyy j hj => by
          rw [tokT_list Z y (by rw [p16]; exact hZ) (by rw [p8]; omega), List.getElem?_append_right (by simp [fixH_len]), List.singleton_append]
          have : j + 18 - ([109] ++ fixH 16 Z).length = j + 1 := by simp [fixH_len]
          rw [this, List.getElem?_cons_succ]
        have hfx : fixH 8 (sumH Y) = fixH 8 (sumH X) := by
          apply List.ext_getElem?
          intro j
          by_cases hj : j < 8
          · rw [← hs Y _ hY hy j hj, ← hs X _ hX hx j hj]
            exact hother (j + 18) (by omega)
          · rw [List.getElem?_eq_none (by rw [fixH_len]; omega), List.getElem?_eq_none (by rw [fixH_len]; omega)]
        have := fixH_inj 8 (sumH Y) (sumH X) (by rw [p8]; omega) (by rw [p8]; omega)
        rw [hfx] at this
        simpa using this
      -- but they are of rows that part at one byte
      have hh : ∀ Z y, Z < 18446744073709551616 → y ≤ 4294967295 → ∀ j, j < 17 → ((⟨#[109]⟩ ++ hexP 16 Z : ByteArray).data.toList.getD j 0) = (tokT Z y).data.toList.getD j 0 := fun Z y hZ hyy j hj => by
        rw [head_list Z hZ, tokT_list Z y (by rw [p16]; exact hZ) (by rw [p8]; omega), List.getD_eq_getElem?_getD, List.getD_eq_getElem?_getD, show ([109] ++ fixH 16 Z ++ ([45] ++ fixH 8 y))[j]? = ([109] ++ fixH 16 Z)[j]? from List.getElem?_append_left (by simp [fixH_len]; omega)]
      unfold sumH at hsum
      have hc := xor_left_inj hsum
      refine crcT_one (i := i) (by omega) (fun j => u8_le _) (fun j => u8_le _) ?_ 17 (by omega) ?_ hc
      · rw [hh Y (sumH Y) hY hy i (by omega), hh X (sumH X) hX hx i (by omega)]
        have g1 : (tokT Y (sumH Y)).data.toList.getD i 0 = v := by rw [List.getD_eq_getElem?_getD, hat]; rfl
        obtain ⟨u, hu⟩ : ∃ u, (tokT X (sumH X)).data.toList[i]? = some u := ⟨_, List.getElem?_eq_getElem (by omega)⟩
        have g2 : (tokT X (sumH X)).data.toList.getD i 0 = u := by rw [List.getD_eq_getElem?_getD, hu]; rfl
        rw [g1, g2]
        intro h
        exact hv u hu (UInt8.toNat_inj.1 h).symm
      · intro j hj hji
        rw [hh Y (sumH Y) hY hy j (by omega), hh X (sumH X) hX hx j (by omega)]
        rw [List.getD_eq_getElem?_getD, List.getD_eq_getElem?_getD, hother j hji]
end Go.Proofs.YtcmoglbmngmgnaaDoor
