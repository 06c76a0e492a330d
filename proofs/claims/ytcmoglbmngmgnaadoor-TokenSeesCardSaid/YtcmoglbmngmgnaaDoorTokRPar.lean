/- The reference's Parse of any text: the same answer. -/
import Derived.Test.YtcmoglbmngmgnaaDoorTokPar
import Derived.Test.YtcmoglbmngmgnaaDoorTokRPrt
set_option linter.unusedSimpArgs false
set_option linter.unusedVariables false
namespace Go.Proofs.YtcmoglbmngmgnaaDoor
open Go.RowKit Go.Sort Go.Op

def hr (c : Nat) : Option Nat := if 48 ≤ c ∧ c ≤ 57 then some (c - 48) else if 97 ≤ c ∧ c ≤ 102 then some (c - 87) else none
def foldR : List UInt8 → Nat → Option Nat
  | [], n => some n
  | c :: t, n => match hr c.toNat with
    | none => none
    | some d => foldR t (n * 16 + d)
theorem foldR_none {c : UInt8} {t : List UInt8} {n : Nat} (h : hr c.toNat = none) : foldR (c :: t) n = none := by simp [foldR, h]
theorem foldR_some {c : UInt8} {t : List UInt8} {n d : Nat} (h : hr c.toNat = some d) : foldR (c :: t) n = foldR t (n * 16 + d) := by simp [foldR, h]
theorem hr_hv {c d : Nat} (h : hr c = some d) : hv c = some d := by
  unfold hr at h
  unfold hv
  split at h
  · rename_i k
    rw [if_pos k]; exact h
  · rename_i k
    split at h
    · rename_i k2
      rw [if_neg k]
      have : lowN c = c := by unfold lowN; split <;> omega
      rw [this, if_pos k2]; exact h
    · cases h
theorem foldR_H : ∀ (l : List UInt8) (n X : Nat), foldR l n = some X → foldH l n = some X
  | [], n, X, h => h
  | c :: t, n, X, h => by
    cases hd : hr c.toNat with
    | none => rw [foldR_none hd] at h; cases h
    | some d => rw [foldR_some hd] at h; rw [foldH_some (hr_hv hd)]; exact foldR_H t _ X h
theorem hr_hdV (d : Nat) (h : d < 16) : hr (hdV d).toNat = some d := by
  have : ∀ i : Fin 16, hr (hdV i.val).toNat = some i.val := by decide
  exact this ⟨d, h⟩
theorem foldR_fix : ∀ (n X v : Nat) (t : List UInt8), foldR (fixH n X ++ t) v = foldR t (v * 16 ^ n + X % 16 ^ n)
  | 0, X, v, t => by simp [fixH, Nat.mod_one]
  | n + 1, X, v, t => by
    rw [fixH, List.append_assoc, foldR_fix n (X / 16) v, List.singleton_append, foldR_some (hr_hdV (X % 16) (Nat.mod_lt _ (by decide)))]
    congr 1
    rw [Nat.pow_succ, Nat.mul_comm (16 ^ n) 16, Nat.mod_mul, ← Nat.mul_assoc, Nat.mul_comm v 16, Nat.mul_assoc, Nat.add_mul]
    have : v * 16 ^ n * 16 = 16 * (v * 16 ^ n) := Nat.mul_comm _ _
    omega
theorem foldR_fix16 (X : Nat) (h : X < 18446744073709551616) : foldR (fixH 16 X) 0 = some X := by
  have p16 : (16 : Nat) ^ 16 = 18446744073709551616 := by decide
  have := foldR_fix 16 X 0 []
  rw [List.append_nil, Nat.zero_mul, Nat.zero_add, p16, Nat.mod_eq_of_lt h] at this
  exact this
theorem tokT_digits (X y : Nat) (hX : X < 18446744073709551616) (hy : y ≤ 4294967295) : ((tokT X y).data.toList.drop 1).take 16 = fixH 16 X := by
  have p16 : (16 : Nat) ^ 16 = 18446744073709551616 := by decide
  have p8 : (16 : Nat) ^ 8 = 4294967296 := by decide
  rw [tokT_list X y (by rw [p16]; exact hX) (by rw [p8]; omega)]
  rw [List.append_assoc, List.singleton_append, List.drop_succ_cons, List.drop_zero]
  have h16 := fixH_len 16 X
  rw [List.take_append_of_le_length (by omega), List.take_of_length_le (by omega)]
theorem tokT_size (X y : Nat) (hX : X < 18446744073709551616) (hy : y ≤ 4294967295) : (tokT X y).size = 26 := by
  have p16 : (16 : Nat) ^ 16 = 18446744073709551616 := by decide
  have p8 : (16 : Nat) ^ 8 = 4294967296 := by decide
  show (tokT X y).data.size = 26
  rw [← Array.length_toList, tokT_list X y (by rw [p16]; exact hX) (by rw [p8]; omega)]
  simp [fixH_len]
theorem foldH_lt : ∀ (l : List UInt8) (n X k : Nat), n < 16 ^ k → foldH l n = some X → X < 16 ^ (k + l.length)
  | [], n, X, k, h, e => by injection e with e; subst e; exact h
  | c :: t, n, X, k, h, e => by
    cases hd : hv c.toNat with
    | none => rw [foldH_none hd] at e; cases e
    | some d =>
      rw [foldH_some hd] at e
      have hd16 : d < 16 := by
        unfold hv at hd
        split at hd
        · injection hd with hd; omega
        · split at hd
          · injection hd with hd; omega
          · cases hd
      have := foldH_lt t _ X (k + 1) (by rw [Nat.pow_succ]; omega) e
      rw [List.length_cons, show k + (t.length + 1) = k + 1 + t.length by omega]
      exact this
/-- A text is a token's just if it is what its number prints. -/
theorem tokV_inv {s : ByteArray} {X : Nat} (h : tokV s = some X) : X < 18446744073709551616 ∧ tokT X (sumH X) = s := by
  unfold tokV at h
  split at h
  · rename_i hs
    cases hf : foldH ((s.data.toList.drop 1).take 16) 0 with
    | none => rw [hf] at h; cases h
    | some Y =>
      rw [hf] at h
      simp only at h
      split at h
      · rename_i hT
        injection h with h
        subst h
        have hl : ((s.data.toList.drop 1).take 16).length = 16 := by
          have : s.data.toList.length = 26 := by rw [Array.length_toList]; exact hs
          simp
          omega
        have := foldH_lt _ 0 _ 0 (by decide) hf
        rw [hl] at this
        have p16 : (16 : Nat) ^ (0 + 16) = 18446744073709551616 := by decide
        exact ⟨by omega, hT⟩
      · cases h
  · cases h
theorem tokV_tokT (X : Nat) (hX : X < 18446744073709551616) : tokV (tokT X (sumH X)) = some X :=
  tokV_some (tokT_size X _ hX (sumH_le X)) (by rw [tokT_digits X _ hX (sumH_le X)]; exact foldR_H _ _ _ (foldR_fix16 X hX)) rfl
theorem tokV_R_none {s : ByteArray} (h : foldR ((s.data.toList.drop 1).take 16) 0 = none) : tokV s = none := by
  cases hv : tokV s with
  | none => rfl
  | some X =>
    obtain ⟨h1, h2⟩ := tokV_inv hv
    rw [← h2, tokT_digits X _ h1 (sumH_le X), foldR_fix16 X h1] at h
    cases h
theorem or4 (v d : Nat) (hv : v < 1152921504606846976) (hd : d < 16) : bits .or .u64 ((v * 16 : Nat) : Int) (d : Int) = ((v * 16 + d : Nat) : Int) := by
  show IntKind.u64.wrap ((BitVec.ofInt 64 ((v * 16 : Nat) : Int) ||| BitVec.ofInt 64 (d : Int)).toNat : Int) = _
  have e1 : (BitVec.ofInt 64 ((v * 16 : Nat) : Int)).toNat = v * 16 := by
    rw [BitVec.ofInt_natCast, BitVec.toNat_ofNat]; exact Nat.mod_eq_of_lt (by omega)
  have e2 : (BitVec.ofInt 64 (d : Int)).toNat = d := by rw [BitVec.ofInt_natCast, BitVec.toNat_ofNat]; exact Nat.mod_eq_of_lt (by omega)
  have e3 : v * 16 ||| d = v * 16 + d := by
    have := Nat.two_pow_add_eq_or_of_lt (i := 4) (b := d) (by omega) v
    rw [show v * 16 = 2 ^ 4 * v from by omega]
    exact this.symm
  rw [BitVec.toNat_or, e1, e2, e3, IntWalk.u64_in _ (by omega)]
set_option maxRecDepth 100000 in
set_option maxHeartbeats 4000000 in
theorem ref_parse (s : ByteArray) (w : World) :
    Calls Tryd.prog 12 #[.string s] w fun e w' => e = tokR s ∧ Below w.heap.size w w' := by
  have HB0 : Hid (Below w.heap.size w (w.alloc (.cells #[.int .i64 0, .int .i64 0] 30))) := Lib.hid (by (repeat' (first | (with_reducible exact Below.refl _ _) | (with_reducible assumption) | (with_reducible refine Below.trans ?_ (Below.mono (by with_reducible assumption) ?_)) | (with_reducible refine Below.alloc ?_ ?_ _) | (with_reducible refine Below.setCell ?_ ?_ _) | (with_reducible refine below_drewN ?_ _) | (with_reducible refine Below.drew ?_) | go_size)))
  by_cases hsz : s.size = 26
  · have hll : ((s.data.toList.drop 1).take 16).length = 16 := by
      have : s.data.toList.length = 26 := by rw [Array.length_toList]; exact hsz
      simp
      omega
    have HAT : Hid (∀ (i : Nat) (q : i < s.size) (h1 : 1 ≤ i) (h2 : i - 1 < ((s.data.toList.drop 1).take 16).length), ((s.data.toList.drop 1).take 16)[i - 1] = s[i]'q) := Lib.hid (fun i q h1 h2 => by
      rw [List.getElem_take, List.getElem_drop]
      have e : 1 + (i - 1) = i := by omega
      simp only [e]
      rfl)
    have HSZ := Lib.hid hsz
    have hs26 : (s.size : Int) = 26 := by omega
    have HN0 := Lib.hid (fun h => tokR_none (tokV_R_none (s := s) h))
    generalize hL : (s.data.toList.drop 1).take 16 = l at *
    have HL := Lib.hid hL
    have HLL := Lib.hid hll
    clear hL hll
    go_enter Tryd.func12, Tryd.ntmps12
    go_wp2
    go_loop [4, 5] (fun x i => ∃ (j v : Nat), 1 ≤ j ∧ j ≤ 17 ∧ i = .int .i64 j ∧ x = .int .u64 v ∧ Hid (v < 16 ^ (j - 1) ∧ foldR l 0 = foldR (l.drop (j - 1)) v)) (fun _ i => 17 - (intOf i).toNat)
    case atStart => exact ⟨1, 0, by omega, by omega, rfl, rfl, Lib.hid ⟨by decide, by simp⟩⟩
    case round =>
      obtain ⟨j, v, hj1, hj, rfl, rfl, HV⟩ := hrel
      by_cases hlt : j < 17
      · have q : j < s.size := by omega
        have hjl : j - 1 < l.length := by have := HLL.out; omega
        have HF := HV.out.2
        rw [List.drop_eq_getElem_cons hjl, HAT.out j q hj1 hjl] at HF
        have hjj : j - 1 + 1 = j + 1 - 1 := by omega
        rw [hjj] at HF
        have hvb : v < 1152921504606846976 := by
          have h1 := HV.out.1
          have h2 : (16 : Nat) ^ (j - 1) ≤ 16 ^ 15 := Nat.pow_le_pow_right (by omega) (by omega)
          have : (16 : Nat) ^ 15 = 1152921504606846976 := by decide
          omega
        have HNX : Hid (∀ d : Nat, d < 16 → v * 16 + d < 16 ^ (j + 1 - 1)) := Lib.hid (fun d hd => by have := HV.out.1; rw [← hjj, Nat.pow_succ]; omega)
        clear HV
        have hb1 : (s[j]'q).toNat ≤ 255 := by have := (s[j]'q).toNat_lt; omega
        have HN : Hid (hr (s[j]'q).toNat = none → foldR l 0 = none) := Lib.hid (fun h => by rw [HF, foldR_none h])
        have HS : Hid (∀ d, hr (s[j]'q).toNat = some d → foldR l 0 = foldR (l.drop (j + 1 - 1)) (v * 16 + d)) := Lib.hid (fun d h => by rw [HF, foldR_some h])
        clear HF
        obtain ⟨cc, hcc⟩ : ∃ cc, s[j]'q = cc := ⟨_, rfl⟩
        rw [hcc] at hb1 HN HS
        obtain ⟨c, hct⟩ : ∃ c, cc.toNat = c := ⟨_, rfl⟩
        rw [hct] at hb1 HN HS
        have lj : (j : Int) < 17 := by omega
        have t10 : IntKind.u64.wrap ((v : Int) * 16) = ((v * 16 : Nat) : Int) := by rw [IntWalk.u64_in _ (by omega)]; omega
        have HOR := Lib.hid (fun d hd => or4 v d hvb hd)
        obtain ⟨m, hm⟩ : ∃ m, v * 16 = m := ⟨_, rfl⟩
        rw [hm] at t10 HNX HS HOR
        by_cases hdig : 48 ≤ c ∧ c ≤ 57
        · obtain ⟨d, hd⟩ : ∃ d, c - 48 = d := ⟨_, rfl⟩
          have HD : Hid (hr c = some d) := Lib.hid (by unfold hr; rw [if_pos hdig, hd])
          have t2 : decide ((48 : Int) ≤ (c : Int)) = true := by simp; omega
          have t3 : decide ((c : Int) ≤ 57) = true := by simp; omega
          have t4 : IntKind.u8.wrap ((c : Int) - 48) = (d : Int) := by rw [w8 _ (by omega) (by omega)]; omega
          have t6 : IntKind.u64.wrap (d : Int) = (d : Int) := IntWalk.u64_in _ (by omega)
          have t9 := HOR.out d (by omega)
          obtain ⟨m2, hm2⟩ : ∃ m2, m + d = m2 := ⟨_, rfl⟩
          rw [hm2] at t9
          have HR : Hid (m2 < 16 ^ (j + 1 - 1) ∧ foldR l 0 = foldR (l.drop (j + 1 - 1)) m2) := Lib.hid (hm2 ▸ ⟨HNX.out d (by omega), HS.out d HD.out⟩)
          clear hdig HN HS HNX HOR hm HD hm2 hd
          go_wp2
          go_round
          case rel => exact ⟨j + 1, m2, by omega, by omega, by go_num, rfl, HR.out⟩
          case measure => simp [intOf]; omega
        · have t23 : (decide ((48 : Int) ≤ (c : Int)) = true ∧ decide ((c : Int) ≤ 57) = false) ∨ decide ((48 : Int) ≤ (c : Int)) = false := by
            by_cases h : 48 ≤ c
            · exact Or.inl ⟨by simp; omega, by simp; omega⟩
            · exact Or.inr (by simp; omega)
          by_cases hlow : 97 ≤ c ∧ c ≤ 102
          · obtain ⟨d, hd⟩ : ∃ d, c - 87 = d := ⟨_, rfl⟩
            have HD : Hid (hr c = some d) := Lib.hid (by unfold hr; rw [if_neg hdig, if_pos hlow, hd])
            have t2 : decide ((48 : Int) ≤ (c : Int)) = true := by simp; omega
            have t3 : decide ((c : Int) ≤ 57) = false := by simp; omega
            have t5 : decide ((97 : Int) ≤ (c : Int)) = true := by simp; omega
            have t7 : decide ((c : Int) ≤ 102) = true := by simp; omega
            clear t23
            obtain ⟨r, hr97⟩ : ∃ r, c - 97 = r := ⟨_, rfl⟩
            have t4 : IntKind.u8.wrap ((c : Int) - 97) = (r : Int) := by rw [w8 _ (by omega) (by omega)]; omega
            have t12 : IntKind.u8.wrap ((r : Int) + 10) = (d : Int) := by rw [w8 _ (by omega) (by omega)]; omega
            have t6 : IntKind.u64.wrap (d : Int) = (d : Int) := IntWalk.u64_in _ (by omega)
            have t9 := HOR.out d (by omega)
            obtain ⟨m2, hm2⟩ : ∃ m2, m + d = m2 := ⟨_, rfl⟩
            rw [hm2] at t9
            have HR : Hid (m2 < 16 ^ (j + 1 - 1) ∧ foldR l 0 = foldR (l.drop (j + 1 - 1)) m2) := Lib.hid (hm2 ▸ ⟨HNX.out d (by omega), HS.out d HD.out⟩)
            clear hr97 hlow hdig HN HS HNX HOR hm HD hm2 hd
            go_wp2
            go_round
            case rel => exact ⟨j + 1, m2, by omega, by omega, by go_num, rfl, HR.out⟩
            case measure => simp [intOf]; omega
          · have HE := Lib.hid (HN0.out (HN.out (by unfold hr; rw [if_neg hdig, if_neg hlow])))
            have t45 : (decide ((97 : Int) ≤ (c : Int)) = true ∧ decide ((c : Int) ≤ 102) = false) ∨ decide ((97 : Int) ≤ (c : Int)) = false := by
              by_cases h : 97 ≤ c
              · exact Or.inl ⟨by simp; omega, by simp; omega⟩
              · exact Or.inr (by simp; omega)
            clear hdig hlow HN HS HNX HOR hm t10
            rcases t23 with ⟨t2, t3⟩ | t2 <;> rcases t45 with ⟨t4, t5⟩ | t4
            all_goals
              go_wp2
              refine bodyPost_ret (v := .tuple #[.agg #[.int .i64 0, .int .i64 0], .int .i64 10]) (by simp [results, Tryd.results12, go_sem]) rfl ⟨HE.out.symm, ?_⟩
              (repeat' (first | (with_reducible exact Below.refl _ _) | (with_reducible assumption) | (with_reducible refine Below.trans ?_ (Below.mono (by with_reducible assumption) ?_)) | (with_reducible refine Below.alloc ?_ ?_ _) | (with_reducible refine Below.setCell ?_ ?_ _) | (with_reducible refine below_drewN ?_ _) | (with_reducible refine Below.drew ?_) | go_size))
      · obtain rfl : j = 17 := by omega
        have hXb : v < 18446744073709551616 := by
          have h1 := HV.out.1
          have : (16 : Nat) ^ (17 - 1) = 18446744073709551616 := by decide
          omega
        have HX : Hid (foldH l 0 = some v) := Lib.hid (foldR_H _ _ _ (by rw [HV.out.2, List.drop_of_length_le (by have := HLL.out; omega)]; rfl))
        clear HV HAT HN0
        have hb0 := HB0.out
        have a0 : (w.alloc (.cells #[.int .i64 0, .int .i64 0] 30)).cell? ⟨w.heap.size, 0, none⟩ = some (.int .i64 0) := by simp
        have a1 : (w.alloc (.cells #[.int .i64 0, .int .i64 0] 30)).cell? ⟨w.heap.size, 1, none⟩ = some (.int .i64 0) := by simp
        have f0 : (w.alloc (.cells #[.int .i64 0, .int .i64 0] 30)).frozen? ⟨w.heap.size, 0, none⟩ = false := by simp
        have f1 : (w.alloc (.cells #[.int .i64 0, .int .i64 0] 30)).frozen? ⟨w.heap.size, 1, none⟩ = false := by simp
        have hz1 : w.heap.size + 1 ≤ (w.alloc (.cells #[.int .i64 0, .int .i64 0] 30)).heap.size := by simp
        generalize w.alloc (.cells #[.int .i64 0, .int .i64 0] 30) = w1 at *
        have HB1 := Lib.hid hb0
        clear hb0 HB0
        have hX0 : (v : Int) < 18446744073709551616 := by omega
        generalize v = X at *
        have HU := Lib.hid (ref10_unpack (X : Int) w1 (by omega) (by omega))
        obtain ⟨s1, s2⟩ := stamp_of X hXb
        have HPV : Hid (∀ W, Below w.heap.size w W → Calls Tryd.prog 9 #[.agg #[.int .i64 ((X : Int) / 65536), .int .i64 ((X : Int) % 65536)]] W fun e w' => (e = .returned (.tuple #[.string (tokT X (sumH X)), .int .i64 0]) ∧ sumH X ≤ 4294967295) ∧ Below W.heap.size W w') := Lib.hid (fun W k => ref_print_val _ _ X W s1 s2)
        have hXi : (X : Int) < 18446744073709551616 := by omega
        have HR : Hid (if tokT X (sumH X) = s then tokR s = .returned (.tuple #[.agg #[.int .i64 ((X : Int) / 65536), .int .i64 ((X : Int) % 65536)], .int .i64 0]) else tokR s = .returned (.tuple #[.agg #[.int .i64 0, .int .i64 0], .int .i64 10])) := Lib.hid (by
          split
          · rename_i h
            exact tokR_some (tokV_some HSZ.out (by rw [HL.out]; exact HX.out) h)
          · rename_i h
            exact tokR_none (tokV_unlike HSZ.out (by rw [HL.out]; exact HX.out) h))
        clear s1 s2 hXb HX
        obtain ⟨q, hq⟩ : ∃ q : Int, (X : Int) / 65536 = q := ⟨_, rfl⟩
        obtain ⟨r, hr⟩ : ∃ r : Int, (X : Int) % 65536 = r := ⟨_, rfl⟩
        rw [hq, hr] at HU HPV HR
        clear hq hr
        go_wp2_with fail
        refine HU.out.mono ?_; rintro e w2 ⟨rfl, k2⟩
        have HB2 := Lib.hid (HB1.out.trans (k2.mono HB1.out.size))
        obtain ⟨hc2, hf2⟩ := bcell k2
        have b0 := (hc2 w.heap.size 0 (by omega)).trans a0
        have b1 := (hc2 w.heap.size 1 (by omega)).trans a1
        have g0 := (hf2 w.heap.size 0 (by omega)).trans f0
        have g1 := (hf2 w.heap.size 1 (by omega)).trans f1
        have hz2 := k2.size
        clear k2 hc2 hf2 HU a0 a1 f0 f1
        have HB3 : Hid (Below w.heap.size w (w2.alloc (.cells #[.int .i64 q, .int .i64 r] 30))) := Lib.hid (by have := HB2.out; (repeat' (first | (with_reducible exact Below.refl _ _) | (with_reducible assumption) | (with_reducible refine Below.trans ?_ (Below.mono (by with_reducible assumption) ?_)) | (with_reducible refine Below.alloc ?_ ?_ _) | (with_reducible refine Below.setCell ?_ ?_ _) | (with_reducible refine below_drewN ?_ _) | (with_reducible refine Below.drew ?_) | go_size)))
        go_wp2_with fail
        refine (HPV.out _ HB3.out).mono ?_; rintro e w4 ⟨⟨rfl, _⟩, k4⟩
        have HB4 := Lib.hid (HB3.out.trans (k4.mono HB3.out.size))
        obtain ⟨hc4, hf4⟩ := bcell k4
        have d0 : w4.cell? ⟨w.heap.size, 0, none⟩ = some (.int .i64 0) := by rw [hc4 _ _ (by simp; omega), World.cell?_alloc_past _ _ _ (by show w.heap.size < w2.heap.size; omega)]; exact b0
        have d1 : w4.cell? ⟨w.heap.size, 1, none⟩ = some (.int .i64 0) := by rw [hc4 _ _ (by simp; omega), World.cell?_alloc_past _ _ _ (by show w.heap.size < w2.heap.size; omega)]; exact b1
        have m0 : w4.cell? ⟨w2.heap.size, 0, none⟩ = some (.int .i64 q) := by rw [hc4 _ _ (by simp)]; simp
        have m1 : w4.cell? ⟨w2.heap.size, 1, none⟩ = some (.int .i64 r) := by rw [hc4 _ _ (by simp)]; simp
        have e0 : w4.frozen? ⟨w.heap.size, 0, none⟩ = false := by rw [hf4 _ _ (by simp; omega), ((Below.alloc (Below.refl w2.heap.size w2) (Nat.le_refl _) (.cells #[.int .i64 q, .int .i64 r] 30)).frozen (p := ⟨w.heap.size, 0, none⟩) (by show w.heap.size < w2.heap.size; omega))]; exact g0
        have e1 : w4.frozen? ⟨w.heap.size, 1, none⟩ = false := by rw [hf4 _ _ (by simp; omega), ((Below.alloc (Below.refl w2.heap.size w2) (Nat.le_refl _) (.cells #[.int .i64 q, .int .i64 r] 30)).frozen (p := ⟨w.heap.size, 1, none⟩) (by show w.heap.size < w2.heap.size; omega))]; exact g1
        have hz4 := k4.size
        simp only [World.size_alloc] at hz4
        have hne2 : w.heap.size ≠ w2.heap.size := by omega
        clear k4 hc4 hf4 HPV b0 b1 g0 g1 HB3
        by_cases heq : tokT X (sumH X) = s
        · have hcmp := (str_lists _ _).2 heq
          have HE := HR.out
          rw [if_pos heq] at HE
          have HE2 := Lib.hid HE
          clear HE HR heq
          generalize tokT X (sumH X) = tt at *
          go_wp2
          refine bodyPost_ret (v := .tuple #[.agg #[.int .i64 q, .int .i64 r], .int .i64 0]) (by simp [results, Tryd.results12, go_sem, d0, d1]) rfl ⟨HE2.out.symm, ?_⟩
          have hb := HB4.out
          (repeat' (first | (with_reducible exact Below.refl _ _) | (with_reducible assumption) | (with_reducible refine Below.trans ?_ (Below.mono (by with_reducible assumption) ?_)) | (with_reducible refine Below.alloc ?_ ?_ _) | (with_reducible refine Below.setCell ?_ ?_ _) | (with_reducible refine below_drewN ?_ _) | (with_reducible refine Below.drew ?_) | go_size))
        · have hcmp : ¬ (tokT X (sumH X)).toList = s.toList := fun h => heq ((str_lists _ _).1 h)
          have hcm2 : ((tokT X (sumH X)).toList == s.toList) = false := by simpa using hcmp
          have hcm3 : ((tokT X (sumH X)).toList != s.toList) = true := by simpa using hcmp
          have HE := HR.out
          rw [if_neg heq] at HE
          have HE2 := Lib.hid HE
          clear HE HR heq
          generalize tokT X (sumH X) = tt at *
          go_wp2
          refine bodyPost_ret (v := .tuple #[.agg #[.int .i64 0, .int .i64 0], .int .i64 10]) (by simp [results, Tryd.results12, go_sem, d0, d1]) rfl ⟨HE2.out.symm, ?_⟩
          have hb := HB4.out
          (repeat' (first | (with_reducible exact Below.refl _ _) | (with_reducible assumption) | (with_reducible refine Below.trans ?_ (Below.mono (by with_reducible assumption) ?_)) | (with_reducible refine Below.alloc ?_ ?_ _) | (with_reducible refine Below.setCell ?_ ?_ _) | (with_reducible refine below_drewN ?_ _) | (with_reducible refine Below.drew ?_) | go_size))
  · have hs26 : ¬ (s.size : Int) = 26 := by omega
    have HE := Lib.hid (tokR_none (tokV_short hsz))
    clear hsz
    go_enter Tryd.func12, Tryd.ntmps12
    go_wp2
    refine bodyPost_ret (v := .tuple #[.agg #[.int .i64 0, .int .i64 0], .int .i64 10]) (by simp [results, Tryd.results12, go_sem]) rfl ⟨HE.out.symm, ?_⟩
    (repeat' (first | (with_reducible exact Below.refl _ _) | (with_reducible assumption) | (with_reducible refine Below.trans ?_ (Below.mono (by with_reducible assumption) ?_)) | (with_reducible refine Below.alloc ?_ ?_ _) | (with_reducible refine Below.setCell ?_ ?_ _) | (with_reducible refine below_drewN ?_ _) | (with_reducible refine Below.drew ?_) | go_size))
end Go.Proofs.YtcmoglbmngmgnaaDoor
