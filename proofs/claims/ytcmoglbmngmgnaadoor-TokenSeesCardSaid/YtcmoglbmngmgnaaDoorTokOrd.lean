/- Two tokens' texts stand as the numbers do. -/
import Derived.Test.YtcmoglbmngmgnaaDoorTokPrtV
set_option linter.unusedSimpArgs false
set_option linter.unusedVariables false
namespace Go.Proofs.YtcmoglbmngmgnaaDoor
open Go.RowKit Go.Sort Go.Op

/-- A number in just n digits. -/
def fixH : Nat → Nat → List UInt8
  | 0, _ => []
  | n + 1, u => fixH n (u / 16) ++ [hdV (u % 16)]
theorem fixH_len : ∀ n u, (fixH n u).length = n
  | 0, _ => rfl
  | n + 1, u => by simp [fixH, fixH_len n]
theorem fixH_zero : ∀ n, fixH n 0 = Lib.repeatL [48] n
  | 0 => rfl
  | n + 1 => by
    rw [fixH, show 0 / 16 = 0 from rfl, fixH_zero n, Lib.repeatL_add [48] n 1]
    rfl
theorem fixH_hex : ∀ (n k u : Nat), u < 16 ^ (n + 1) → n + 1 ≤ k → Lib.repeatL [48] (n + 1 - (hexF k u).length) ++ hexF k u = fixH (n + 1) u
  | n, 0, _, _, h => absurd h (by omega)
  | n, k + 1, u, hu, hk => by
    by_cases h : u < 16
    · rw [hexF_low h, fixH, Nat.div_eq_of_lt h, Nat.mod_eq_of_lt h, fixH_zero]
      simp
    · rw [hexF_high h]
      cases n with
      | zero => exact absurd hu (by simpa using h)
      | succ n =>
        have hd : u / 16 < 16 ^ (n + 1) := Nat.div_lt_of_lt_mul (by rw [Nat.pow_succ] at hu; omega)
        have := fixH_hex n k (u / 16) hd (by omega)
        rw [fixH, ← this, List.length_append, List.length_singleton, Nat.add_sub_add_right, List.append_assoc]
theorem less_app : ∀ (a b c d : List UInt8), a.length = b.length → bytesLess (a ++ c) (b ++ d) = (bytesLess a b || (a == b && bytesLess c d))
  | [], [], c, d, _ => by cases d <;> simp [bytesLess]
  | x :: a, y :: b, c, d, h => by
    have ih := less_app a b c d (by simpa using h)
    simp only [List.cons_append, bytesLess, ih]
    by_cases hxy : x = y
    · subst hxy
      have : ¬ x < x := by simp
      simp [this]
    · have h1 : (x == y) = false := by simpa using hxy
      have h2 : (x :: a == y :: b) = false := by simp [hxy]
      rw [h1, h2]
      simp
  | [], _ :: _, _, _, h => by simp at h
  | _ :: _, [], _, _, h => by simp at h
theorem less_self : ∀ a : List UInt8, bytesLess a a = false
  | [] => rfl
  | x :: a => by simp [bytesLess, less_self a]
theorem hdV_less : ∀ i j : Fin 16, bytesLess [hdV i.val] [hdV j.val] = decide (i.val < j.val) := by decide
theorem hdV_inj : ∀ i j : Fin 16, (([hdV i.val] == [hdV j.val]) : Bool) = decide (i.val = j.val) := by decide
theorem fixH_inj : ∀ (n u v : Nat), u < 16 ^ n → v < 16 ^ n → (fixH n u == fixH n v) = decide (u = v)
  | 0, u, v, hu, hv => by
    obtain rfl : u = 0 := by simpa using hu
    obtain rfl : v = 0 := by simpa using hv
    rfl
  | n + 1, u, v, hu, hv => by
    have ih := fixH_inj n (u / 16) (v / 16) (Nat.div_lt_of_lt_mul (by rw [Nat.pow_succ] at hu; omega)) (Nat.div_lt_of_lt_mul (by rw [Nat.pow_succ] at hv; omega))
    have hd := hdV_inj ⟨u % 16, Nat.mod_lt _ (by decide)⟩ ⟨v % 16, Nat.mod_lt _ (by decide)⟩
    rw [Bool.eq_iff_iff] at ih hd ⊢
    simp only [beq_iff_eq, decide_eq_true_eq] at ih hd ⊢
    rw [fixH, fixH]
    constructor
    · intro h
      obtain ⟨h1, h2⟩ := List.append_inj h (by rw [fixH_len, fixH_len])
      have := ih.1 h1
      have := hd.1 h2
      omega
    · rintro rfl
      rfl
theorem fixH_less : ∀ (n u v : Nat), u < 16 ^ n → v < 16 ^ n → bytesLess (fixH n u) (fixH n v) = decide (u < v)
  | 0, u, v, hu, hv => by
    obtain rfl : u = 0 := by simpa using hu
    obtain rfl : v = 0 := by simpa using hv
    rfl
  | n + 1, u, v, hu, hv => by
    have bu : u / 16 < 16 ^ n := Nat.div_lt_of_lt_mul (by rw [Nat.pow_succ] at hu; omega)
    have bv : v / 16 < 16 ^ n := Nat.div_lt_of_lt_mul (by rw [Nat.pow_succ] at hv; omega)
    have ih := fixH_less n _ _ bu bv
    have hd := hdV_less ⟨u % 16, Nat.mod_lt _ (by decide)⟩ ⟨v % 16, Nat.mod_lt _ (by decide)⟩
    rw [fixH, fixH, less_app _ _ _ _ (by rw [fixH_len, fixH_len]), ih, fixH_inj n _ _ bu bv, hd]
    rw [Bool.eq_iff_iff]
    simp only [Bool.or_eq_true, Bool.and_eq_true, decide_eq_true_eq]
    omega
theorem tokT_list (X y : Nat) (hX : X < 16 ^ 16) (hy : y < 16 ^ 8) : (tokT X y).data.toList = ([109] ++ fixH 16 X) ++ ([45] ++ fixH 8 y) := by
  have h1 := fixH_hex 15 16 X hX (by omega)
  have h2 := fixH_hex 7 16 y hy (by omega)
  rw [← h1, ← h2]
  simp [tokT, hexP, ByteArray.data_append]
theorem tok_less (X Y x y : Nat) (hX : X < 16 ^ 16) (hY : Y < 16 ^ 16) (hx : x < 16 ^ 8) (hy : y < 16 ^ 8) (h : X = Y → x = y) :
    bytesLess (tokT X x).data.toList (tokT Y y).data.toList = decide (X < Y) ∧ ((tokT X x).data.toList == (tokT Y y).data.toList) = decide (X = Y) := by
  rw [tokT_list X x hX hx, tokT_list Y y hY hy]
  have e0 : ([109] ++ fixH 16 X == [109] ++ fixH 16 Y) = decide (X = Y) := by
    rw [← fixH_inj 16 X Y hX hY]
    simp
  by_cases hXY : X = Y
  · subst hXY
    obtain rfl := h rfl
    rw [less_self]
    simp
  · refine ⟨?_, ?_⟩
    · rw [less_app _ _ _ _ (by simp [fixH_len]), e0, less_app _ _ _ _ rfl, fixH_less 16 X Y hX hY]
      simp [hXY, bytesLess]
    · rw [Bool.eq_iff_iff, beq_iff_eq]
      simp only [hXY, decide_false]
      constructor
      · intro hh
        obtain ⟨h1, _⟩ := List.append_inj hh (by simp [fixH_len])
        have := (Bool.eq_iff_iff.1 e0).1 (beq_iff_eq.2 h1)
        exact absurd (of_decide_eq_true this) hXY
      · intro hh; cases hh
end Go.Proofs.YtcmoglbmngmgnaaDoor
