/- Dates as text: plain mathematics of digits: what is printed is parsed again, and what is parsed is printed again. -/
import Derived.Test.YtlmbhiidbcpihaaDoorPrt3
import Derived.Test.YtlmbhiidbcpihaaDoorPrs
import Derived.Lib.Strings
set_option linter.unusedSimpArgs false
set_option linter.unusedVariables false
namespace Go.Proofs.YtlmbhiidbcpihaaDoor
open Go.RowKit

theorem dig_nat (q : Nat) : (UInt8.ofNat (48 + q % 10)).toNat = 48 + q % 10 := by rw [UInt8.toNat_ofNat']; omega
theorem digGo_lowd (i n : Nat) : ∀ a : Int, digGo (lowd i n) a = a * (10 : Int) ^ i + ((n % 10 ^ i : Nat) : Int) := by
  induction i with
  | zero => intro a; simp [lowd, digGo, Nat.mod_one]
  | succ i ih =>
    intro a
    show (if 48 ≤ ((UInt8.ofNat (48 + n / 10 ^ i % 10)).toNat : Int) ∧ ((UInt8.ofNat (48 + n / 10 ^ i % 10)).toNat : Int) ≤ 57 then digGo (lowd i n) (a * 10 + ((UInt8.ofNat (48 + n / 10 ^ i % 10)).toNat - 48)) else -1) = _
    rw [dig_nat, if_pos (by omega), ih]
    have h1 : n % 10 ^ (i + 1) = n / 10 ^ i % 10 * 10 ^ i + n % 10 ^ i := by
      rw [Nat.pow_succ, Nat.mod_mul, Nat.mul_comm, Nat.add_comm]
    rw [h1, Int.pow_succ]
    generalize n / 10 ^ i % 10 = q
    generalize n % 10 ^ i = r
    push_cast
    rw [show ((48 : Int) + (q : Int) - 48) = (q : Int) from by omega, Int.add_mul, Int.mul_assoc, Int.mul_comm 10 ((10 : Int) ^ i)]
    omega
theorem lowd_mod (i n : Nat) : ∀ k, lowd i (n + k * 10 ^ i) = lowd i n := by
  induction i with
  | zero => intro k; rfl
  | succ i ih =>
    intro k
    show UInt8.ofNat (48 + (n + k * 10 ^ (i + 1)) / 10 ^ i % 10) :: lowd i (n + k * 10 ^ (i + 1)) = UInt8.ofNat (48 + n / 10 ^ i % 10) :: lowd i n
    have e : k * 10 ^ (i + 1) = k * 10 * 10 ^ i := by rw [Nat.pow_succ, Nat.mul_assoc, Nat.mul_comm 10]
    rw [e, ih, Nat.add_mul_div_right _ _ (Nat.pow_pos (by omega)), Nat.add_mul_mod_self_right]
theorem digGo_inv : ∀ (l : List UInt8) (a v : Int), 0 ≤ a → digGo l a = v → v ≠ -1 → ∃ n : Nat, n < 10 ^ l.length ∧ l = lowd l.length n ∧ v = a * (10 : Int) ^ l.length + n
  | [], a, v, h0, h, hv => ⟨0, by simp, rfl, by simp [digGo] at h; simp [h]⟩
  | c :: r, a, v, h0, h, hv => by
    have h' : (if 48 ≤ (c.toNat : Int) ∧ (c.toNat : Int) ≤ 57 then digGo r (a * 10 + (c.toNat - 48)) else -1) = v := h
    by_cases hc : 48 ≤ (c.toNat : Int) ∧ (c.toNat : Int) ≤ 57
    · rw [if_pos hc] at h'
      obtain ⟨n, hn, hr, hvn⟩ := digGo_inv r _ v (by omega) h' hv
      refine ⟨n + (c.toNat - 48) * 10 ^ r.length, ?_, ?_, ?_⟩
      · rw [List.length_cons, Nat.pow_succ]
        have : (c.toNat - 48) * 10 ^ r.length ≤ 9 * 10 ^ r.length := Nat.mul_le_mul_right _ (by omega)
        omega
      · show c :: r = UInt8.ofNat (48 + (n + (c.toNat - 48) * 10 ^ r.length) / 10 ^ r.length % 10) :: lowd r.length (n + (c.toNat - 48) * 10 ^ r.length)
        rw [lowd_mod, ← hr, Nat.add_mul_div_right _ _ (Nat.pow_pos (by omega)), Nat.div_eq_of_lt hn, Nat.zero_add, Nat.mod_eq_of_lt (by omega), show 48 + (c.toNat - 48) = c.toNat from by omega]
        simp
      · rw [hvn, List.length_cons, Int.pow_succ]
        have e : ((c.toNat - 48 : Nat) : Int) = (c.toNat : Int) - 48 := by omega
        push_cast
        rw [e, Int.add_mul, Int.mul_assoc, Int.mul_comm 10 ((10 : Int) ^ r.length)]
        omega
    · rw [if_neg hc] at h'
      exact absurd h'.symm hv
theorem ext_list (l : List UInt8) (a b : Nat) : ((strOf l).extract a b).data.toList = (l.drop a).take (b - a) := by
  rw [Lib.extract_data]; rfl
theorem lowd4 (n : Nat) : ∃ a b c d, lowd 4 n = [a, b, c, d] := ⟨_, _, _, _, rfl⟩
theorem lowd2 (n : Nat) : ∃ a b, lowd 2 n = [a, b] := ⟨_, _, rfl⟩
theorem dateS_text (y m d : Nat) (hv : Cal.Vld y m d) : DateText (dateS y m d) y m d := by
  have hb := hv
  obtain ⟨a1, a2, a3, a4, a5, a6⟩ := hb
  have hdm := Cal.dim_bd y m
  have e4 := digGo_lowd 4 y 0
  have e2 := digGo_lowd 2 m 0
  have e3 := digGo_lowd 2 d 0
  rw [Nat.mod_eq_of_lt (by omega)] at e4 e2 e3
  unfold dateS
  obtain ⟨p, q, r, t, h4⟩ := lowd4 y
  obtain ⟨u, v, h2⟩ := lowd2 m
  obtain ⟨g, h, h3⟩ := lowd2 d
  rw [h4] at e4
  rw [h2] at e2
  rw [h3] at e3
  rw [h4, h2, h3]
  refine ⟨by rw [strOf_size]; rfl, fun _ => rfl, fun _ => rfl, ?_, ?_, ?_, hv⟩
  · rw [ext_list]; show digGo [p, q, r, t] 0 = _; rw [e4]; omega
  · rw [ext_list]; show digGo [u, v] 0 = _; rw [e2]; omega
  · rw [strOf_size, ext_list]; show digGo [g, h] 0 = _; rw [e3]; omega
set_option maxRecDepth 100000 in
theorem text_dateS {s : ByteArray} {y m d : Int} (h : DashText s y m d) (hv : Cal.Vld y m d) : ∃ Y Mo D : Nat, y = Y ∧ m = Mo ∧ d = D ∧ s = dateS Y Mo D := by
  obtain ⟨a1, a2, a3, a4, a5, a6⟩ := hv
  obtain ⟨hsz, h4, h7, hy, hm, hd⟩ := h
  have hl : s.data.toList.length = 10 := by rw [Array.length_toList]; exact hsz
  rw [Lib.extract_data] at hy hm hd
  obtain ⟨n1, b1, e1, v1⟩ := digGo_inv _ _ _ (Int.le_refl 0) hy (by omega)
  obtain ⟨n2, b2, e2, v2⟩ := digGo_inv _ _ _ (Int.le_refl 0) hm (by omega)
  obtain ⟨n3, b3, e3, v3⟩ := digGo_inv _ _ _ (Int.le_refl 0) hd (by omega)
  have g4 := h4 (by omega)
  have g7 := h7 (by omega)
  have f4 : s.data.toList[4]? = some 45 := by
    rw [List.getElem?_eq_getElem (by omega)]
    exact congrArg some (UInt8.toNat_inj.1 g4)
  have f7 : s.data.toList[7]? = some 45 := by
    rw [List.getElem?_eq_getElem (by omega)]
    exact congrArg some (UInt8.toNat_inj.1 g7)
  clear g4 g7 h4 h7
  rw [hsz] at e3 v3 b3 hd
  have hs : s = strOf s.data.toList := rfl
  generalize s.data.toList = l at *
  have L1 : (List.take (4 - 0) (List.drop 0 l)).length = 4 := by rw [List.length_take, List.length_drop, hl]; rfl
  have L2 : (List.take (7 - 5) (List.drop 5 l)).length = 2 := by rw [List.length_take, List.length_drop, hl]; rfl
  have L3 : (List.take (10 - 8) (List.drop 8 l)).length = 2 := by rw [List.length_take, List.length_drop, hl]; rfl
  rw [L1] at e1 v1
  rw [L2] at e2 v2
  rw [L3] at e3 v3
  rw [Int.zero_mul, Int.zero_add] at v1 v2 v3
  clear L1 L2 L3 b1 b2 b3 hy hm hd
  match l, hl with
  | [x0, x1, x2, x3, x4, x5, x6, x7, x8, x9], _ =>
    have f4 : x4 = 45 := by simpa using f4
    have f7 : x7 = 45 := by simpa using f7
    have e1 : [x0, x1, x2, x3] = lowd 4 n1 := e1
    have e2 : [x5, x6] = lowd 2 n2 := e2
    have e3 : [x8, x9] = lowd 2 n3 := e3
    refine ⟨n1, n2, n3, by omega, by omega, by omega, ?_⟩
    rw [hs]
    unfold dateS
    rw [← e1, ← e2, ← e3, f4, f7]
    rfl
end Go.Proofs.YtlmbhiidbcpihaaDoor
