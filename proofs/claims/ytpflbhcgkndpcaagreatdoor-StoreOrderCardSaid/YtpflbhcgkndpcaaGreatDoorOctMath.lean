/- Numbers as bytes, the lowest first, seven digits a byte (plain mathematics). -/
import Derived.Test.YtpflbhcgkndpcaaGreatDoorBase
set_option linter.unusedSimpArgs false
set_option linter.unusedVariables false
namespace Go.Proofs.YtpflbhcgkndpcaaGreatDoor

def encN (v : Nat) : List Int := if v < 128 then [(v : Int)] else ((v % 128 + 128 : Nat) : Int) :: encN (v / 128)
termination_by v
decreasing_by omega
theorem encN_low {v : Nat} (h : v < 128) : encN v = [(v : Int)] := by rw [encN, if_pos h]
theorem encN_high {v : Nat} (h : ¬ v < 128) : encN v = ((v % 128 + 128 : Nat) : Int) :: encN (v / 128) := by rw [encN, if_neg h]
def isBy (l : List Int) : Prop := ∀ b ∈ l, 0 ≤ b ∧ b ≤ 255
theorem isBy_nil : isBy [] := fun _ h => by cases h
theorem isBy_cons {b : Int} {l : List Int} (h : 0 ≤ b ∧ b ≤ 255) (k : isBy l) : isBy (b :: l) := fun x hx => by
  rcases List.mem_cons.1 hx with rfl | hx
  · exact h
  · exact k x hx
theorem isBy_append {a b : List Int} (h : isBy a) (k : isBy b) : isBy (a ++ b) := fun x hx => by
  rcases List.mem_append.1 hx with hx | hx
  · exact h x hx
  · exact k x hx
theorem isBy_drop {a : List Int} (h : isBy a) (n : Nat) : isBy (a.drop n) := fun x hx => h x (List.mem_of_mem_drop hx)
theorem isBy_take {a : List Int} (h : isBy a) (n : Nat) : isBy (a.take n) := fun x hx => h x (List.mem_of_mem_take hx)
theorem encN_by (v : Nat) : isBy (encN v) := by
  induction v using Nat.strongRecOn with
  | ind v ih =>
    by_cases h : v < 128
    · rw [encN_low h]; exact isBy_cons (by omega) isBy_nil
    · rw [encN_high h]; exact isBy_cons (by omega) (ih _ (by omega))
theorem encN_len0 (v : Nat) : 0 < (encN v).length := by
  by_cases h : v < 128
  · rw [encN_low h]; simp
  · rw [encN_high h]; simp
theorem encN_len (v k : Nat) (hk : 0 < k) (h : v < 128 ^ k) : (encN v).length ≤ k := by
  induction k generalizing v with
  | zero => omega
  | succ k ih =>
    by_cases hv : v < 128
    · rw [encN_low hv]; simp
    · rw [encN_high hv]
      rcases Nat.eq_zero_or_pos k with h0 | h0
      · subst h0; omega
      · have : v / 128 < 128 ^ k := by rw [Nat.div_lt_iff_lt_mul (by omega), ← Nat.pow_succ]; exact h
        have := ih (v / 128) h0 this
        simp only [List.length_cons]
        omega
/-- A number off the head of bytes: i bytes were read, and tell n. -/
def decN (i n : Nat) : List Int → Option (Nat × List Int)
  | [] => none
  | b :: t => if i = 9 ∨ (b = 0 ∧ 0 < i) then none else if 127 < b then decN (i + 1) (n + b.toNat % 128 * 128 ^ i) t else if 2 ^ 62 < n + b.toNat % 128 * 128 ^ i then none else some (n + b.toNat % 128 * 128 ^ i, t)
theorem pow128_9 (i : Nat) (h : 9 ≤ i) : 2 ^ 63 ≤ 128 ^ i := by
  have : (128 : Nat) ^ 9 ≤ 128 ^ i := Nat.pow_le_pow_right (by omega) h
  have e : (128 : Nat) ^ 9 = 2 ^ 63 := by decide
  omega
theorem dec_enc (v : Nat) : ∀ (i n : Nat) (t : List Int), (i = 0 ∨ 0 < v) → n + v * 128 ^ i ≤ 2 ^ 62 → decN i n (encN v ++ t) = some (n + v * 128 ^ i, t) := by
  induction v using Nat.strongRecOn with
  | ind v ih =>
    intro i n t h0 hb
    have hi : i ≠ 9 := by
      rintro rfl
      have h1 : 1 ≤ v := by omega
      have h2 := pow128_9 9 (by omega)
      have := Nat.mul_le_mul_right (128 ^ 9) h1
      omega
    by_cases h : v < 128
    · rw [encN_low h]
      have e : ((v : Int)).toNat % 128 = v := by omega
      show (if i = 9 ∨ ((v : Int) = 0 ∧ 0 < i) then none else if 127 < (v : Int) then decN (i + 1) (n + (v : Int).toNat % 128 * 128 ^ i) t else if 2 ^ 62 < n + (v : Int).toNat % 128 * 128 ^ i then none else some (n + (v : Int).toNat % 128 * 128 ^ i, t)) = _
      rw [e, if_neg (by omega), if_neg (by omega), if_neg (by omega)]
    · rw [encN_high h]
      have e : (((v % 128 + 128 : Nat) : Int)).toNat % 128 = v % 128 := by omega
      show (if i = 9 ∨ (((v % 128 + 128 : Nat) : Int) = 0 ∧ 0 < i) then none else if 127 < ((v % 128 + 128 : Nat) : Int) then decN (i + 1) (n + ((v % 128 + 128 : Nat) : Int).toNat % 128 * 128 ^ i) (encN (v / 128) ++ t) else _) = _
      have e2 : n + v % 128 * 128 ^ i + v / 128 * 128 ^ (i + 1) = n + v * 128 ^ i := by
        rw [Nat.pow_succ, Nat.add_assoc]
        congr 1
        have : v * 128 ^ i = (v % 128 + 128 * (v / 128)) * 128 ^ i := by rw [Nat.mod_add_div]
        rw [this, Nat.add_mul]
        congr 1
        rw [Nat.mul_comm (128 ^ i) 128, ← Nat.mul_assoc, Nat.mul_comm (v / 128) 128]
      rw [e, if_neg (by omega), if_pos (by omega), ih (v / 128) (by omega) (i + 1) _ t (by omega) (by omega), e2]
theorem dec_inv (bs : List Int) : ∀ (i n : Nat) (m : Nat) (t : List Int), isBy bs → decN i n bs = some (m, t) → ∃ v, bs = encN v ++ t ∧ m = n + v * 128 ^ i ∧ (i = 0 ∨ 0 < v) ∧ m ≤ 2 ^ 62 := by
  induction bs with
  | nil => intro i n m t _ h; simp [decN] at h
  | cons b bs ih =>
    intro i n m t hb h
    have hb0 := hb b (by simp)
    have hbt : isBy bs := fun x hx => hb x (by simp [hx])
    unfold decN at h
    split at h
    · cases h
    · rename_i h1
      split at h
      · rename_i h2
        obtain ⟨v, rfl, rfl, h3, h4⟩ := ih _ _ _ _ hbt h
        have hv : 0 < v := by omega
        refine ⟨b.toNat % 128 + 128 * v, ?_, ?_, by omega, h4⟩
        · rw [encN_high (v := b.toNat % 128 + 128 * v) (by omega)]
          have e1 : (b.toNat % 128 + 128 * v) / 128 = v := by omega
          have e2 : (((b.toNat % 128 + 128 * v) % 128 + 128 : Nat) : Int) = b := by omega
          rw [e1, e2]; rfl
        · rw [Nat.pow_succ, Nat.add_assoc]
          congr 1
          rw [Nat.add_mul]
          congr 1
          rw [Nat.mul_comm (128 ^ i) 128, ← Nat.mul_assoc, Nat.mul_comm v 128]
      · rename_i h2
        split at h
        · cases h
        · rename_i h3
          injection h with h
          injection h with ha hb'
          subst hb'
          refine ⟨b.toNat, ?_, ?_, by omega, by omega⟩
          · rw [encN_low (by omega)]
            have : ((b.toNat : Nat) : Int) = b := by omega
            rw [this]; rfl
          · rw [← ha, Nat.mod_eq_of_lt (by omega)]
theorem dec_enc0 (v : Nat) (t : List Int) (h : v ≤ 2 ^ 62) : decN 0 0 (encN v ++ t) = some (v, t) := by
  have := dec_enc v 0 0 t (Or.inl rfl) (by simpa using h)
  simpa using this
theorem dec_inv0 {bs t : List Int} {m : Nat} (hb : isBy bs) (h : decN 0 0 bs = some (m, t)) : bs = encN m ++ t ∧ m ≤ 2 ^ 62 := by
  obtain ⟨v, h1, h2, _, h4⟩ := dec_inv bs 0 0 m t hb h
  have : m = v := by simpa using h2
  subst this
  exact ⟨h1, h4⟩
/-- A reader: what is left; none: it erred. -/
abbrev RSt := Option (List Int)
def rNum : RSt → Nat × RSt
  | none => (0, none)
  | some bs => match decN 0 0 bs with
    | none => (0, none)
    | some (n, t) => (n, some t)
def rRaw (n : Nat) : RSt → List Int × RSt
  | none => ([], none)
  | some bs => if bs.length < n then ([], none) else (bs.take n, some (bs.drop n))
def rBytes (s : RSt) : List Int × RSt := rRaw (rNum s).1 (rNum s).2
theorem rNum_none : rNum none = (0, none) := rfl
theorem rNum_enc (v : Nat) (t : List Int) (h : v ≤ 2 ^ 62) : rNum (some (encN v ++ t)) = (v, some t) := by
  simp only [rNum, dec_enc0 v t h]
theorem rRaw_app (p t : List Int) : rRaw p.length (some (p ++ t)) = (p, some t) := by
  unfold rRaw; simp
theorem rBytes_enc (p t : List Int) (h : p.length ≤ 2 ^ 62) : rBytes (some (encN p.length ++ (p ++ t))) = (p, some t) := by
  unfold rBytes; rw [rNum_enc _ _ h]; exact rRaw_app p t
theorem rNum_inv {s : RSt} {n : Nat} {t : List Int} (hb : ∀ bs, s = some bs → isBy bs) (h : rNum s = (n, some t)) : s = some (encN n ++ t) ∧ n ≤ 2 ^ 62 := by
  cases s with
  | none => simp [rNum] at h
  | some bs =>
    unfold rNum at h
    cases hd : decN 0 0 bs with
    | none => simp [hd] at h
    | some p =>
      obtain ⟨m, t'⟩ := p
      simp [hd] at h
      obtain ⟨rfl, rfl⟩ := h
      have := dec_inv0 (hb bs rfl) hd
      exact ⟨by rw [this.1], this.2⟩
theorem rRaw_inv {s : RSt} {n : Nat} {p t : List Int} (h : rRaw n s = (p, some t)) : s = some (p ++ t) ∧ p.length = n := by
  cases s with
  | none => simp [rRaw] at h
  | some bs =>
    unfold rRaw at h
    simp only at h
    split at h
    · simp at h
    · rename_i hn
      simp at h
      obtain ⟨rfl, rfl⟩ := h
      exact ⟨by rw [List.take_append_drop], by rw [List.length_take]; omega⟩
theorem rBytes_inv {s : RSt} {p t : List Int} (hb : ∀ bs, s = some bs → isBy bs) (h : rBytes s = (p, some t)) : s = some (encN p.length ++ (p ++ t)) ∧ p.length ≤ 2 ^ 62 := by
  unfold rBytes at h
  obtain ⟨h1, h2⟩ := rRaw_inv h
  have h3 : rNum s = ((rNum s).1, some (p ++ t)) := by rw [← h1]
  obtain ⟨h4, h5⟩ := rNum_inv hb h3
  rw [h2]
  exact ⟨h4, h5⟩
/-- What a reader keeps is bytes. -/
def stBy (s : RSt) : Prop := ∀ bs, s = some bs → isBy bs
theorem decN_by (bs : List Int) : ∀ (i n m : Nat) (t : List Int), isBy bs → decN i n bs = some (m, t) → isBy t := by
  intro i n m t hb h
  obtain ⟨v, rfl, _⟩ := dec_inv bs i n m t hb h
  exact fun x hx => hb x (by simp [hx])
theorem rNum_by {s : RSt} (h : stBy s) : stBy (rNum s).2 := by
  cases s with
  | none => intro bs h'; cases h'
  | some bs =>
    cases hd : decN 0 0 bs with
    | none => intro bs' h'; simp [rNum, hd] at h'
    | some p => obtain ⟨m, t⟩ := p; intro bs' h'; simp [rNum, hd] at h'; subst h'; exact decN_by bs 0 0 m _ (h bs rfl) hd
theorem rNum_le {s : RSt} (h : stBy s) : (rNum s).1 ≤ 2 ^ 62 := by
  cases s with
  | none => simp [rNum]
  | some bs =>
    cases hd : decN 0 0 bs with
    | none => simp [rNum, hd]
    | some p => obtain ⟨m, t⟩ := p; simpa [rNum, hd] using (dec_inv0 (h bs rfl) hd).2
theorem rRaw_by {s : RSt} (n : Nat) (h : stBy s) : stBy (rRaw n s).2 ∧ isBy (rRaw n s).1 := by
  cases s with
  | none => exact ⟨(fun bs h' => by cases h'), isBy_nil⟩
  | some bs =>
    unfold rRaw
    simp only
    split
    · exact ⟨(fun bs h' => by cases h'), isBy_nil⟩
    · exact ⟨(fun bs' h' => by injection h' with h'; subst h'; exact isBy_drop (h bs rfl) n), isBy_take (h bs rfl) n⟩
theorem rBytes_by {s : RSt} (h : stBy s) : stBy (rBytes s).2 ∧ isBy (rBytes s).1 := rRaw_by _ (rNum_by h)
/-- How much is left. -/
def rLeft : RSt → Nat
  | none => 0
  | some bs => bs.length
theorem decN_len (bs : List Int) : ∀ (i n m : Nat) (t : List Int), decN i n bs = some (m, t) → t.length < bs.length := by
  induction bs with
  | nil => intro i n m t h; simp [decN] at h
  | cons b bs ih =>
    intro i n m t h
    unfold decN at h
    split at h
    · cases h
    · split at h
      · have := ih _ _ _ _ h; simp; omega
      · split at h
        · cases h
        · injection h with h; injection h with _ h; subst h; simp
theorem rNum_left (s : RSt) : rLeft (rNum s).2 ≤ rLeft s := by
  cases s with
  | none => simp [rNum, rLeft]
  | some bs =>
    cases hd : decN 0 0 bs with
    | none => simp [rNum, hd, rLeft]
    | some p => obtain ⟨m, t⟩ := p; have := decN_len bs 0 0 m t hd; simp [rNum, hd, rLeft]; omega
theorem rRaw_left (n : Nat) (s : RSt) : rLeft (rRaw n s).2 ≤ rLeft s ∧ (rRaw n s).1.length ≤ rLeft s := by
  cases s with
  | none => simp [rRaw, rLeft]
  | some bs =>
    unfold rRaw
    simp only
    split
    · simp [rLeft]
    · simp [rLeft]; omega
theorem rBytes_left (s : RSt) : rLeft (rBytes s).2 ≤ rLeft s ∧ (rBytes s).1.length ≤ rLeft s := by
  unfold rBytes
  have := rRaw_left (rNum s).1 (rNum s).2
  have := rNum_left s
  omega
end Go.Proofs.YtpflbhcgkndpcaaGreatDoor
