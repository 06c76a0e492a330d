/- Frames: a length, its sum, the bytes, their sum (plain mathematics). -/
import Derived.Test.YtdffldlcbihjmaaDoorCrc
set_option linter.unusedSimpArgs false
set_option linter.unusedVariables false
namespace Go.Proofs.YtdffldlcbihjmaaDoor

def enc4 (v : Nat) : List Int := [((v % 256 : Nat) : Int), ((v / 256 % 256 : Nat) : Int), ((v / 65536 % 256 : Nat) : Int), ((v / 16777216 % 256 : Nat) : Int)]
theorem enc4_len (v : Nat) : (enc4 v).length = 4 := rfl
theorem enc4_by (v : Nat) : isBy (enc4 v) := by
  intro x hx
  simp [enc4] at hx
  rcases hx with rfl | rfl | rfl | rfl <;> omega
def dec4 (l : List Int) : Nat := (l.getD 0 0).toNat + (l.getD 1 0).toNat * 256 + (l.getD 2 0).toNat * 65536 + (l.getD 3 0).toNat * 16777216
theorem dec4_enc4 (v : Nat) (r : List Int) (h : v < 4294967296) : dec4 (enc4 v ++ r) = v := by
  simp [dec4, enc4]
  omega
theorem getD_by {l : List Int} (hb : isBy l) (j : Nat) : 0 ≤ l.getD j 0 ∧ l.getD j 0 ≤ 255 := by
  rw [List.getD_eq_getElem?_getD]
  cases h : l[j]? with
  | none => simp
  | some x => exact hb x (List.mem_of_getElem? h)
theorem dec4_lt {l : List Int} (hb : isBy l) : dec4 l < 4294967296 := by
  have h0 := getD_by hb 0
  have h1 := getD_by hb 1
  have h2 := getD_by hb 2
  have h3 := getD_by hb 3
  unfold dec4
  omega
theorem enc4_dec4 {l : List Int} (hb : isBy l) (h : 4 ≤ l.length) : l.take 4 = enc4 (dec4 l) := by
  match l, h with
  | a :: b :: c :: d :: r, _ =>
    have h0 := hb a (by simp)
    have h1 := hb b (by simp)
    have h2 := hb c (by simp)
    have h3 := hb d (by simp)
    simp [dec4, enc4]
    omega
theorem enc4_inj {a b : Nat} (ha : a < 4294967296) (hb : b < 4294967296) (h : enc4 a = enc4 b) : a = b := by
  have h1 := dec4_enc4 a [] ha
  have h2 := dec4_enc4 b [] hb
  rw [h] at h1
  exact h1.symm.trans h2
/-- A frame's head. -/
def hdE (n : Nat) : List Int := enc4 n ++ enc4 (sumL (enc4 n))
theorem hdE_len (n : Nat) : (hdE n).length = 8 := rfl
theorem hdE_by (n : Nat) : isBy (hdE n) := isBy_append (enc4_by _) (enc4_by _)
def frE (p : List Int) : List Int := (hdE p.length ++ p) ++ enc4 (sumL (hdE p.length ++ p))
theorem frE_len (p : List Int) : (frE p).length = 12 + p.length := by
  simp [frE, hdE_len, enc4_len]
  omega
theorem frE_by {p : List Int} (h : isBy p) : isBy (frE p) := isBy_append (isBy_append (hdE_by _) h) (enc4_by _)
/-- What is told of the frame that bytes begin with. -/
def frC (b : List Int) : Int :=
  if b.length < 8 then 2 else if dec4 (b.drop 4) ≠ sumL (b.take 4) then 4 else if 262144 < dec4 b then 5 else if b.length < 12 + dec4 b then 2
  else if dec4 (b.drop (8 + dec4 b)) ≠ sumL (b.take (8 + dec4 b)) then 4 else 0
def frP (b : List Int) : List Int := (b.drop 8).take (dec4 b)
def frO (b : List Int) : Int := if frC b = 0 then (if 12 + dec4 b = b.length then 0 else 3) else frC b
theorem frC_short {b : List Int} (h : b.length < 8) : frC b = 2 := by unfold frC; rw [if_pos h]
theorem frC_hsum {b : List Int} (h : ¬ b.length < 8) (h2 : dec4 (b.drop 4) ≠ sumL (b.take 4)) : frC b = 4 := by unfold frC; rw [if_neg h, if_pos h2]
theorem frC_long {b : List Int} (h : ¬ b.length < 8) (h2 : dec4 (b.drop 4) = sumL (b.take 4)) (h3 : 262144 < dec4 b) : frC b = 5 := by unfold frC; rw [if_neg h, if_neg (fun hh => hh h2), if_pos h3]
theorem frC_cut {b : List Int} (h : ¬ b.length < 8) (h2 : dec4 (b.drop 4) = sumL (b.take 4)) (h3 : ¬ 262144 < dec4 b) (h4 : b.length < 12 + dec4 b) : frC b = 2 := by unfold frC; rw [if_neg h, if_neg (fun hh => hh h2), if_neg h3, if_pos h4]
theorem frC_bsum {b : List Int} (h : ¬ b.length < 8) (h2 : dec4 (b.drop 4) = sumL (b.take 4)) (h3 : ¬ 262144 < dec4 b) (h4 : ¬ b.length < 12 + dec4 b) (h5 : dec4 (b.drop (8 + dec4 b)) ≠ sumL (b.take (8 + dec4 b))) : frC b = 4 := by unfold frC; rw [if_neg h, if_neg (fun hh => hh h2), if_neg h3, if_neg h4, if_pos h5]
theorem frC_yes {b : List Int} (h : ¬ b.length < 8) (h2 : dec4 (b.drop 4) = sumL (b.take 4)) (h3 : ¬ 262144 < dec4 b) (h4 : ¬ b.length < 12 + dec4 b) (h5 : dec4 (b.drop (8 + dec4 b)) = sumL (b.take (8 + dec4 b))) : frC b = 0 := by unfold frC; rw [if_neg h, if_neg (fun hh => hh h2), if_neg h3, if_neg h4, if_neg (fun hh => hh h5)]
theorem frC_inv {b : List Int} (h : frC b = 0) : ¬ b.length < 8 ∧ dec4 (b.drop 4) = sumL (b.take 4) ∧ ¬ 262144 < dec4 b ∧ ¬ b.length < 12 + dec4 b ∧ dec4 (b.drop (8 + dec4 b)) = sumL (b.take (8 + dec4 b)) := by
  unfold frC at h
  split at h
  · cases h
  rename_i h1
  split at h
  · cases h
  rename_i h2
  split at h
  · cases h
  rename_i h3
  split at h
  · cases h
  rename_i h4
  split at h
  · cases h
  rename_i h5
  exact ⟨h1, Classical.not_not.1 h2, h3, h4, Classical.not_not.1 h5⟩
theorem sum_lt {l : List Int} (h : isBy l) : sumL l < 4294967296 := by have := sumL_le h; omega
/-- A frame with whatever behind it is read back. -/
theorem fr_back {p r : List Int} (hp : isBy p) (hl : p.length ≤ 262144) : frC (frE p ++ r) = 0 ∧ dec4 (frE p ++ r) = p.length ∧ frP (frE p ++ r) = p := by
  have hd : dec4 (frE p ++ r) = p.length := by
    unfold frE hdE
    rw [List.append_assoc, List.append_assoc, List.append_assoc, dec4_enc4 _ _ (by omega)]
  have e4 : (frE p ++ r).drop 4 = enc4 (sumL (enc4 p.length)) ++ (p ++ (enc4 (sumL (hdE p.length ++ p)) ++ r)) := by
    unfold frE hdE
    simp [enc4]
  have t4 : (frE p ++ r).take 4 = enc4 p.length := by
    unfold frE hdE
    simp [enc4]
  have e8 : (frE p ++ r).drop 8 = p ++ (enc4 (sumL (hdE p.length ++ p)) ++ r) := by
    unfold frE hdE
    simp [enc4]
  have t8 : (frE p ++ r).take (8 + p.length) = hdE p.length ++ p := by
    have hl8 : (hdE p.length ++ p).length = 8 + p.length := by simp [hdE_len]
    unfold frE
    rw [List.append_assoc, List.take_append_of_le_length (by omega), List.take_of_length_le (by omega)]
  have d8 : (frE p ++ r).drop (8 + p.length) = enc4 (sumL (hdE p.length ++ p)) ++ r := by
    rw [← List.drop_drop, e8, List.drop_left]
  have hlen : (frE p ++ r).length = 12 + p.length + r.length := by rw [List.length_append, frE_len]
  refine ⟨frC_yes (by omega) ?_ (by omega) (by omega) ?_, hd, ?_⟩
  · rw [e4, t4, dec4_enc4 _ _ (sum_lt (enc4_by _))]
  · rw [hd, t8, d8, dec4_enc4 _ _ (sum_lt (isBy_append (hdE_by _) hp))]
  · unfold frP
    rw [hd, e8, List.take_left]
theorem fr_inv {b : List Int} (hb : isBy b) (h : frC b = 0) : (frP b).length = dec4 b ∧ dec4 b ≤ 262144 ∧ isBy (frP b) ∧ b = frE (frP b) ++ b.drop (12 + dec4 b) := by
  obtain ⟨h1, h2, h3, h4, h5⟩ := frC_inv h
  have hpl : (frP b).length = dec4 b := by unfold frP; rw [List.length_take, List.length_drop]; omega
  refine ⟨hpl, by omega, isBy_take (isBy_drop hb 8) _, ?_⟩
  have a1 : b.take 4 = enc4 (dec4 b) := enc4_dec4 hb (by omega)
  have a2 : (b.drop 4).take 4 = enc4 (sumL (enc4 (dec4 b))) := by
    rw [enc4_dec4 (isBy_drop hb 4) (by rw [List.length_drop]; omega), h2, a1]
  have a3 : b.take 8 = hdE (dec4 b) := by
    have : b.take 8 = b.take 4 ++ (b.drop 4).take 4 := by rw [← List.take_add]
    rw [this, a1, a2]; rfl
  have a4 : b.take (8 + dec4 b) = hdE (dec4 b) ++ frP b := by
    rw [List.take_add, a3]; rfl
  have a5 : (b.drop (8 + dec4 b)).take 4 = enc4 (sumL (hdE (dec4 b) ++ frP b)) := by
    rw [enc4_dec4 (isBy_drop hb _) (by rw [List.length_drop]; omega), h5, a4]
  have a6 : b = b.take (8 + dec4 b) ++ ((b.drop (8 + dec4 b)).take 4 ++ b.drop (12 + dec4 b)) := by
    have : b.drop (12 + dec4 b) = (b.drop (8 + dec4 b)).drop 4 := by rw [List.drop_drop]; congr 1; omega
    rw [this, List.take_append_drop, List.take_append_drop]
  conv => lhs; rw [a6]
  rw [a4, a5]
  unfold frE
  rw [hpl]
  simp only [List.append_assoc]
theorem frO_inv {b : List Int} (hb : isBy b) (h : frO b = 0) : (frP b).length ≤ 262144 ∧ isBy (frP b) ∧ b = frE (frP b) ∧ frC b = 0 := by
  unfold frO at h
  split at h
  · rename_i hc
    split at h
    · rename_i hl
      obtain ⟨h1, h2, h3, h4⟩ := fr_inv hb hc
      refine ⟨by omega, h3, ?_, hc⟩
      rw [List.drop_of_length_le (by omega), List.append_nil] at h4
      exact h4
    · cases h
  · rename_i hc
    exact absurd h hc
theorem frO_back {p : List Int} (hp : isBy p) (hl : p.length ≤ 262144) : frO (frE p) = 0 ∧ frP (frE p) = p := by
  obtain ⟨h1, h2, h3⟩ := fr_back (r := []) hp hl
  rw [List.append_nil] at h1 h2 h3
  refine ⟨?_, h3⟩
  unfold frO
  rw [if_pos h1, if_pos (by rw [h2, frE_len])]
theorem frO_more {p r : List Int} (hp : isBy p) (hl : p.length ≤ 262144) (hr : 0 < r.length) : frO (frE p ++ r) = 3 := by
  obtain ⟨h1, h2, _⟩ := fr_back (r := r) hp hl
  unfold frO
  rw [if_pos h1, if_neg (by rw [h2, List.length_append, frE_len]; omega)]
end Go.Proofs.YtdffldlcbihjmaaDoor
