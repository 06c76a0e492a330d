/- frame.Encode of one row; the reference's Encode of a frame. -/
import Derived.Test.YtpflbhcgkndpcaaGreatDoorG16t
import Derived.Test.YtpflbhcgkndpcaaGreatDoorG16t
import Derived.Test.YtpflbhcgkndpcaaGreatDoorG16m
import Derived.BigQuiet
import Derived.Laws.OwnMore
/- Frames: a length, its sum, the bytes, their sum (plain mathematics). -/
set_option linter.unusedSimpArgs false
set_option linter.unusedVariables false
namespace Go.Proofs.YtpflbhcgkndpcaaGreatDoor

def enc4 (v : Nat) : List Int := [((v % 256 : Nat) : Int), ((v / 256 % 256 : Nat) : Int), ((v / 65536 % 256 : Nat) : Int), ((v / 16777216 % 256 : Nat) : Int)]
theorem enc4_len (v : Nat) : (enc4 v).length = 4 := rfl
theorem enc4_by (v : Nat) : isBy (enc4 v) := by
  intro x hx
  simp [enc4] at hx
  rcases hx with rfl | rfl | rfl | rfl <;> omega
def dec4 (l : List Int) : Nat := (l.getD 0 0).toNat + (l.getD 1 0).toNat * 256 + (l.getD 2 0).toNat * 65536 + (l.getD 3 0).toNat * 16777216
theorem dec4_enc4 (v : Nat) (r : List Int) (h : v < 4294967296) : dec4 (enc4 v ++ r) = v := by
  simp [dec4, enc4]
  omega
theorem getD_by {l : List Int} (hb : isBy l) (j : Nat) : 0 ≤ l.getD j 0 ∧ l.getD j 0 ≤ 255 := by
  rw [List.getD_eq_getElem?_getD]
  cases h : l[j]? with
  | none => simp
  | some x => exact hb x (List.mem_of_getElem? h)
theorem dec4_lt {l : List Int} (hb : isBy l) : dec4 l < 4294967296 := by
  have h0 := getD_by hb 0
  have h1 := getD_by hb 1
  have h2 := getD_by hb 2
  have h3 := getD_by hb 3
  unfold dec4
  omega
theorem enc4_dec4 {l : List Int} (hb : isBy l) (h : 4 ≤ l.length) : l.take 4 = enc4 (dec4 l) := by
  match l, h with
  | a :: b :: c :: d :: r, _ =>
    have h0 := hb a (by simp)
    have h1 := hb b (by simp)
    have h2 := hb c (by simp)
    have h3 := hb d (by simp)
    simp [dec4, enc4]
    omega
theorem enc4_inj {a b : Nat} (ha : a < 4294967296) (hb : b < 4294967296) (h : enc4 a = enc4 b) : a = b := by
  have h1 := dec4_enc4 a [] ha
  have h2 := dec4_enc4 b [] hb
  rw [h] at h1
  exact h1.symm.trans h2
/-- A frame's head. -/
def hdE (n : Nat) : List Int := enc4 n ++ enc4 (sumL (enc4 n))
theorem hdE_len (n : Nat) : (hdE n).length = 8 := rfl
theorem hdE_by (n : Nat) : isBy (hdE n) := isBy_append (enc4_by _) (enc4_by _)
def frE (p : List Int) : List Int := (hdE p.length ++ p) ++ enc4 (sumL (hdE p.length ++ p))
theorem frE_len (p : List Int) : (frE p).length = 12 + p.length := by
  simp [frE, hdE_len, enc4_len]
  omega
theorem frE_by {p : List Int} (h : isBy p) : isBy (frE p) := isBy_append (isBy_append (hdE_by _) h) (enc4_by _)
/-- What is told of the frame that bytes begin with. -/
def frC (b : List Int) : Int :=
  if b.length < 8 then 2 else if dec4 (b.drop 4) ≠ sumL (b.take 4) then 4 else if 262144 < dec4 b then 5 else if b.length < 12 + dec4 b then 2
  else if dec4 (b.drop (8 + dec4 b)) ≠ sumL (b.take (8 + dec4 b)) then 4 else 0
def frP (b : List Int) : List Int := (b.drop 8).take (dec4 b)
def frO (b : List Int) : Int := if frC b = 0 then (if 12 + dec4 b = b.length then 0 else 3) else frC b
theorem frC_short {b : List Int} (h : b.length < 8) : frC b = 2 := by unfold frC; rw [if_pos h]
theorem frC_hsum {b : List Int} (h : ¬ b.length < 8) (h2 : dec4 (b.drop 4) ≠ sumL (b.take 4)) : frC b = 4 := by unfold frC; rw [if_neg h, if_pos h2]
theorem frC_long {b : List Int} (h : ¬ b.length < 8) (h2 : dec4 (b.drop 4) = sumL (b.take 4)) (h3 : 262144 < dec4 b) : frC b = 5 := by unfold frC; rw [if_neg h, if_neg (fun hh => hh h2), if_pos h3]
theorem frC_cut {b : List Int} (h : ¬ b.length < 8) (h2 : dec4 (b.drop 4) = sumL (b.take 4)) (h3 : ¬ 262144 < dec4 b) (h4 : b.length < 12 + dec4 b) : frC b = 2 := by unfold frC; rw [if_neg h, if_neg (fun hh => hh h2), if_neg h3, if_pos h4]
theorem frC_bsum {b : List Int} (h : ¬ b.length < 8) (h2 : dec4 (b.drop 4) = sumL (b.take 4)) (h3 : ¬ 262144 < dec4 b) (h4 : ¬ b.length < 12 + dec4 b) (h5 : dec4 (b.drop (8 + dec4 b)) ≠ sumL (b.take (8 + dec4 b))) : frC b = 4 := by unfold frC; rw [if_neg h, if_neg (fun hh => hh h2), if_neg h3, if_neg h4, if_pos h5]
theorem frC_yes {b : List Int} (h : ¬ b.length < 8) (h2 : dec4 (b.drop 4) = sumL (b.take 4)) (h3 : ¬ 262144 < dec4 b) (h4 : ¬ b.length < 12 + dec4 b) (h5 : dec4 (b.drop (8 + dec4 b)) = sumL (b.take (8 + dec4 b))) : frC b = 0 := by unfold frC; rw [if_neg h, if_neg (fun hh => hh h2), if_neg h3, if_neg h4, if_neg (fun hh => hh h5)]
theorem frC_inv {b : List Int} (h : frC b = 0) : ¬ b.length < 8 ∧ dec4 (b.drop 4) = sumL (b.take 4) ∧ ¬ 262144 < dec4 b ∧ ¬ b.length < 12 + dec4 b ∧ dec4 (b.drop (8 + dec4 b)) = sumL (b.take (8 + dec4 b)) := by
  unfold frC at h
  split at h
  · cases h
  rename_i h1
  split at h
  · cases h
  rename_i h2
  split at h
  · cases h
  rename_i h3
  split at h
  · cases h
  rename_i h4
  split at h
  · cases h
  rename_i h5
  exact ⟨h1, Classical.not_not.1 h2, h3, h4, Classical.not_not.1 h5⟩
theorem sum_lt {l : List Int} (h : isBy l) : sumL l < 4294967296 := by have := sumL_le h; omega
/-- A frame with whatever behind it is read back. -/
theorem fr_back {p r : List Int} (hp : isBy p) (hl : p.length ≤ 262144) : frC (frE p ++ r) = 0 ∧ dec4 (frE p ++ r) = p.length ∧ frP (frE p ++ r) = p := by
  have hd : dec4 (frE p ++ r) = p.length := by
    unfold frE hdE
    rw [List.append_assoc, List.append_assoc, List.append_assoc, dec4_enc4 _ _ (by omega)]
  have e4 : (frE p ++ r).drop 4 = enc4 (sumL (enc4 p.length)) ++ (p ++ (enc4 (sumL (hdE p.length ++ p)) ++ r)) := by
    unfold frE hdE
    simp [enc4]
  have t4 : (frE p ++ r).take 4 = enc4 p.length := by
    unfold frE hdE
    simp [enc4]
  have e8 : (frE p ++ r).drop 8 = p ++ (enc4 (sumL (hdE p.length ++ p)) ++ r) := by
    unfold frE hdE
    simp [enc4]
  have t8 : (frE p ++ r).take (8 + p.length) = hdE p.length ++ p := by
    have hl8 : (hdE p.length ++ p).length = 8 + p.length := by simp [hdE_len]
    unfold frE
    rw [List.append_assoc, List.take_append_of_le_length (by omega), List.take_of_length_le (by omega)]
  have d8 : (frE p ++ r).drop (8 + p.length) = enc4 (sumL (hdE p.length ++ p)) ++ r := by
    rw [← List.drop_drop, e8, List.drop_left]
  have hlen : (frE p ++ r).length = 12 + p.length + r.length := by rw [List.length_append, frE_len]
  refine ⟨frC_yes (by omega) ?_ (by omega) (by omega) ?_, hd, ?_⟩
  · rw [e4, t4, dec4_enc4 _ _ (sum_lt (enc4_by _))]
  · rw [hd, t8, d8, dec4_enc4 _ _ (sum_lt (isBy_append (hdE_by _) hp))]
  · unfold frP
    rw [hd, e8, List.take_left]
theorem fr_inv {b : List Int} (hb : isBy b) (h : frC b = 0) : (frP b).length = dec4 b ∧ dec4 b ≤ 262144 ∧ isBy (frP b) ∧ b = frE (frP b) ++ b.drop (12 + dec4 b) := by
  obtain ⟨h1, h2, h3, h4, h5⟩ := frC_inv h
  have hpl : (frP b).length = dec4 b := by unfold frP; rw [List.length_take, List.length_drop]; omega
  refine ⟨hpl, by omega, isBy_take (isBy_drop hb 8) _, ?_⟩
  have a1 : b.take 4 = enc4 (dec4 b) := enc4_dec4 hb (by omega)
  have a2 : (b.drop 4).take 4 = enc4 (sumL (enc4 (dec4 b))) := by
    rw [enc4_dec4 (isBy_drop hb 4) (by rw [List.length_drop]; omega), h2, a1]
  have a3 : b.take 8 = hdE (dec4 b) := by
    have : b.take 8 = b.take 4 ++ (b.drop 4).take 4 := by rw [← List.take_add]
    rw [this, a1, a2]; rfl
  have a4 : b.take (8 + dec4 b) = hdE (dec4 b) ++ frP b := by
    rw [List.take_add, a3]; rfl
  have a5 : (b.drop (8 + dec4 b)).take 4 = enc4 (sumL (hdE (dec4 b) ++ frP b)) := by
    rw [enc4_dec4 (isBy_drop hb _) (by rw [List.length_drop]; omega), h5, a4]
  have a6 : b = b.take (8 + dec4 b) ++ ((b.drop (8 + dec4 b)).take 4 ++ b.drop (12 + dec4 b)) := by
    have : b.drop (12 + dec4 b) = (b.drop (8 + dec4 b)).drop 4 := by rw [List.drop_drop]; congr 1; omega
    rw [this, List.take_append_drop, List.take_append_drop]
  conv => lhs; rw [a6]
  rw [a4, a5]
  unfold frE
  rw [hpl]
  simp only [List.append_assoc]
theorem frO_inv {b : List Int} (hb : isBy b) (h : frO b = 0) : (frP b).length ≤ 262144 ∧ isBy (frP b) ∧ b = frE (frP b) ∧ frC b = 0 := by
  unfold frO at h
  split at h
  · rename_i hc
    split at h
    · rename_i hl
      obtain ⟨h1, h2, h3, h4⟩ := fr_inv hb hc
      refine ⟨by omega, h3, ?_, hc⟩
      rw [List.drop_of_length_le (by omega), List.append_nil] at h4
      exact h4
    · cases h
  · rename_i hc
    exact absurd h hc
theorem frO_back {p : List Int} (hp : isBy p) (hl : p.length ≤ 262144) : frO (frE p) = 0 ∧ frP (frE p) = p := by
  obtain ⟨h1, h2, h3⟩ := fr_back (r := []) hp hl
  rw [List.append_nil] at h1 h2 h3
  refine ⟨?_, h3⟩
  unfold frO
  rw [if_pos h1, if_pos (by rw [h2, frE_len])]
theorem frO_more {p r : List Int} (hp : isBy p) (hl : p.length ≤ 262144) (hr : 0 < r.length) : frO (frE p ++ r) = 3 := by
  obtain ⟨h1, h2, _⟩ := fr_back (r := r) hp hl
  unfold frO
  rw [if_pos h1, if_neg (by rw [h2, List.length_append, frE_len]; omega)]
end Go.Proofs.YtpflbhcgkndpcaaGreatDoor

/- Four bytes of a number and back, of the code and of the reference. -/
namespace Go.Proofs.YtpflbhcgkndpcaaGreatDoor
open Go.RowKit Go.Sort

theorem u8mod (n : Nat) : IntKind.u8.wrap (n : Int) = ((n % 256 : Nat) : Int) := by
  have : IntKind.u8.wrap (n : Int) = (n : Int) % 256 := by simp [IntKind.wrap, IntKind.bits, IntKind.signed]
  rw [this]; omega
theorem or_add (a b k : Nat) (ha : a < 2 ^ k) (hs : a + b * 2 ^ k < 4294967296) : bits .or .u32 (a : Int) ((b * 2 ^ k : Nat) : Int) = ((a + b * 2 ^ k : Nat) : Int) := by
  show IntKind.u32.wrap ((BitVec.ofInt 32 (a : Int) ||| BitVec.ofInt 32 ((b * 2 ^ k : Nat) : Int)).toNat : Int) = _
  have e1 : (BitVec.ofInt 32 (a : Int)).toNat = a := by rw [BitVec.ofInt_natCast, BitVec.toNat_ofNat]; exact Nat.mod_eq_of_lt (by omega)
  have e2 : (BitVec.ofInt 32 ((b * 2 ^ k : Nat) : Int)).toNat = b * 2 ^ k := by rw [BitVec.ofInt_natCast, BitVec.toNat_ofNat]; exact Nat.mod_eq_of_lt (by omega)
  have e3 : a ||| b * 2 ^ k = a + b * 2 ^ k := by
    have := Nat.two_pow_add_eq_or_of_lt (i := k) (b := a) ha b
    rw [Nat.or_comm, Nat.mul_comm b, ← this, Nat.add_comm]
  rw [BitVec.toNat_or, e1, e2, e3, IntWalk.u32_in _ (by omega)]
set_option maxRecDepth 100000 in
set_option maxHeartbeats 4000000 in
theorem fr_lay (base : Nat) (v : Value) (l : List Int) (n : Nat) (w : World) (hrow : w.ownsRow base 5 1 v l.length (bC l)) (hbw : base ≤ w.heap.size) (hn : n < 4294967296) (hl : l.length ≤ 1000000) :
    Calls Tryz.prog 155 #[v, .int .u32 (n : Int)] w fun e w' => ∃ g cap, e = .returned (.slice (some ⟨g, 0, none⟩) (l.length + 4) cap) ∧ w'.ownsRow base 5 1 (.slice (some ⟨g, 0, none⟩) (l.length + 4) cap) (l.length + 4) (bC (l ++ enc4 n)) ∧ Below base w w' := by
  obtain ⟨i0, hi0, hz0, hz1, hz2⟩ := info_parts u8_info
  obtain ⟨A, c, rfl, _⟩ := Own8.bytes hrow
  have t0 := u8mod n
  have q1 : (n : Int) / 256 = ((n / 256 : Nat) : Int) := rfl
  have q2 : (n : Int) / 65536 = ((n / 65536 : Nat) : Int) := rfl
  have q3 : (n : Int) / 16777216 = ((n / 16777216 : Nat) : Int) := rfl
  have t1 := u8mod (n / 256)
  have t2 := u8mod (n / 65536)
  have t3 := u8mod (n / 16777216)
  rw [← q1] at t1
  rw [← q2] at t2
  rw [← q3] at t3
  have HE : Hid (bC (l ++ enc4 n) = bC l ++ [.int .u8 ((n % 256 : Nat) : Int), .int .u8 ((n / 256 % 256 : Nat) : Int), .int .u8 ((n / 65536 % 256 : Nat) : Int), .int .u8 ((n / 16777216 % 256 : Nat) : Int)]) := Lib.hid (by rw [bC_append]; rfl)
  have hni : (n : Int) < 4294967296 := by omega
  clear q1 q2 q3
  generalize ((n % 256 : Nat) : Int) = y0 at *
  generalize ((n / 256 % 256 : Nat) : Int) = y1 at *
  generalize ((n / 65536 % 256 : Nat) : Int) = y2 at *
  generalize ((n / 16777216 % 256 : Nat) : Int) = y3 at *
  go_enter Tryz.func155, Tryz.ntmps155
  go_wp2_with (at_builtin; refine wpList_append_lies _ rfl (.tmp 5) (.tmp 17) _ rfl base 5 i0 _ 1 1 Tryz.underlying42 hi0 hz0 hz1 hz2 rfl (by decide) (.slice A l.length c) l.length (bC l) rfl (World.ownsRow.alloc hrow _) ⟨w.heap.size, 0, none⟩ 4 4 [.int .u8 y0, .int .u8 y1, .int .u8 y2, .int .u8 y3] rfl rfl (World.news_of_block (cs := #[.int .u8 y0, .int .u8 y1, .int .u8 y2, .int .u8 y3]) (t := 5) (fr := (0, 0)) (heap_alloc_new w _)) (by simp [Value.oneCell']) (by omega) (by unfold maxLen; omega) (by omega) (by simp; omega) _ rfl ?_; intro g2 cap2 w2 hown2 hg2 hat2 hlt2)
  go_ret
  refine ⟨g2, cap2, rfl, by rw [HE.out]; exact hown2, ?_⟩
  have hb1 : Below base w (w.alloc (.cells #[.int .u8 y0, .int .u8 y1, .int .u8 y2, .int .u8 y3] 5)) := (Below.refl base w).alloc hbw _
  exact hb1.grown hg2 (by simp; omega) (fun k hk => (World.ownsRow.lt hrow k hk).1)
/-- What four bytes tell. -/
theorem dec4_steps {l : List Int} (hb : isBy l) (h : 4 ≤ l.length) : ∃ b0 b1 b2 b3 : Nat, b0 ≤ 255 ∧ b1 ≤ 255 ∧ b2 ≤ 255 ∧ b3 ≤ 255 ∧ l[0]'(by omega) = (b0 : Int) ∧ l[1]'(by omega) = (b1 : Int) ∧ l[2]'(by omega) = (b2 : Int) ∧ l[3]'(by omega) = (b3 : Int) ∧ dec4 l = b0 + b1 * 256 + b2 * 65536 + b3 * 16777216 := by
  match l, h with
  | a :: b :: c :: d :: r, _ =>
    have h0 := hb a (by simp)
    have h1 := hb b (by simp)
    have h2 := hb c (by simp)
    have h3 := hb d (by simp)
    exact ⟨a.toNat, b.toNat, c.toNat, d.toNat, by omega, by omega, by omega, by omega, by simp; omega, by simp; omega, by simp; omega, by simp; omega, by simp [dec4]⟩
set_option maxRecDepth 100000 in
set_option maxHeartbeats 4000000 in
theorem fr_take (A : Option Addr) (l : List Int) (c : Nat) (w : World) (hby : ByL w A l) (hb : isBy l) (h4 : 4 ≤ l.length) :
    Calls Tryz.prog 171 #[.slice A l.length c] w fun e w' => e = .returned (.int .u32 (dec4 l : Nat)) ∧ ∃ q, w' = w.drewN q := by
  obtain ⟨B, O, rfl, hB, hc⟩ := hby (by omega)
  obtain ⟨b0, b1, b2, b3, l0, l1, l2, l3, e0, e1, e2, e3, hd⟩ := dec4_steps hb h4
  have x0 := hc 0 _ (bC_at l 0 (by omega))
  have x1 := hc 1 _ (bC_at l 1 (by omega))
  have x2 := hc 2 _ (bC_at l 2 (by omega))
  have x3 := hc 3 _ (bC_at l 3 (by omega))
  rw [e0] at x0
  rw [e1] at x1
  rw [e2] at x2
  rw [e3] at x3
  rw [hd]
  have h4i : (4 : Int) ≤ (l.length : Int) := by omega
  have g0 : (0 : Int) < (l.length : Int) := by omega
  have g1 : (1 : Int) < (l.length : Int) := by omega
  have g2 : (2 : Int) < (l.length : Int) := by omega
  have g3 : (3 : Int) < (l.length : Int) := by omega
  clear hc e0 e1 e2 e3 hd hby hb h4
  rw [Nat.add_zero] at x0
  have w0 : IntKind.u32.wrap (b0 : Int) = (b0 : Int) := IntWalk.u32_in _ (by omega)
  have w1 : IntKind.u32.wrap (b1 : Int) = (b1 : Int) := IntWalk.u32_in _ (by omega)
  have w2 : IntKind.u32.wrap (b2 : Int) = (b2 : Int) := IntWalk.u32_in _ (by omega)
  have w3 : IntKind.u32.wrap (b3 : Int) = (b3 : Int) := IntWalk.u32_in _ (by omega)
  have s1 : IntKind.u32.wrap ((b1 : Int) * 256) = ((b1 * 256 : Nat) : Int) := by rw [IntWalk.u32_in _ (by omega)]; omega
  have s2 : IntKind.u32.wrap ((b2 : Int) * 65536) = ((b2 * 65536 : Nat) : Int) := by rw [IntWalk.u32_in _ (by omega)]; omega
  have s3 : IntKind.u32.wrap ((b3 : Int) * 16777216) = ((b3 * 16777216 : Nat) : Int) := by rw [IntWalk.u32_in _ (by omega)]; omega
  have o1 := or_add b0 b1 8 (by omega) (by omega)
  have o2 := or_add (b0 + b1 * 2 ^ 8) b2 16 (by omega) (by omega)
  have o3 := or_add (b0 + b1 * 2 ^ 8 + b2 * 2 ^ 16) b3 24 (by omega) (by omega)
  have p8 : (2 : Nat) ^ 8 = 256 := by decide
  have p16 : (2 : Nat) ^ 16 = 65536 := by decide
  have p24 : (2 : Nat) ^ 24 = 16777216 := by decide
  rw [p8] at o1 o2 o3
  rw [p16] at o2 o3
  rw [p24] at o3
  clear p8 p16 p24
  obtain ⟨c1, hc1⟩ : ∃ c, b1 * 256 = c := ⟨_, rfl⟩
  obtain ⟨c2, hc2⟩ : ∃ c, b2 * 65536 = c := ⟨_, rfl⟩
  obtain ⟨c3, hc3⟩ : ∃ c, b3 * 16777216 = c := ⟨_, rfl⟩
  rw [hc1] at s1 o1 o2 o3 ⊢
  rw [hc2] at s2 o2 o3 ⊢
  rw [hc3] at s3 o3 ⊢
  obtain ⟨d1, hd1⟩ : ∃ c, b0 + c1 = c := ⟨_, rfl⟩
  rw [hd1] at o1 o2 o3 ⊢
  obtain ⟨d2, hd2⟩ : ∃ c, d1 + c2 = c := ⟨_, rfl⟩
  rw [hd2] at o2 o3 ⊢
  obtain ⟨d3, hd3⟩ : ∃ c, d2 + c3 = c := ⟨_, rfl⟩
  rw [hd3] at o3 ⊢
  clear hc1 hc2 hc3 hd1 hd2 hd3
  go_enter Tryz.func171, Tryz.ntmps171
  go_wp2
  go_quiet (fail)
  go_wp2
  go_ret
  exact ⟨rfl, _, rfl⟩
set_option maxRecDepth 100000 in
set_option maxHeartbeats 4000000 in
theorem ref_fromfour (A : Option Addr) (l : List Int) (c : Nat) (w : World) (hby : ByL w A l) (hb : isBy l) (h4 : 4 ≤ l.length) :
    Calls Tryz.prog 225 #[.slice A l.length c] w fun e w' => e = .returned (.int .u32 (dec4 l : Nat)) ∧ ∃ q, w' = w.drewN q := by
  obtain ⟨B, O, rfl, hB, hc⟩ := hby (by omega)
  obtain ⟨b0, b1, b2, b3, l0, l1, l2, l3, e0, e1, e2, e3, hd⟩ := dec4_steps hb h4
  have x0 := hc 0 _ (bC_at l 0 (by omega))
  have x1 := hc 1 _ (bC_at l 1 (by omega))
  have x2 := hc 2 _ (bC_at l 2 (by omega))
  have x3 := hc 3 _ (bC_at l 3 (by omega))
  rw [e0] at x0
  rw [e1] at x1
  rw [e2] at x2
  rw [e3] at x3
  rw [hd]
  have h4i : (4 : Int) ≤ (l.length : Int) := by omega
  have g0 : (0 : Int) < (l.length : Int) := by omega
  have g1 : (1 : Int) < (l.length : Int) := by omega
  have g2 : (2 : Int) < (l.length : Int) := by omega
  have g3 : (3 : Int) < (l.length : Int) := by omega
  clear hc e0 e1 e2 e3 hd hby hb h4
  rw [Nat.add_zero] at x0
  have w0 : IntKind.u32.wrap (b0 : Int) = (b0 : Int) := IntWalk.u32_in _ (by omega)
  have w1 : IntKind.u32.wrap (b1 : Int) = (b1 : Int) := IntWalk.u32_in _ (by omega)
  have w2 : IntKind.u32.wrap (b2 : Int) = (b2 : Int) := IntWalk.u32_in _ (by omega)
  have w3 : IntKind.u32.wrap (b3 : Int) = (b3 : Int) := IntWalk.u32_in _ (by omega)
  have s1 : IntKind.u32.wrap ((b1 : Int) * 256) = ((b1 * 256 : Nat) : Int) := by rw [IntWalk.u32_in _ (by omega)]; omega
  have s2 : IntKind.u32.wrap ((b2 : Int) * 65536) = ((b2 * 65536 : Nat) : Int) := by rw [IntWalk.u32_in _ (by omega)]; omega
  have s3 : IntKind.u32.wrap ((b3 : Int) * 16777216) = ((b3 * 16777216 : Nat) : Int) := by rw [IntWalk.u32_in _ (by omega)]; omega
  have o1 := or_add b0 b1 8 (by omega) (by omega)
  have o2 := or_add (b0 + b1 * 2 ^ 8) b2 16 (by omega) (by omega)
  have o3 := or_add (b0 + b1 * 2 ^ 8 + b2 * 2 ^ 16) b3 24 (by omega) (by omega)
  have p8 : (2 : Nat) ^ 8 = 256 := by decide
  have p16 : (2 : Nat) ^ 16 = 65536 := by decide
  have p24 : (2 : Nat) ^ 24 = 16777216 := by decide
  rw [p8] at o1 o2 o3
  rw [p16] at o2 o3
  rw [p24] at o3
  clear p8 p16 p24
  obtain ⟨c1, hc1⟩ : ∃ c, b1 * 256 = c := ⟨_, rfl⟩
  obtain ⟨c2, hc2⟩ : ∃ c, b2 * 65536 = c := ⟨_, rfl⟩
  obtain ⟨c3, hc3⟩ : ∃ c, b3 * 16777216 = c := ⟨_, rfl⟩
  rw [hc1] at s1 o1 o2 o3 ⊢
  rw [hc2] at s2 o2 o3 ⊢
  rw [hc3] at s3 o3 ⊢
  obtain ⟨d1, hd1⟩ : ∃ c, b0 + c1 = c := ⟨_, rfl⟩
  rw [hd1] at o1 o2 o3 ⊢
  obtain ⟨d2, hd2⟩ : ∃ c, d1 + c2 = c := ⟨_, rfl⟩
  rw [hd2] at o2 o3 ⊢
  obtain ⟨d3, hd3⟩ : ∃ c, d2 + c3 = c := ⟨_, rfl⟩
  rw [hd3] at o3 ⊢
  clear hc1 hc2 hc3 hd1 hd2 hd3
  go_enter Tryz.func225, Tryz.ntmps225
  go_wp2
  go_quiet (fail)
  go_wp2
  go_ret
  exact ⟨rfl, _, rfl⟩
end Go.Proofs.YtpflbhcgkndpcaaGreatDoor

/- frame.Encode of one row; the reference's Encode of a frame. -/
namespace Go.Proofs.YtpflbhcgkndpcaaGreatDoor
open Go.RowKit Go.Sort

/-- A row of the call's own that holds bytes. -/
structure Row8 (base : Nat) (w : World) (g cap m : Nat) (l : List Int) : Prop where
  own : w.ownsRow base 5 1 (.slice (some ⟨g, 0, none⟩) m cap) m (bC l)
  len : l.length = m
theorem Row8.own8 {base : Nat} {w : World} {g cap m : Nat} {l : List Int} (h : Row8 base w g cap m l) : Own8 base w (.slice (some ⟨g, 0, none⟩) l.length cap) l := by
  unfold Own8
  rw [h.len]
  exact h.own
theorem Row8.by_ {base : Nat} {w : World} {g cap m : Nat} {l : List Int} (h : Row8 base w g cap m l) : ByL w (some ⟨g, 0, none⟩) l := by
  obtain ⟨A, c, e, hb, _⟩ := Own8.bytes h.own8
  injection e with e1 e2 e3
  subst e1
  exact hb
theorem Row8.ge {base : Nat} {w : World} {g cap m : Nat} {l : List Int} (h : Row8 base w g cap m l) : base ≤ g ∧ g < w.heap.size := World.ownsRow.lt h.own g rfl
theorem Row8.below {base : Nat} {w w' : World} {g cap m : Nat} {l : List Int} (h : Row8 base w g cap m l) (k : Below w.heap.size w w') : Row8 base w' g cap m l :=
  ⟨(But.of_below (S := fun _ => False) k).row h.own (fun _ _ hf => hf), h.len⟩
theorem Row8.alloc {base : Nat} {w : World} {g cap m : Nat} {l : List Int} (h : Row8 base w g cap m l) (o : Obj) : Row8 base (w.alloc o) g cap m l := h.below ((Below.refl _ _).alloc (Nat.le_refl _) _)
theorem Row8.cap_le {base : Nat} {w : World} {g cap m : Nat} {l : List Int} (h : Row8 base w g cap m l) : m ≤ cap ∧ cap ≤ maxLen := by
  rcases h.own.2 with ⟨h, _⟩ | ⟨g', cap', cur, h, _, _, h1, h2, _⟩
  · cases h
  · injection h with _ _ h3
    omega
theorem fr_lay2 (base g cap m m4 : Nat) (l : List Int) (n : Nat) (w : World) (h : Row8 base w g cap m l) (hm : m + 4 = m4) (hbw : base ≤ w.heap.size) (hn : n < 4294967296) (hl : m ≤ 1000000) :
    Calls Tryz.prog 155 #[.slice (some ⟨g, 0, none⟩) m cap, .int .u32 (n : Int)] w fun e w' => ∃ g2 cap2, e = .returned (.slice (some ⟨g2, 0, none⟩) m4 cap2) ∧ Row8 base w' g2 cap2 m4 (l ++ enc4 n) ∧ Below base w w' := by
  have h1 := h.len
  subst hm
  subst h1
  refine (fr_lay base _ l n w h.own hbw hn hl).mono ?_
  rintro e w' ⟨g2, cap2, rfl, ho, hb⟩
  exact ⟨g2, cap2, rfl, ⟨ho, by simp [enc4_len]⟩, hb⟩
theorem Row8.first (w : World) (n : Nat) (hn : n ≤ 1000000) : Row8 w.heap.size (w.alloc (.cells (mk8 n) 5)) w.heap.size n 0 [] :=
  ⟨World.ownsRow_made (base := w.heap.size) (e := 5) (size := 1) w (mk8 n) n (Nat.le_refl _) (by unfold maxLen; omega) (mk8_size _), rfl⟩
set_option maxRecDepth 100000 in
set_option maxHeartbeats 4000000 in
theorem fr_encode (g c cc : Nat) (A : Option Addr) (p : List Int) (w : World) (ht : Nib w) (hlt : g < w.heap.size) (hz : w.cell? ⟨g, 0, none⟩ = some (.slice A p.length cc)) (hp : ByL w A p) (hb : isBy p) (hp0 : 0 < p.length) (hl : p.length ≤ 262144) :
    Calls Tryz.prog 104 #[.slice (some ⟨g, 0, none⟩) 1 c] w fun e w' => (∃ g2 cap2, e = .returned (.tuple #[.slice (some ⟨g2, 0, none⟩) (12 + p.length) cap2, .int .i64 0]) ∧ Row8 w.heap.size w' g2 cap2 (12 + p.length) (frE p)) ∧ Below w.heap.size w w' := by
  obtain ⟨i0, hi0, hz0, hz1, hz2⟩ := info_parts u8_info
  obtain ⟨B, O, rfl, hBl, hcells⟩ := hp hp0
  have hmk := run_mk8 (8 + p.length + 4) (by omega)
  have hcast : ((8 + p.length + 4 : Nat) : Int) = 8 + (p.length : Int) + 4 := by omega
  rw [hcast] at hmk
  have hwn : IntKind.u32.wrap (p.length : Int) = (p.length : Int) := IntWalk.u32_in _ (by omega)
  have hpi : (p.length : Int) ≤ 262144 := by omega
  have HP := Lib.hid (And.intro hp (And.intro hb hcells))
  have HT := Lib.hid (fun (W : World) (k : Below w.heap.size w W) => ht.below k)
  have HB0 : Hid (Below w.heap.size w (w.alloc (.cells (mk8 (8 + p.length + 4)) 5))) := Lib.hid (by (repeat' (first | (with_reducible exact Below.refl _ _) | (with_reducible assumption) | (with_reducible refine Below.trans ?_ (Below.mono (by with_reducible assumption) ?_)) | (with_reducible refine Below.alloc ?_ ?_ _) | (with_reducible refine Below.setCell ?_ ?_ _) | (with_reducible refine below_drewN ?_ _) | (with_reducible refine Below.drew ?_) | go_size)))
  have HR0 := Lib.hid (Row8.first w (8 + p.length + 4) (by omega))
  have HL1 := Lib.hid (fr_lay2 w.heap.size w.heap.size (8 + p.length + 4) 0 4 [] p.length _ HR0.out rfl HB0.out.size (by omega) (by omega))
  have HHD : Hid (∀ n, hdE n = enc4 n ++ enc4 (sumL (enc4 n))) := Lib.hid (fun _ => rfl)
  have HFR : Hid (frE p = (hdE p.length ++ p) ++ enc4 (sumL (hdE p.length ++ p))) := Lib.hid rfl
  clear ht hp hb hcells hcast
  go_enter Tryz.func104, Tryz.ntmps104
  go_wp2
  refine wp_loop_rounds 2 ?_
  rw [rounds_succ]
  go_wp2
  rw [rounds_succ]
  go_wp2_with fail
  refine HL1.out.mono ?_; rintro e w1 ⟨g1, cap1, rfl, hr1, k1⟩
  rw [List.nil_append] at hr1
  have HB1 := Lib.hid (HB0.out.trans k1)
  have kA : Below w1.heap.size w1 (w1.alloc (.cells #[.slice (some ⟨g1, 0, none⟩) 4 cap1] 42)) := (Below.refl _ _).alloc (Nat.le_refl _) _
  have HB2 := Lib.hid (HB1.out.trans (kA.mono HB1.out.size))
  have hr2 := hr1.below kA
  have HS1 := Lib.hid (oct_sum w1.heap.size 1 cap1 (some ⟨g1, 0, none⟩) (enc4 p.length) _ (HT.out _ HB2.out) (by simp [enc4_len]) hr2.by_ (enc4_by _) (by simp [enc4_len]))
  have HL2 := Lib.hid (fr_lay2 w.heap.size g1 cap1 4 8 (enc4 p.length) (sumL (enc4 p.length)) _ hr2 rfl HB2.out.size (sum_lt (enc4_by _)) (by omega))
  rw [← HHD.out] at HL2
  have hm1 := hr1.cap_le.1
  clear hr1 hr2 kA k1 HL1 HB0 HR0 hmk
  go_wp2_with fail
  refine HS1.out.mono ?_; rintro e w2 ⟨rfl, rfl⟩
  go_wp2_with fail
  refine HL2.out.mono ?_; rintro e w3 ⟨g2, cap2, rfl, hr3, k3⟩
  have HB3 := Lib.hid (HB2.out.trans k3)
  have z3 : w3.cell? ⟨g, 0, none⟩ = some (.slice (some ⟨B, O, none⟩) p.length cc) := (HB3.out.cell (p := ⟨g, 0, none⟩) hlt).trans hz
  have hsrc : ∀ j u, (bC p)[j]? = some u → w3.cell? ((⟨B, O, none⟩ : Addr).add j) = some u := fun j u hj => by
    rw [at_add]
    exact (HB3.out.cell (p := ⟨B, O + j, none⟩) hBl).trans (HP.out.2.2 j u hj)
  have hrow3 := hr3.own
  have HR3 := Lib.hid hr3
  have hbs3 : w.heap.size ≤ w3.heap.size := HB3.out.size
  clear hr3 k3 HL2 HS1 HB2 HB1 hm1
  go_wp2
  refine wp_loop_rounds 2 ?_
  rw [rounds_succ]
  go_wp2_with (at_builtin; refine wpList_append_lies _ rfl (.tmp 42) (.tmp 43) _ rfl w.heap.size 5 i0 _ 1 1 Tryz.underlying42 hi0 hz0 hz1 hz2 rfl (by decide) (.slice (some ⟨g2, 0, none⟩) 8 cap2) 8 (bC (hdE p.length)) rfl hrow3 ⟨B, O, none⟩ p.length cc (bC p) rfl (by rw [bC_len]; omega) hsrc (bC_one _) hp0 (by unfold maxLen; omega) (by omega) hbs3 _ rfl ?_; intro g4 cap4 w4 hown4 hg4 hat4 hlt4)
  have hb4 : Below w.heap.size w w4 := HB3.out.grown hg4 hbs3 (fun k hk => by
    have := HR3.out.ge
    simp [Value.ownBlock] at hk
    omega)
  have hr4 : Row8 w.heap.size w4 g4 cap4 (8 + p.length) (hdE p.length ++ p) := ⟨by rw [bC_append]; exact hown4, by simp [hdE_len]⟩
  have kA : Below w4.heap.size w4 (w4.alloc (.cells #[.slice (some ⟨g4, 0, none⟩) (8 + p.length) cap4] 42)) := (Below.refl _ _).alloc (Nat.le_refl _) _
  have HB5 := Lib.hid (hb4.trans (kA.mono hb4.size))
  have hr5 := hr4.below kA
  have hby5 : isBy (hdE p.length ++ p) := isBy_append (hdE_by _) HP.out.2.1
  have HS2 := Lib.hid (oct_sum w4.heap.size 1 cap4 (some ⟨g4, 0, none⟩) (hdE p.length ++ p) _ (HT.out _ HB5.out) (by rw [hr4.len]; simp) hr5.by_ hby5 (by rw [hr4.len]; omega))
  have HL3 := Lib.hid (fr_lay2 w.heap.size g4 cap4 (8 + p.length) (12 + p.length) (hdE p.length ++ p) (sumL (hdE p.length ++ p)) _ hr5 (by omega) HB5.out.size (sum_lt hby5) (by omega))
  rw [← HFR.out] at HL3
  clear hb4 hr4 hr5 kA hown4 hg4 hat4 hlt4 hrow3 hsrc z3 HR3 HB3 hbs3 hby5
  rw [rounds_succ]
  go_wp2_with fail
  refine HS2.out.mono ?_; rintro e w5 ⟨rfl, rfl⟩
  go_wp2_with fail
  refine HL3.out.mono ?_; rintro e w6 ⟨g6, cap6, rfl, hr6, k6⟩
  have HB6 := Lib.hid (HB5.out.trans k6)
  have HR6 := Lib.hid hr6
  clear hr6 k6 HL3 HS2
  go_wp2
  go_ret2
  exact ⟨⟨g6, cap6, rfl, HR6.out⟩, HB6.out⟩
end Go.Proofs.YtpflbhcgkndpcaaGreatDoor

