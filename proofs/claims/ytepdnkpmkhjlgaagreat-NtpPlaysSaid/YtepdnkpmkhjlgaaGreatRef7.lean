/- The reference's Most and Majority of any intervals. -/
import Derived.Test.YtepdnkpmkhjlgaaGreatS7A
import Derived.Test.YtepdnkpmkhjlgaaGreatM9I
set_option linter.unusedSimpArgs false
set_option linter.unusedVariables false
namespace Go.Proofs.YtepdnkpmkhjlgaaGreat
open Go.RowKit

theorem inK_cnt (z : Nat → Int) (n : Nat) (x : Int) : inK z x n = Ag.cnt (ivs z n) x := rfl
set_option maxHeartbeats 1000000 in
theorem ref7_count (z : Nat → Int) (A : Option Addr) (n c : Nat) (x : Int) (w : World) (hn : n ≤ 100000) (hz : FlatAt w A 2 n z) :
    Calls Tryz.prog 92 #[.slice A n c, .int .i64 x] w fun e w' => e = .returned (.int .i64 (inK z x n : Int)) ∧ w = w' := by
  have hn' : (n : Int) ≤ 100000 := by omega
  have HZ := Lib.hid hz
  clear hz
  go_enter Tryz.func92, Tryz.ntmps92
  go_wp2
  go_loop [5, 6] (fun p i => ∃ k : Nat, k ≤ n ∧ i = .int .i64 k ∧ p = .int .i64 (inK z x k : Int)) (fun _ i => n - (intOf i).toNat)
  case atStart => exact ⟨0, Nat.zero_le _, rfl, rfl⟩
  case round =>
    obtain ⟨k, hk, rfl, rfl⟩ := hrel
    have l1 := inK_le z x k
    have l1' : (inK z x k : Int) ≤ 100000 := by omega
    by_cases hlt : k < n
    · obtain ⟨B, O, rfl, hB, hcells⟩ := HZ.out (by omega)
      have x0 : w.cell? ⟨B, O + k * 2, none⟩ = some (.int .i64 (z (k * 2))) := (hcells (k * 2) (by omega)).1
      have x1 : w.cell? ⟨B, O + k * 2 + 1, none⟩ = some (.int .i64 (z (k * 2 + 1))) := (hcells (k * 2 + 1) (by omega)).1
      have lk : (k : Int) < (n : Int) := by omega
      have hs := inK_succ z x k
      clear hcells
      generalize z (k * 2) = lo at *
      generalize z (k * 2 + 1) = hi at *
      generalize inK z x k = ik at *
      simp only [Ag.inB, Bool.and_eq_true, decide_eq_true_eq] at hs
      rcases (show x < lo ∨ (lo ≤ x ∧ hi < x) ∨ (lo ≤ x ∧ x ≤ hi) from by omega) with p1 | ⟨p1, p2⟩ | ⟨p1, p2⟩
      · rw [if_neg (by omega)] at hs
        have HS := Lib.hid hs
        have t1 : decide (lo ≤ x) = false := by simp; omega
        clear hs
        go_wp2
        go_round
        case rel => exact ⟨k + 1, by omega, by go_num, by rw [HS.out]; go_num⟩
        case measure => simp [intOf]; omega
      · rw [if_neg (by omega)] at hs
        have HS := Lib.hid hs
        have t1 : decide (lo ≤ x) = true := by simpa using p1
        have t2 : decide (x ≤ hi) = false := by simp; omega
        clear hs
        go_wp2
        go_round
        case rel => exact ⟨k + 1, by omega, by go_num, by rw [HS.out]; go_num⟩
        case measure => simp [intOf]; omega
      · rw [if_pos ⟨p1, p2⟩] at hs
        have HS := Lib.hid hs
        have t1 : decide (lo ≤ x) = true := by simpa using p1
        have t2 : decide (x ≤ hi) = true := by simpa using p2
        clear hs
        go_wp2
        go_round
        case rel => exact ⟨k + 1, by omega, by go_num, by rw [HS.out]; go_num⟩
        case measure => simp [intOf]; omega
    · obtain rfl : k = n := by omega
      go_wp2
      go_ret
      exact ⟨rfl, rfl⟩
theorem max_low : ∀ l : List (Int × Int), l ≠ [] → ∃ i ∈ l, ∀ j ∈ l, j.1 ≤ i.1
  | [], h => absurd rfl h
  | [i], _ => ⟨i, by simp, by simp⟩
  | i :: j :: l, _ => by
    obtain ⟨m, hm, hx⟩ := max_low (j :: l) (by simp)
    by_cases h : i.1 ≤ m.1
    · exact ⟨m, List.mem_cons_of_mem _ hm, fun q hq => by
        rcases List.mem_cons.1 hq with rfl | hq
        · exact h
        · exact hx q hq⟩
    · exact ⟨i, by simp, fun q hq => by
        rcases List.mem_cons.1 hq with rfl | hq
        · exact Int.le_refl _
        · have := hx q hq; omega⟩
theorem top_low (l : List (Int × Int)) (x : Int) (h : 0 < Ag.cnt l x) : ∃ i ∈ l, Ag.inB x i = true ∧ Ag.cnt l x ≤ Ag.cnt l i.1 := by
  have hne : l.filter (Ag.inB x) ≠ [] := by
    intro e
    have : Ag.cnt l x = 0 := by unfold Ag.cnt; rw [List.countP_eq_length_filter, e]; rfl
    omega
  obtain ⟨i, hi, hmax⟩ := max_low _ hne
  obtain ⟨h1, h2⟩ := List.mem_filter.1 hi
  refine ⟨i, h1, h2, ?_⟩
  unfold Ag.cnt
  apply List.countP_mono_left
  intro j hj hx
  have := hmax j (List.mem_filter.2 ⟨hj, hx⟩)
  simp [Ag.inB] at h2 hx ⊢
  omega
/-- Behind k rounds of the reference's first loop. -/
structure RB (z : Nat → Int) (n k : Nat) (best : Nat) (at_ : Int) : Prop where
  le : ∀ j, j < k → inK z (z (j * 2)) n ≤ best
  zero : best = 0 → at_ = 0
  some_ : 0 < best → ∃ j, j < k ∧ inK z (z (j * 2)) n = best ∧ z (j * 2) = at_
  least : ∀ j, j < k → 0 < best → inK z (z (j * 2)) n = best → at_ ≤ z (j * 2)
theorem RB.start (z : Nat → Int) (n : Nat) : RB z n 0 0 0 := ⟨fun _ h => absurd h (by omega), fun _ => rfl, fun h => absurd h (by omega), fun _ h => absurd h (by omega)⟩
theorem RB.take {z : Nat → Int} {n k best : Nat} {a : Int} (h : RB z n k best a) (hc : best < inK z (z (k * 2)) n ∨ (inK z (z (k * 2)) n = best ∧ 0 < best ∧ z (k * 2) < a)) : RB z n (k + 1) (inK z (z (k * 2)) n) (z (k * 2)) := by
  refine ⟨fun j hj => ?_, fun e => by omega, fun _ => ⟨k, by omega, rfl, rfl⟩, fun j hj _ he => ?_⟩
  · rcases (show j < k ∨ j = k from by omega) with q | rfl
    · have := h.le j q; omega
    · exact Nat.le_refl _
  · rcases (show j < k ∨ j = k from by omega) with q | rfl
    · have := h.le j q
      rcases hc with hc | ⟨h1, h2, h3⟩
      · omega
      · have := h.least j q h2 (by omega); omega
    · exact Int.le_refl _
theorem RB.stay {z : Nat → Int} {n k best : Nat} {a : Int} (h : RB z n k best a) (h1 : inK z (z (k * 2)) n ≤ best) (h2 : inK z (z (k * 2)) n = best → 0 < best → a ≤ z (k * 2)) : RB z n (k + 1) best a := by
  refine ⟨fun j hj => ?_, h.zero, fun h0 => ?_, fun j hj h0 he => ?_⟩
  · rcases (show j < k ∨ j = k from by omega) with q | rfl
    · exact h.le j q
    · exact h1
  · obtain ⟨j, hj, r⟩ := h.some_ h0; exact ⟨j, by omega, r⟩
  · rcases (show j < k ∨ j = k from by omega) with q | rfl
    · exact h.least j q h0 he
    · exact h2 he h0
def RLp (z : Nat → Int) (n k : Nat) (p q : Value) : Prop := ∃ best : Nat, ∃ a : Int, p = .int .i64 (best : Int) ∧ q = .int .i64 a ∧ RB z n k best a ∧ best ≤ n
/-- Behind k rounds of the second loop. -/
structure RH (z : Nat → Int) (a : Int) (k : Nat) (high : Int) : Prop where
  le : ∀ j, j < k → z (j * 2) ≤ a → a ≤ z (j * 2 + 1) → high ≤ z (j * 2 + 1)
  has : high = 9223372036854775807 ∨ ∃ j, j < k ∧ z (j * 2) ≤ a ∧ a ≤ z (j * 2 + 1) ∧ z (j * 2 + 1) = high
theorem mem_ivs {z : Nat → Int} {n : Nat} {i : Int × Int} : i ∈ ivs z n ↔ ∃ j, j < n ∧ (z (j * 2), z (j * 2 + 1)) = i := by simp [ivs]
theorem RB.most {z : Nat → Int} {n best : Nat} {a high : Int} (h : RB z n n best a) (h0 : 0 < best) (hh : RH z a n high) (ht : Tells (ivs z n)) : Ag.MostIs (ivs z n) a high best := by
  have hle : ∀ x, Ag.cnt (ivs z n) x ≤ best := fun x => by
    rcases Nat.eq_zero_or_pos (Ag.cnt (ivs z n) x) with q | q
    · omega
    · obtain ⟨i, hi, _, hc⟩ := top_low _ _ q
      obtain ⟨j, hj, rfl⟩ := mem_ivs.1 hi
      have := h.le j hj
      rw [inK_cnt] at this
      simp only at hc
      omega
  have hat : Ag.cnt (ivs z n) a = best := by
    obtain ⟨j, hj, h1, rfl⟩ := h.some_ h0
    exact h1
  refine ⟨hle, fun e => by omega, fun _ => hat, fun x hx _ => ?_, fun _ => ?_, fun i hi _ hin => ?_⟩
  · have hx' := hle x
    rcases Nat.lt_or_ge (Ag.cnt (ivs z n) x) best with q | q
    · exact q
    · obtain ⟨i, hi, hin, hc⟩ := top_low (ivs z n) x (by omega)
      obtain ⟨j, hj, rfl⟩ := mem_ivs.1 hi
      have h1 := hle (z (j * 2))
      have := h.least j hj h0 (by rw [inK_cnt]; simp only at hc; omega)
      simp [Ag.inB] at hin
      omega
  · have hpos : 0 < (ivs z n).countP (Ag.inB a) := by have : (ivs z n).countP (Ag.inB a) = best := hat; omega
    obtain ⟨i, hi, hin⟩ := List.countP_pos_iff.1 hpos
    rcases hh.has with q | ⟨j, hj, h1, h2, h3⟩
    · refine ⟨i, hi, hin, ?_⟩
      have hb := (ht i hi).2.2
      obtain ⟨j, hj, rfl⟩ := mem_ivs.1 hi
      simp [Ag.inB] at hin
      have := hh.le j hj hin.1 hin.2
      simp only at hb ⊢
      omega
    · exact ⟨_, mem_ivs.2 ⟨j, hj, rfl⟩, by simp [Ag.inB]; omega, h3⟩
  · obtain ⟨j, hj, rfl⟩ := mem_ivs.1 hi
    simp [Ag.inB] at hin
    exact hh.le j hj hin.1 hin.2
theorem RB.none_ {z : Nat → Int} {n : Nat} {a : Int} (h : RB z n n 0 a) : Ag.MostIs (ivs z n) 0 0 0 := by
  refine ⟨fun x => ?_, fun _ => ⟨rfl, rfl⟩, fun h => absurd h (by omega), fun _ _ h => absurd h (by omega), fun h => absurd h (by omega), fun _ _ h => absurd h (by omega)⟩
  rcases Nat.eq_zero_or_pos (Ag.cnt (ivs z n) x) with q | q
  · omega
  · obtain ⟨i, hi, _, hc⟩ := top_low _ _ q
    obtain ⟨j, hj, rfl⟩ := mem_ivs.1 hi
    have := h.le j hj
    rw [inK_cnt] at this
    simp only at hc
    omega
set_option maxRecDepth 100000 in
set_option maxHeartbeats 4000000 in
theorem ref7_most (z : Nat → Int) (A : Option Addr) (n c : Nat) (w : World) (hn : n ≤ 100000) (hz : FlatAt w A 2 n z) :
    Calls Tryz.prog 76 #[.slice A n c] w (SomeMost (ivs z n) w) := by
  have hn' : (n : Int) ≤ 100000 := by omega
  have HZ := Lib.hid hz
  have HT := Lib.hid (FlatAt.tells hz)
  have K0 := Lib.hid (Ints2.new w 0 0 67)
  have HB0 : Hid (Below w.heap.size w (w.alloc (.cells #[.int .i64 0, .int .i64 0] 67))) := Lib.hid (by (repeat' (first | (with_reducible exact Below.refl _ _) | (with_reducible assumption) | (with_reducible refine Below.trans ?_ (Below.mono (by with_reducible assumption) ?_)) | (with_reducible refine Below.alloc ?_ ?_ _) | (with_reducible refine Below.setCell ?_ ?_ _) | (with_reducible refine below_drewN ?_ _) | (with_reducible refine Below.drew ?_) | go_size)))
  clear hz
  go_enter Tryz.func76, Tryz.ntmps76
  go_wp2
  go_loopw [4, 5, 6] (fun p q i wr => ∃ k : Nat, k ≤ n ∧ i = .int .i64 k ∧ RLp z n k p q ∧ Ints2 wr w.heap.size 0 0 ∧ Below w.heap.size w wr) (fun _ _ i _ => n - (intOf i).toNat)
  case atStart => exact ⟨0, Nat.zero_le _, rfl, ⟨0, 0, rfl, rfl, RB.start _ _, Nat.zero_le _⟩, K0.out, HB0.out⟩
  case round =>
    obtain ⟨k, hk, rfl, ⟨best, a, rfl, rfl, hR, hbn⟩, hJ, HB⟩ := hrel
    clear K0 HB0
    have zr := HB.size
    have hb' : (best : Int) ≤ 100000 := by omega
    by_cases hlt : k < n
    · have C := Lib.hid (ref7_count z A n c (z (k * 2)) wr hn (HZ.out.below HB))
      obtain ⟨B, O, rfl, hB, hcells⟩ := HZ.out (by omega)
      have x0 : wr.cell? ⟨B, O + k * 2, none⟩ = some (.int .i64 (z (k * 2))) := (HB.cell (p := ⟨B, O + k * 2, none⟩) hB).trans (hcells (k * 2) (by omega)).1
      have lk : (k : Int) < (n : Int) := by omega
      have hik := inK_le z (z (k * 2)) n
      have htake := hR.take
      have hstay := hR.stay
      have HTK := Lib.hid htake
      have HST := Lib.hid hstay
      have J := Lib.hid hJ
      clear hcells hR htake hstay hJ
      generalize inK z (z (k * 2)) n = v at *
      generalize z (k * 2) = lo at *
      rcases (show best < v ∨ (v < best) ∨ (v = best ∧ best = 0) ∨ (v = best ∧ 0 < best ∧ a ≤ lo) ∨ (v = best ∧ 0 < best ∧ lo < a) from by omega) with p | p | ⟨rfl, rfl⟩ | ⟨rfl, p, q⟩ | ⟨rfl, p, q⟩
      · have t1 : decide ((best : Int) < (v : Int)) = true := by simpa using p
        go_wp2_with (go_at_call 92; refine C.out.mono ?_; rintro e w' ⟨rfl, rfl⟩)
        go_quiet (fail)
        go_wp2
        go_roundw
        case rel => exact ⟨k + 1, by omega, by go_num, ⟨v, lo, rfl, rfl, HTK.out (.inl p), by omega⟩, J.out.drewN _, by (repeat' (first | (with_reducible exact Below.refl _ _) | (with_reducible assumption) | (with_reducible refine Below.trans ?_ (Below.mono (by with_reducible assumption) ?_)) | (with_reducible refine Below.alloc ?_ ?_ _) | (with_reducible refine Below.setCell ?_ ?_ _) | (with_reducible refine below_drewN ?_ _) | (with_reducible refine Below.drew ?_) | go_size))⟩
        case measure => simp [intOf]; omega
      · have t1 : decide ((best : Int) < (v : Int)) = false := by simp; omega
        have t2 : ((v : Int) == (best : Int)) = false := by simp; omega
        go_wp2_with (go_at_call 92; refine C.out.mono ?_; rintro e w' ⟨rfl, rfl⟩)
        go_roundw
        case rel => exact ⟨k + 1, by omega, by go_num, ⟨best, a, rfl, rfl, HST.out (by omega) (by omega), hbn⟩, J.out, HB⟩
        case measure => simp [intOf]; omega
      · go_wp2_with (go_at_call 92; refine C.out.mono ?_; rintro e w' ⟨rfl, rfl⟩)
        go_roundw
        case rel => exact ⟨k + 1, by omega, by go_num, ⟨0, a, rfl, rfl, HST.out (by omega) (by omega), hbn⟩, J.out, HB⟩
        case measure => simp [intOf]; omega
      · have t1 : decide (0 < (v : Int)) = true := by simp; omega
        have t2 : decide (lo < a) = false := by simp; omega
        go_wp2_with (go_at_call 92; refine C.out.mono ?_; rintro e w' ⟨rfl, rfl⟩)
        go_roundw
        case rel => exact ⟨k + 1, by omega, by go_num, ⟨v, a, rfl, by first | rfl | trivial, HST.out (by omega) (by omega), hbn⟩, J.out, HB⟩
        case measure => simp [intOf]; omega
      · have t1 : decide (0 < (v : Int)) = true := by simp; omega
        have t2 : decide (lo < a) = true := by simpa using q
        go_wp2_with (go_at_call 92; refine C.out.mono ?_; rintro e w' ⟨rfl, rfl⟩)
        go_quiet (fail)
        go_wp2
        go_roundw
        case rel => exact ⟨k + 1, by omega, by go_num, ⟨v, lo, rfl, rfl, HTK.out (by first | exact .inr ⟨rfl, p, q⟩ | exact .inr ⟨trivial, p, q⟩), by omega⟩, J.out.drewN _, by (repeat' (first | (with_reducible exact Below.refl _ _) | (with_reducible assumption) | (with_reducible refine Below.trans ?_ (Below.mono (by with_reducible assumption) ?_)) | (with_reducible refine Below.alloc ?_ ?_ _) | (with_reducible refine Below.setCell ?_ ?_ _) | (with_reducible refine below_drewN ?_ _) | (with_reducible refine Below.drew ?_) | go_size))⟩
        case measure => simp [intOf]; omega
    · obtain rfl : k = n := by omega
      rcases Nat.eq_zero_or_pos best with h0 | h0
      · subst h0
        have HN := Lib.hid hR.none_
        have R0 := (hJ.set0 0).c0
        have R1 := ((hJ.set0 0).set1 0).c1
        obtain ⟨y0, y1, f0, f1, lt'⟩ := hJ
        clear hR
        go_wp2
        refine bodyPost_ret (v := .tuple #[.agg #[.int .i64 0, .int .i64 0], .int .i64 0]) (by simp [results, Tryz.results76, go_sem, R0, R1]) rfl ⟨0, 0, 0, rfl, HN.out, ?_⟩
        go_light
        (repeat' (first | (with_reducible exact Below.refl _ _) | (with_reducible assumption) | (with_reducible refine Below.trans ?_ (Below.mono (by with_reducible assumption) ?_)) | (with_reducible refine Below.alloc ?_ ?_ _) | (with_reducible refine Below.setCell ?_ ?_ _) | (with_reducible refine below_drewN ?_ _) | (with_reducible refine Below.drew ?_) | go_size))
      · have e0 : ((best : Int) == 0) = false := by simp; omega
        have HM := Lib.hid (fun high hh => hR.most (high := high) h0 hh HT.out)
        clear hR h0
        go_wp2
        go_loop [8, 9] (fun q i => ∃ k' : Nat, k' ≤ k ∧ i = .int .i64 k' ∧ ∃ high : Int, q = .int .i64 high ∧ RH z a k' high) (fun _ i => k - (intOf i).toNat)
        case atStart => exact ⟨0, Nat.zero_le _, rfl, _, rfl, fun _ h => absurd h (by omega), .inl rfl⟩
        case round =>
          obtain ⟨j, hj, rfl, high, rfl, hH⟩ := hrel
          by_cases hlt2 : j < k
          · obtain ⟨B, O, rfl, hB, hcells⟩ := HZ.out (by omega)
            have x0 : wr.cell? ⟨B, O + j * 2, none⟩ = some (.int .i64 (z (j * 2))) := (HB.cell (p := ⟨B, O + j * 2, none⟩) hB).trans (hcells (j * 2) (by omega)).1
            have x1 : wr.cell? ⟨B, O + j * 2 + 1, none⟩ = some (.int .i64 (z (j * 2 + 1))) := (HB.cell (p := ⟨B, O + (j * 2 + 1), none⟩) hB).trans (hcells (j * 2 + 1) (by omega)).1
            have lk : (j : Int) < (k : Int) := by omega
            have hno : (a < z (j * 2) ∨ z (j * 2 + 1) < a ∨ high ≤ z (j * 2 + 1)) → RH z a (j + 1) high := fun hc => ⟨fun i hi h1 h2 => by
              rcases (show i < j ∨ i = j from by omega) with q | rfl
              · exact hH.le i q h1 h2
              · omega, by
              rcases hH.has with q | ⟨i, hi, r⟩
              · exact .inl q
              · exact .inr ⟨i, by omega, r⟩⟩
            have hyes : z (j * 2) ≤ a → a ≤ z (j * 2 + 1) → z (j * 2 + 1) < high → RH z a (j + 1) (z (j * 2 + 1)) := fun h1 h2 h3 => ⟨fun i hi g1 g2 => by
              rcases (show i < j ∨ i = j from by omega) with q | rfl
              · have := hH.le i q g1 g2; omega
              · exact Int.le_refl _, .inr ⟨j, by omega, h1, h2, rfl⟩⟩
            have HNO := Lib.hid hno
            have HYES := Lib.hid hyes
            clear hno hyes hcells hH
            generalize z (j * 2) = lo at *
            generalize z (j * 2 + 1) = hi at *
            rcases (show a < lo ∨ (lo ≤ a ∧ hi < a) ∨ (lo ≤ a ∧ a ≤ hi ∧ high ≤ hi) ∨ (lo ≤ a ∧ a ≤ hi ∧ hi < high) from by omega) with p | ⟨p, q⟩ | ⟨p, q, r⟩ | ⟨p, q, r⟩
            · have t1 : decide (lo ≤ a) = false := by simp; omega
              go_wp2
              go_round
              case rel => exact ⟨j + 1, by omega, by go_num, high, rfl, HNO.out (.inl p)⟩
              case measure => simp [intOf]; omega
            · have t1 : decide (lo ≤ a) = true := by simpa using p
              have t2 : decide (a ≤ hi) = false := by simp; omega
              go_wp2
              go_round
              case rel => exact ⟨j + 1, by omega, by go_num, high, rfl, HNO.out (.inr (.inl q))⟩
              case measure => simp [intOf]; omega
            · have t1 : decide (lo ≤ a) = true := by simpa using p
              have t2 : decide (a ≤ hi) = true := by simpa using q
              have t3 : decide (hi < high) = false := by simp; omega
              go_wp2
              go_round
              case rel => exact ⟨j + 1, by omega, by go_num, high, by first | rfl | (simp; omega) | simp, HNO.out (.inr (.inr r))⟩
              case measure => simp [intOf]; omega
            · have t1 : decide (lo ≤ a) = true := by simpa using p
              have t2 : decide (a ≤ hi) = true := by simpa using q
              have t3 : decide (hi < high) = true := by simpa using r
              go_wp2
              go_round
              case rel => exact ⟨j + 1, by omega, by go_num, hi, by first | rfl | (simp; omega) | simp, HYES.out p q r⟩
              case measure => simp [intOf]; omega
          · obtain rfl : j = k := by omega
            have HN := Lib.hid (HM.out high hH)
            have R0 := (hJ.set0 a).c0
            have R1 := ((hJ.set0 a).set1 high).c1
            obtain ⟨y0, y1, f0, f1, lt'⟩ := hJ
            clear hH HM
            go_wp2
            refine bodyPost_ret (v := .tuple #[.agg #[.int .i64 a, .int .i64 high], .int .i64 best]) (by simp [results, Tryz.results76, go_sem, R0, R1]) rfl ⟨a, high, best, rfl, HN.out, ?_⟩
            go_light
            (repeat' (first | (with_reducible exact Below.refl _ _) | (with_reducible assumption) | (with_reducible refine Below.trans ?_ (Below.mono (by with_reducible assumption) ?_)) | (with_reducible refine Below.alloc ?_ ?_ _) | (with_reducible refine Below.setCell ?_ ?_ _) | (with_reducible refine below_drewN ?_ _) | (with_reducible refine Below.drew ?_) | go_size))
end Go.Proofs.YtepdnkpmkhjlgaaGreat
