/- Stage 10: what HlcDrift reckons of a list; outside of what it asks. -/
import Derived.Test.YtmbopdabbegbiaaRef10Hear
set_option linter.unusedSimpArgs false
set_option linter.unusedVariables false
namespace Go.Proofs.Ytmbopdabbegbiaa
open Go.RowKit

/-- Is one of the first k no stamp? -/
def bdK (z : Nat → Int) : Nat → Bool
  | 0 => false
  | k + 1 => bdK z k || !isStampB (z (k * 2)) (z (k * 2 + 1))
/-- Is one of the first k too far ahead? -/
def frK (z : Nat → Int) (t : Int) (f : Bool) : Nat → Bool
  | 0 => f
  | k + 1 => frK z t f k || decide (t + 60000 < z (k * 2))
/-- A stamp behind n others. -/
def snZ (z : Nat → Int) (n : Nat) (m c : Int) : Nat → Int := fun j => if j = n * 2 then m else if j = n * 2 + 1 then c else z j
theorem sn_old (z : Nat → Int) (n : Nat) (m c : Int) {j : Nat} (h : j < n) : snZ z n m c (j * 2) = z (j * 2) ∧ snZ z n m c (j * 2 + 1) = z (j * 2 + 1) := by
  unfold snZ
  rw [if_neg (by omega), if_neg (by omega), if_neg (by omega), if_neg (by omega)]
  exact ⟨rfl, rfl⟩
theorem sn_new (z : Nat → Int) (n : Nat) (m c : Int) : snZ z n m c (n * 2) = m ∧ snZ z n m c (n * 2 + 1) = c := by
  unfold snZ
  rw [if_pos rfl, if_neg (by omega), if_pos rfl]
  exact ⟨rfl, rfl⟩
theorem cells_sn (m c : Int) (z : Nat → Int) (n : Nat) : cellsOf z (n * 2) ++ ([.int .i64 m, .int .i64 c] : List Value) = cellsOf (snZ z n m c) ((n + 1) * 2) := by
  apply List.ext_getElem?
  intro j
  by_cases h : j < n * 2
  · rw [List.getElem?_append_left (by rw [cellsOf_len]; exact h), cellsOf_at _ _ _ h, cellsOf_at _ _ _ (by omega)]
    unfold snZ
    rw [if_neg (by omega), if_neg (by omega)]
  · rw [List.getElem?_append_right (by rw [cellsOf_len]; omega), cellsOf_len]
    rcases (show j = n * 2 ∨ j = n * 2 + 1 ∨ n * 2 + 2 ≤ j from by omega) with rfl | rfl | h2
    · rw [Nat.sub_self, cellsOf_at _ _ _ (by omega), (sn_new z n m c).1]; rfl
    · rw [show n * 2 + 1 - n * 2 = 1 from by omega, cellsOf_at _ _ _ (by omega), (sn_new z n m c).2]; rfl
    · rw [List.getElem?_eq_none (by simp; omega), List.getElem?_eq_none (by rw [cellsOf_len]; omega)]
theorem bd_iff (z : Nat → Int) : ∀ k, bdK z k = true ↔ ∃ j, j < k ∧ isStampB (z (j * 2)) (z (j * 2 + 1)) = false := by
  intro k
  induction k with
  | zero => exact ⟨fun h => by simp [bdK] at h, fun ⟨j, h, _⟩ => by omega⟩
  | succ k ih =>
    show (bdK z k || !isStampB (z (k * 2)) (z (k * 2 + 1))) = true ↔ _
    rw [Bool.or_eq_true, ih]
    constructor
    · rintro (⟨j, h1, h2⟩ | h)
      · exact ⟨j, by omega, h2⟩
      · exact ⟨k, by omega, by simpa using h⟩
    · rintro ⟨j, h1, h2⟩
      rcases (show j < k ∨ j = k from by omega) with h | rfl
      · exact .inl ⟨j, h, h2⟩
      · exact .inr (by simpa using h2)
theorem fr_iff (z : Nat → Int) (t : Int) (f : Bool) : ∀ k, frK z t f k = true ↔ f = true ∨ ∃ j, j < k ∧ t + 60000 < z (j * 2) := by
  intro k
  induction k with
  | zero => exact ⟨fun h => .inl h, fun h => h.elim id (fun ⟨j, h, _⟩ => by omega)⟩
  | succ k ih =>
    show (frK z t f k || decide (t + 60000 < z (k * 2))) = true ↔ _
    rw [Bool.or_eq_true, ih]
    constructor
    · rintro ((h | ⟨j, h1, h2⟩) | h)
      · exact .inl h
      · exact .inr ⟨j, by omega, h2⟩
      · exact .inr ⟨k, by omega, by simpa using h⟩
    · rintro (h | ⟨j, h1, h2⟩)
      · exact .inl (.inl h)
      · rcases (show j < k ∨ j = k from by omega) with h | rfl
        · exact .inl (.inr ⟨j, h, h2⟩)
        · exact .inr (by simpa using h2)
/-- The list with the stamp behind it is bad just if the list is. -/
theorem bad_sn (z : Nat → Int) (n : Nat) (m c : Int) (hs : isStampB m c = true) : badL (fun j => snZ z n m c (j * 2)) (fun j => snZ z n m c (j * 2 + 1)) (n + 1) ↔ bdK z n = true := by
  rw [bd_iff]
  constructor
  · rintro ⟨j, h1, h2⟩
    rcases (show j < n ∨ j = n from by omega) with h | rfl
    · have e := sn_old z n m c h
      simp only [e.1, e.2] at h2
      exact ⟨j, h, h2⟩
    · have e := sn_new z j m c
      simp only [e.1, e.2, hs] at h2
      exact Bool.noConfusion h2
  · rintro ⟨j, h1, h2⟩
    have e := sn_old z n m c h1
    exact ⟨j, by omega, by simp only [e.1, e.2]; exact h2⟩
theorem far_sn (z : Nat → Int) (n : Nat) (m c t : Int) (f : Bool) (hf : f = true ↔ t + 60000 < m) : farL t (fun j => snZ z n m c (j * 2)) (n + 1) ↔ frK z t f n = true := by
  rw [fr_iff]
  constructor
  · rintro ⟨j, h1, h2⟩
    rcases (show j < n ∨ j = n from by omega) with h | rfl
    · have e := sn_old z n m c h
      simp only [e.1] at h2
      exact .inr ⟨j, h, h2⟩
    · have e := sn_new z j m c
      simp only [e.1] at h2
      exact .inl (hf.2 h2)
  · rintro (h | ⟨j, h1, h2⟩)
    · have e := sn_new z n m c
      exact ⟨n, by omega, by simp only [e.1]; exact hf.1 h⟩
    · have e := sn_old z n m c h1
      exact ⟨j, by omega, by simp only [e.1]; exact h2⟩
/-- What is heard last is not above what is then the greatest. -/
theorem hr_last (m c : Int) (p q : Nat → Int) (n : Nat) : 0 ≤ cmp2 (hrS m c p q (n + 1)).1 (hrS m c p q (n + 1)).2 (p n) (q n) := by
  show 0 ≤ cmp2 (mx1 (hrS m c p q n).1 (hrS m c p q n).2 (p n) (q n)) (mx2 (hrS m c p q n).1 (hrS m c p q n).2 (p n) (q n)) (p n) (q n)
  generalize (hrS m c p q n).1 = a
  generalize (hrS m c p q n).2 = b
  have h1 := cmp2_pos (p n) (q n) a b
  unfold mx1 mx2 gt2
  by_cases h : 0 < cmp2 (p n) (q n) a b
  · rw [decide_eq_true h]
    have h2 : cmp2 (p n) (q n) (p n) (q n) = 0 := by simp [cmp2, or2, cmp1]
    simp [h2]
  · rw [decide_eq_false h]
    have h3 : ¬ (a < p n ∨ (a = p n ∧ b < q n)) := fun hh => h (h1.2 hh)
    simp only [Bool.false_eq_true, if_false]
    rcases (show p n < a ∨ (p n = a ∧ q n ≤ b) from by omega) with h4 | ⟨h4, h5⟩
    · exact Int.le_of_lt ((cmp2_pos a b (p n) (q n)).2 (.inl h4))
    · subst h4
      rcases (show q n < b ∨ q n = b from by omega) with h6 | h6
      · exact Int.le_of_lt ((cmp2_pos _ b _ (q n)).2 (.inr ⟨rfl, h6⟩))
      · subst h6
        simp [cmp2, or2, cmp1]
/-- What is told, and the last stamp behind it. -/
theorem drift_hear (t sm : Int) (n : Nat) (z : Nat → Int) (f : Bool) (hf : f = true ↔ t + 60000 < sm) (a0 : 0 ≤ t) (a1 : t ≤ 1099511627776) (hs : isStampB sm 3 = true) (hn : n ≤ 50) : ∃ r m' c' : Int,
    ((bdK z n = true ∧ r = 1 ∧ m' = 7 ∧ c' = 0) ∨ (bdK z n = false ∧ frK z t f n = true ∧ r = 16 ∧ m' = 7 ∧ c' = 0) ∨ (bdK z n = false ∧ frK z t f n = false ∧ r = 0 ∧ 0 ≤ cmp2 m' c' sm 3)) ∧
    ∀ (b : Nat) (A : Option Addr) (c1 : Nat) (w : World), Ints3 w b 7 0 7 → PairsAt w A (n + 1) (fun j => snZ z n sm 3 (j * 2)) (fun j => snZ z n sm 3 (j * 2 + 1)) → (∀ B O, A = some ⟨B, O, none⟩ → B ≠ b) →
      Calls Try.prog 19 #[.pointer (some ⟨b, 0, none⟩), .int .i64 t, .slice A (n + 1) c1] w fun e w' => e = .returned (.int .i64 r) ∧ Only b w w' ∧ Ints3 w' b m' c' 7 := by
  have ht : isMilliB t = true := by simp [isMilliB]; omega
  have hbad := bad_sn z n sm 3 hs
  have hfar := far_sn z n sm 3 t f hf
  cases hb : bdK z n
  · have nb : ¬ badL (fun j => snZ z n sm 3 (j * 2)) (fun j => snZ z n sm 3 (j * 2 + 1)) (n + 1) := fun h => by rw [hbad.1 h] at hb; exact Bool.noConfusion hb
    cases hfr : frK z t f n
    · have nf : ¬ farL t (fun j => snZ z n sm 3 (j * 2)) (n + 1) := fun h => by rw [hfar.1 h] at hfr; exact Bool.noConfusion hfr
      refine ⟨0, (hrS 7 0 (fun j => snZ z n sm 3 (j * 2)) (fun j => snZ z n sm 3 (j * 2 + 1)) (n + 1)).1, (hrS 7 0 (fun j => snZ z n sm 3 (j * 2)) (fun j => snZ z n sm 3 (j * 2 + 1)) (n + 1)).2, .inr (.inr ⟨rfl, rfl, rfl, ?_⟩), fun b A c1 w K hp hA => (hlc_hear_ok b A (n + 1) c1 7 0 7 t _ _ w K hp hA ht (by omega) nb).mono ?_⟩
      · have h := hr_last 7 0 (fun j => snZ z n sm 3 (j * 2)) (fun j => snZ z n sm 3 (j * 2 + 1)) n
        simp only [(sn_new z n sm 3).1, (sn_new z n sm 3).2] at h
        exact h
      · rintro e w' (⟨h, _⟩ | ⟨_, h⟩)
        · exact absurd h nf
        · exact h
    · have yf : farL t (fun j => snZ z n sm 3 (j * 2)) (n + 1) := hfar.2 hfr
      refine ⟨16, 7, 0, .inr (.inl ⟨rfl, rfl, rfl, rfl, rfl⟩), fun b A c1 w K hp hA => (hlc_hear_ok b A (n + 1) c1 7 0 7 t _ _ w K hp hA ht (by omega) nb).mono ?_⟩
      rintro e w' (⟨_, rfl, h⟩ | ⟨h, _⟩)
      · exact ⟨rfl, Only.of_below h, K.below h K.lt⟩
      · exact absurd yf h
  · refine ⟨1, 7, 0, .inl ⟨rfl, rfl, rfl, rfl⟩, fun b A c1 w K hp hA => (hlc_hear_bad b A (n + 1) c1 t _ _ w hp ht (by omega) (hbad.2 hb)).mono ?_⟩
    rintro e w' ⟨rfl, h⟩
    exact ⟨rfl, Only.of_below h, K.below h K.lt⟩
set_option maxHeartbeats 2000000 in
theorem drift_out (t by' : Int) (A : Option Addr) (n c : Nat) (w : World) (hn : n ≤ maxLen) (h : ¬ (0 ≤ t ∧ t ≤ 1099511627776 ∧ -1073741824 ≤ by' ∧ by' ≤ 1073741824 ∧ n ≤ 50)) :
    Calls Try.prog 10 #[.int .i64 t, .int .i64 by', .slice A n c] w fun e w' => e = .returned (.bool true) ∧ Below w.heap.size w w' := by
  unfold maxLen at hn
  by_cases c0 : t < 0
  · have t0 : decide (t < 0) = true := decide_eq_true c0
    clear h c0
    go_enter Try.func10, Try.ntmps10
    go_wp2_with (go_at_call 16; refine (known10 _).mono ?_; rintro e w5 ⟨rfl, hb5⟩; obtain ⟨hc5, hf5⟩ := bcell hb5; have hz5 := hb5.size; (try simp only [World.size_alloc, World.size_setCell, World.heap_drewN] at hb5 hc5 hf5 hz5); (try have ha05 : w.heap.size < w5.heap.size := by omega); (try have ha15 : w.heap.size + 1 < w5.heap.size := by omega); (try have ha25 : w.heap.size + 2 < w5.heap.size := by omega); (try have hal5 : w.heap.size ≤ w5.heap.size := by omega); (try have ham5 : w.heap.size < w5.heap.size + 2 := by omega))
    go_ret
    go_light
    exact ⟨rfl, by (repeat' (first | (with_reducible exact Below.refl _ _) | (with_reducible assumption) | (with_reducible refine Below.trans ?_ (Below.mono (by with_reducible assumption) ?_)) | (with_reducible refine Below.alloc ?_ ?_ _) | (with_reducible refine Below.setCell ?_ ?_ _) | (with_reducible refine below_drewN ?_ _) | (with_reducible refine Below.drew ?_) | go_size))⟩
  have t0 : decide (t < 0) = false := decide_eq_false c0
  by_cases c1 : 1099511627776 < t
  · have t1 : decide (1099511627776 < t) = true := decide_eq_true c1
    clear h c0 c1
    go_enter Try.func10, Try.ntmps10
    go_wp2_with (go_at_call 16; refine (known10 _).mono ?_; rintro e w5 ⟨rfl, hb5⟩; obtain ⟨hc5, hf5⟩ := bcell hb5; have hz5 := hb5.size; (try simp only [World.size_alloc, World.size_setCell, World.heap_drewN] at hb5 hc5 hf5 hz5); (try have ha05 : w.heap.size < w5.heap.size := by omega); (try have ha15 : w.heap.size + 1 < w5.heap.size := by omega); (try have ha25 : w.heap.size + 2 < w5.heap.size := by omega); (try have hal5 : w.heap.size ≤ w5.heap.size := by omega); (try have ham5 : w.heap.size < w5.heap.size + 2 := by omega))
    go_ret
    go_light
    exact ⟨rfl, by (repeat' (first | (with_reducible exact Below.refl _ _) | (with_reducible assumption) | (with_reducible refine Below.trans ?_ (Below.mono (by with_reducible assumption) ?_)) | (with_reducible refine Below.alloc ?_ ?_ _) | (with_reducible refine Below.setCell ?_ ?_ _) | (with_reducible refine below_drewN ?_ _) | (with_reducible refine Below.drew ?_) | go_size))⟩
  have t1 : decide (1099511627776 < t) = false := decide_eq_false c1
  by_cases c2 : by' < -1073741824
  · have t2 : decide (by' < -1073741824) = true := decide_eq_true c2
    clear h c0 c1 c2
    go_enter Try.func10, Try.ntmps10
    go_wp2_with (go_at_call 16; refine (known10 _).mono ?_; rintro e w5 ⟨rfl, hb5⟩; obtain ⟨hc5, hf5⟩ := bcell hb5; have hz5 := hb5.size; (try simp only [World.size_alloc, World.size_setCell, World.heap_drewN] at hb5 hc5 hf5 hz5); (try have ha05 : w.heap.size < w5.heap.size := by omega); (try have ha15 : w.heap.size + 1 < w5.heap.size := by omega); (try have ha25 : w.heap.size + 2 < w5.heap.size := by omega); (try have hal5 : w.heap.size ≤ w5.heap.size := by omega); (try have ham5 : w.heap.size < w5.heap.size + 2 := by omega))
    go_ret
    go_light
    exact ⟨rfl, by (repeat' (first | (with_reducible exact Below.refl _ _) | (with_reducible assumption) | (with_reducible refine Below.trans ?_ (Below.mono (by with_reducible assumption) ?_)) | (with_reducible refine Below.alloc ?_ ?_ _) | (with_reducible refine Below.setCell ?_ ?_ _) | (with_reducible refine below_drewN ?_ _) | (with_reducible refine Below.drew ?_) | go_size))⟩
  have t2 : decide (by' < -1073741824) = false := decide_eq_false c2
  by_cases c3 : 1073741824 < by'
  · have t3 : decide (1073741824 < by') = true := decide_eq_true c3
    clear h c0 c1 c2 c3
    go_enter Try.func10, Try.ntmps10
    go_wp2_with (go_at_call 16; refine (known10 _).mono ?_; rintro e w5 ⟨rfl, hb5⟩; obtain ⟨hc5, hf5⟩ := bcell hb5; have hz5 := hb5.size; (try simp only [World.size_alloc, World.size_setCell, World.heap_drewN] at hb5 hc5 hf5 hz5); (try have ha05 : w.heap.size < w5.heap.size := by omega); (try have ha15 : w.heap.size + 1 < w5.heap.size := by omega); (try have ha25 : w.heap.size + 2 < w5.heap.size := by omega); (try have hal5 : w.heap.size ≤ w5.heap.size := by omega); (try have ham5 : w.heap.size < w5.heap.size + 2 := by omega))
    go_ret
    go_light
    exact ⟨rfl, by (repeat' (first | (with_reducible exact Below.refl _ _) | (with_reducible assumption) | (with_reducible refine Below.trans ?_ (Below.mono (by with_reducible assumption) ?_)) | (with_reducible refine Below.alloc ?_ ?_ _) | (with_reducible refine Below.setCell ?_ ?_ _) | (with_reducible refine below_drewN ?_ _) | (with_reducible refine Below.drew ?_) | go_size))⟩
  have t3 : decide (1073741824 < by') = false := decide_eq_false c3
  have t4 : decide (50 < (n : Int)) = true := by simp only [decide_eq_true_eq]; omega
  clear h c0 c1 c2 c3
  go_enter Try.func10, Try.ntmps10
  go_wp2_with (go_at_call 16; refine (known10 _).mono ?_; rintro e w5 ⟨rfl, hb5⟩; obtain ⟨hc5, hf5⟩ := bcell hb5; have hz5 := hb5.size; (try simp only [World.size_alloc, World.size_setCell, World.heap_drewN] at hb5 hc5 hf5 hz5); (try have ha05 : w.heap.size < w5.heap.size := by omega); (try have ha15 : w.heap.size + 1 < w5.heap.size := by omega); (try have ha25 : w.heap.size + 2 < w5.heap.size := by omega); (try have hal5 : w.heap.size ≤ w5.heap.size := by omega); (try have ham5 : w.heap.size < w5.heap.size + 2 := by omega))
  go_ret
  go_light
  exact ⟨rfl, by (repeat' (first | (with_reducible exact Below.refl _ _) | (with_reducible assumption) | (with_reducible refine Below.trans ?_ (Below.mono (by with_reducible assumption) ?_)) | (with_reducible refine Below.alloc ?_ ?_ _) | (with_reducible refine Below.setCell ?_ ?_ _) | (with_reducible refine below_drewN ?_ _) | (with_reducible refine Below.drew ?_) | go_size))⟩
end Go.Proofs.Ytmbopdabbegbiaa
