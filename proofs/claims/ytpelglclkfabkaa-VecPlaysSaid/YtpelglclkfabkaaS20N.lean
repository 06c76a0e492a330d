/- Stage 20: VecTurns (written by gen/s20n.py). -/
import Derived.Test.YtpelglclkfabkaaS20M
import Derived.BigGuard
import Derived.BigGuardPart
import Derived.BigCall
set_option linter.unusedSimpArgs false
set_option linter.unusedVariables false
namespace Go.Proofs.Ytpelglclkfabkaa
open Go.ChangeShapes Go.WideShapes Go.ChangeAt Go.RowKit Go.Joins

theorem VecAt.only {w w' : World} {b ka fl n c : Nat} {p q p' q' : Nat → Int} (h : VecAt w b ka fl n p q p' q') (k : Only c w w') (h1 : b ≠ c) (h2 : ka ≠ c) (h3 : fl ≠ c) : VecAt w' b ka fl n p q p' q' :=
  ⟨(k.cell b 0 h.lt h1).trans h.c0, (k.cell b 1 h.lt h1).trans h.c1, h.K.only k h2, h.F.only k h3, h.n1, h.n2, h.n3, Nat.lt_of_lt_of_le h.lt k.size⟩
/-- What is known behind the first k acts. -/
def fw (n : Nat) (N X Y : Nat → Int) : Nat → (Nat → Int) × (Nat → Int)
  | 0 => (fun _ => 0, fun _ => 0)
  | k + 1 => (stp n (N k) (X k) (Y k) (fw n N X Y k).1 (fw n N X Y k).2, stq n (N k) (X k) (Y k) (fw n N X Y k).1 (fw n N X Y k).2)
def le2 (a b c d : Int) : Prop := a < c ∨ (a = c ∧ b ≤ d)
theorem cmp2_one (m c p q : Int) : cmp2 m c p q = 1 ↔ p < m ∨ (p = m ∧ q < c) := by
  have h1 := cmp2_neg p q m c
  rw [cmp2_flip] at h1
  have h3 := cmp2_three m c p q
  constructor
  · intro h
    exact h1.1 (by omega)
  · intro h
    have := h1.2 h
    omega
theorem rs_yes {n : Nat} {i x y : Int} {p q : Nat → Int} (h : rs n i x y p q = true) : isStampB x y = true ∧ 0 ≤ i ∧ i < n ∧ (p i.toNat < x ∨ (p i.toNat = x ∧ q i.toNat < y)) := by
  unfold rs at h
  simp only [Bool.and_eq_true, decide_eq_true_eq, cmp2_one] at h
  exact ⟨h.1, h.2.1, h.2.2.1, h.2.2.2⟩
theorem rs_no {n : Nat} {i x y : Int} {p q : Nat → Int} (h : rs n i x y p q = false) (hs : isStampB x y = true) (h0 : 0 ≤ i) (h1 : i < n) : le2 x y (p i.toNat) (q i.toNat) := by
  have h2 : ¬ (p i.toNat < x ∨ (p i.toNat = x ∧ q i.toNat < y)) := by
    intro h3
    unfold rs at h
    rw [hs, decide_eq_true h0, decide_eq_true h1, decide_eq_true ((cmp2_one _ _ _ _).2 h3)] at h
    simp at h
  unfold le2
  omega
theorem fw_ge (n : Nat) (N X Y : Nat → Int) : ∀ k i, le2 0 0 ((fw n N X Y k).1 i) ((fw n N X Y k).2 i) ∧ ∀ j, j < k → isStampB (X j) (Y j) = true → 0 ≤ N j → N j < n → (N j).toNat = i → le2 (X j) (Y j) ((fw n N X Y k).1 i) ((fw n N X Y k).2 i) := by
  intro k
  induction k with
  | zero => exact fun i => ⟨.inr ⟨rfl, Int.le_refl _⟩, fun j h => absurd h (by omega)⟩
  | succ k ih =>
    intro i
    obtain ⟨h0, hj⟩ := ih i
    show le2 0 0 (stp n (N k) (X k) (Y k) (fw n N X Y k).1 (fw n N X Y k).2 i) (stq n (N k) (X k) (Y k) (fw n N X Y k).1 (fw n N X Y k).2 i) ∧ ∀ j, j < k + 1 → isStampB (X j) (Y j) = true → 0 ≤ N j → N j < n → (N j).toNat = i → le2 (X j) (Y j) (stp n (N k) (X k) (Y k) (fw n N X Y k).1 (fw n N X Y k).2 i) (stq n (N k) (X k) (Y k) (fw n N X Y k).1 (fw n N X Y k).2 i)
    generalize fw n N X Y k = F at *
    obtain ⟨P, Q⟩ := F
    simp only at h0 hj ⊢
    unfold stp stq
    cases hr : rs n (N k) (X k) (Y k) P Q
    · simp only [Bool.false_eq_true, if_false]
      refine ⟨h0, fun j hjk a b c d => ?_⟩
      rcases (show j < k ∨ j = k from by omega) with h | rfl
      · exact hj j h a b c d
      · have := rs_no hr a b c
        rwa [d] at this
    · simp only [if_true]
      obtain ⟨y0, y1, y2, y3⟩ := rs_yes hr
      unfold upd
      by_cases e : i = (N k).toNat
      · subst e
        simp only [if_true]
        have hm := stamp_bd y0
        refine ⟨by unfold le2; omega, fun j hjk a b c d => ?_⟩
        rcases (show j < k ∨ j = k from by omega) with h | rfl
        · have := hj j h a b c d
          unfold le2 at *
          omega
        · exact .inr ⟨rfl, Int.le_refl _⟩
      · simp only [e, if_false]
        refine ⟨h0, fun j hjk a b c d => ?_⟩
        rcases (show j < k ∨ j = k from by omega) with h | rfl
        · exact hj j h a b c d
        · exact absurd d.symm e
theorem fw_mem (n : Nat) (N X Y : Nat → Int) : ∀ k i, ((fw n N X Y k).1 i = 0 ∧ (fw n N X Y k).2 i = 0) ∨ ∃ j, j < k ∧ isStampB (X j) (Y j) = true ∧ 0 ≤ N j ∧ N j < n ∧ (N j).toNat = i ∧ (fw n N X Y k).1 i = X j ∧ (fw n N X Y k).2 i = Y j := by
  intro k
  induction k with
  | zero => exact fun i => .inl ⟨rfl, rfl⟩
  | succ k ih =>
    intro i
    have h0 := ih i
    show (stp n (N k) (X k) (Y k) (fw n N X Y k).1 (fw n N X Y k).2 i = 0 ∧ stq n (N k) (X k) (Y k) (fw n N X Y k).1 (fw n N X Y k).2 i = 0) ∨ ∃ j, j < k + 1 ∧ isStampB (X j) (Y j) = true ∧ 0 ≤ N j ∧ N j < n ∧ (N j).toNat = i ∧ stp n (N k) (X k) (Y k) (fw n N X Y k).1 (fw n N X Y k).2 i = X j ∧ stq n (N k) (X k) (Y k) (fw n N X Y k).1 (fw n N X Y k).2 i = Y j
    generalize fw n N X Y k = F at *
    obtain ⟨P, Q⟩ := F
    simp only at h0 ⊢
    have old : ((P i = 0 ∧ Q i = 0) ∨ ∃ j, j < k + 1 ∧ isStampB (X j) (Y j) = true ∧ 0 ≤ N j ∧ N j < n ∧ (N j).toNat = i ∧ P i = X j ∧ Q i = Y j) := by
      rcases h0 with h | ⟨j, h1, h2⟩
      · exact .inl h
      · exact .inr ⟨j, by omega, h2⟩
    unfold stp stq
    cases hr : rs n (N k) (X k) (Y k) P Q
    · simp only [Bool.false_eq_true, if_false]
      exact old
    · simp only [if_true]
      obtain ⟨y0, y1, y2, y3⟩ := rs_yes hr
      unfold upd
      by_cases e : i = (N k).toNat
      · subst e
        simp only [if_true]
        exact .inr ⟨k, by omega, y0, y1, y2, rfl, rfl, rfl⟩
      · simp only [e, if_false]
        exact old
theorem fw_le (n L : Nat) (N X Y N' X' Y' : Nat → Int) (h : ∀ j, j < L → ∃ j', j' < L ∧ N' j' = N j ∧ X' j' = X j ∧ Y' j' = Y j) (i : Nat) : le2 ((fw n N X Y L).1 i) ((fw n N X Y L).2 i) ((fw n N' X' Y' L).1 i) ((fw n N' X' Y' L).2 i) := by
  obtain ⟨g0, g1⟩ := fw_ge n N' X' Y' L i
  rcases fw_mem n N X Y L i with ⟨h1, h2⟩ | ⟨j, hj, h1, h2, h3, h4, h5, h6⟩
  · rw [h1, h2]; exact g0
  · obtain ⟨j', hj', e1, e2, e3⟩ := h j hj
    have := g1 j' hj' (by rw [e2, e3]; exact h1) (by rw [e1]; exact h2) (by rw [e1]; exact h3) (by rw [e1]; exact h4)
    rwa [h5, h6, ← e2, ← e3]
theorem fw_rev (n L : Nat) (N X Y : Nat → Int) : fw n (fun j => N (L - 1 - j)) (fun j => X (L - 1 - j)) (fun j => Y (L - 1 - j)) L = fw n N X Y L := by
  have a := fw_le n L N X Y (fun j => N (L - 1 - j)) (fun j => X (L - 1 - j)) (fun j => Y (L - 1 - j)) (fun j hj => ⟨L - 1 - j, by omega, by simp only [show L - 1 - (L - 1 - j) = j from by omega], by simp only [show L - 1 - (L - 1 - j) = j from by omega], by simp only [show L - 1 - (L - 1 - j) = j from by omega]⟩)
  have b := fw_le n L (fun j => N (L - 1 - j)) (fun j => X (L - 1 - j)) (fun j => Y (L - 1 - j)) N X Y (fun j hj => ⟨L - 1 - j, by omega, rfl, rfl, rfl⟩)
  have c : ∀ i, (fw n (fun j => N (L - 1 - j)) (fun j => X (L - 1 - j)) (fun j => Y (L - 1 - j)) L).1 i = (fw n N X Y L).1 i ∧ (fw n (fun j => N (L - 1 - j)) (fun j => X (L - 1 - j)) (fun j => Y (L - 1 - j)) L).2 i = (fw n N X Y L).2 i := by
    intro i
    have ai := a i
    have bi := b i
    unfold le2 at ai bi
    omega
  exact Prod.ext (funext fun i => (c i).1) (funext fun i => (c i).2)
set_option maxHeartbeats 1000000 in
theorem vecTurns_out (i : Int) (A : Option Addr) (L c : Nat) (w : World) (h : i < 1 ∨ (1 ≤ i ∧ 5 < i) ∨ (1 ≤ i ∧ i ≤ 5 ∧ 200 < L)) (hn : L ≤ maxLen) :
    Calls Try.prog 7 #[.int .i64 i, .slice A L c] w fun e w' => e = .returned (.bool true) ∧ Below w.heap.size w w' := by
  unfold maxLen at hn
  rcases h with h | ⟨h0, h⟩ | ⟨h0, h1, h⟩
  · go_enter Try.func7, Try.ntmps7
    go_wp2_with (go_at_call 10; refine (known20 _).mono ?_; rintro e w5 ⟨rfl, hb5⟩; obtain ⟨hc5, hf5⟩ := bcell hb5; have hz5 := hb5.size; (try simp only [World.size_alloc, World.size_setCell, World.heap_drewN] at hb5 hc5 hf5 hz5); (try have ha05 : w.heap.size < w5.heap.size := by omega); (try have ha15 : w.heap.size + 1 < w5.heap.size := by omega); (try have ha25 : w.heap.size + 2 < w5.heap.size := by omega); (try have hal5 : w.heap.size ≤ w5.heap.size := by omega); (try have ham5 : w.heap.size < w5.heap.size + 2 := by omega))
    go_ret
    go_light
    exact ⟨rfl, by (repeat' (first | (with_reducible exact Below.refl _ _) | (with_reducible assumption) | (with_reducible refine Below.trans ?_ (Below.mono (by with_reducible assumption) ?_)) | (with_reducible refine Below.alloc ?_ ?_ _) | (with_reducible refine Below.setCell ?_ ?_ _) | (with_reducible refine below_drewN ?_ _) | (with_reducible refine Below.drew ?_) | go_size))⟩
  · go_enter Try.func7, Try.ntmps7
    go_wp2_with (go_at_call 10; refine (known20 _).mono ?_; rintro e w5 ⟨rfl, hb5⟩; obtain ⟨hc5, hf5⟩ := bcell hb5; have hz5 := hb5.size; (try simp only [World.size_alloc, World.size_setCell, World.heap_drewN] at hb5 hc5 hf5 hz5); (try have ha05 : w.heap.size < w5.heap.size := by omega); (try have ha15 : w.heap.size + 1 < w5.heap.size := by omega); (try have ha25 : w.heap.size + 2 < w5.heap.size := by omega); (try have hal5 : w.heap.size ≤ w5.heap.size := by omega); (try have ham5 : w.heap.size < w5.heap.size + 2 := by omega))
    go_ret
    go_light
    exact ⟨rfl, by (repeat' (first | (with_reducible exact Below.refl _ _) | (with_reducible assumption) | (with_reducible refine Below.trans ?_ (Below.mono (by with_reducible assumption) ?_)) | (with_reducible refine Below.alloc ?_ ?_ _) | (with_reducible refine Below.setCell ?_ ?_ _) | (with_reducible refine below_drewN ?_ _) | (with_reducible refine Below.drew ?_) | go_size))⟩
  · have h' : (200 : Int) < (L : Int) := by omega
    go_enter Try.func7, Try.ntmps7
    go_wp2_with (go_at_call 10; refine (known20 _).mono ?_; rintro e w5 ⟨rfl, hb5⟩; obtain ⟨hc5, hf5⟩ := bcell hb5; have hz5 := hb5.size; (try simp only [World.size_alloc, World.size_setCell, World.heap_drewN] at hb5 hc5 hf5 hz5); (try have ha05 : w.heap.size < w5.heap.size := by omega); (try have ha15 : w.heap.size + 1 < w5.heap.size := by omega); (try have ha25 : w.heap.size + 2 < w5.heap.size := by omega); (try have hal5 : w.heap.size ≤ w5.heap.size := by omega); (try have ham5 : w.heap.size < w5.heap.size + 2 := by omega))
    go_ret
    go_light
    exact ⟨rfl, by (repeat' (first | (with_reducible exact Below.refl _ _) | (with_reducible assumption) | (with_reducible refine Below.trans ?_ (Below.mono (by with_reducible assumption) ?_)) | (with_reducible refine Below.alloc ?_ ?_ _) | (with_reducible refine Below.setCell ?_ ?_ _) | (with_reducible refine below_drewN ?_ _) | (with_reducible refine Below.drew ?_) | go_size))⟩
set_option maxRecDepth 100000 in
set_option maxHeartbeats 8000000 in
theorem vecTurns_in (n : Nat) (i : Int) (hi : i = n) (A : Option Addr) (L c : Nat) (z : Nat → Int) (w : World) (hz : FlatAt w A 4 L z) (h1 : 1 ≤ n) (h5 : n ≤ 5) (hL : L ≤ 200) :
    Calls Try.prog 7 #[.int .i64 i, .slice A L c] w fun e w' => e = .returned (.bool true) ∧ Below w.heap.size w w' := by
  have h1' : 1 ≤ i := by omega
  have h5' : i ≤ 5 := by omega
  have t1 : decide (i < 1) = false := by simp only [decide_eq_false_iff_not]; omega
  have t2 : decide (5 < i) = false := by simp only [decide_eq_false_iff_not]; omega
  have t3 : decide (200 < (L : Int)) = false := by simp only [decide_eq_false_iff_not]; omega
  have HI := Lib.hid hi
  have HNEW := Lib.hid fun (W : World) => (show Calls Try.prog 8 #[.int .i64 i] W (NewPost n W) from by rw [hi]; exact vec_new n W h1 h5)
  clear hi
  have hL' : (L : Int) ≤ 200 := by omega
  have HZ := Lib.hid hz
  generalize hN : (fun j => z (j * 4 + 1)) = N at *
  generalize hX : (fun j => z (j * 4 + 2)) = X at *
  generalize hY : (fun j => z (j * 4 + 3)) = Y at *
  have HN : Hid (∀ j, z (j * 4 + 1) = N j) := Lib.hid fun j => by rw [← hN]
  have HX : Hid (∀ j, z (j * 4 + 2) = X j) := Lib.hid fun j => by rw [← hX]
  have HY : Hid (∀ j, z (j * 4 + 3) = Y j) := Lib.hid fun j => by rw [← hY]
  clear hz hN hX hY
  have HREV := Lib.hid (fw_rev n L N X Y)
  generalize hN' : (fun j => N (L - 1 - j)) = N' at *
  generalize hX' : (fun j => X (L - 1 - j)) = X' at *
  generalize hY' : (fun j => Y (L - 1 - j)) = Y' at *
  have HN' : Hid (∀ j, N (L - 1 - j) = N' j) := Lib.hid fun j => by rw [← hN']
  have HX' : Hid (∀ j, X (L - 1 - j) = X' j) := Lib.hid fun j => by rw [← hX']
  have HY' : Hid (∀ j, Y (L - 1 - j) = Y' j) := Lib.hid fun j => by rw [← hY']
  clear hN' hX' hY'
  go_enter Try.func7, Try.ntmps7
  go_wp2_with fail
  refine (HNEW.out _).mono ?_; rintro e w1 ⟨ba, ka, fa, rfl, HB1, a0, a1, a2, VA⟩
  go_wp2_with fail
  refine (HNEW.out _).mono ?_; rintro e w2 ⟨bb, kb, fb, rfl, HB2, b0, b1, b2, VB⟩
  have HBS := Lib.hid (HB1.trans (HB2.mono HB1.size))
  have VAS := Lib.hid (VA.belowW HB2)
  have VBS := Lib.hid VB
  have la := VA.lt
  have lka := VA.K.lt
  have lfa := VA.F.lt
  have za := HB1.size
  have b0' : w.heap.size ≤ bb := by omega
  have b1' : w.heap.size ≤ kb := by omega
  have b2' : w.heap.size ≤ fb := by omega
  have d1 : bb ≠ ka := by omega
  have d2 : kb ≠ ka := by omega
  have d3 : fb ≠ ka := by omega
  have d4 : bb ≠ fa := by omega
  have d5 : kb ≠ fa := by omega
  have d6 : fb ≠ fa := by omega
  have d7 : ba ≠ kb := by omega
  have d8 : ka ≠ kb := by omega
  have d9 : fa ≠ kb := by omega
  have d10 : ba ≠ fb := by omega
  have d11 : ka ≠ fb := by omega
  have d12 : fa ≠ fb := by omega
  clear HB1 HB2 VA VB la lka lfa za
  go_wp2
  go_loopw [9] (fun i wr => ∃ k : Nat, k ≤ L ∧ i = .int .i64 k ∧ VecAt wr ba ka fa n (fw n N X Y k).1 (fw n N X Y k).2 (fw n N X Y k).1 (fw n N X Y k).2 ∧ VecAt wr bb kb fb n (fw n N' X' Y' k).1 (fw n N' X' Y' k).2 (fw n N' X' Y' k).1 (fw n N' X' Y' k).2 ∧ Below w.heap.size w wr) (fun i _ => L - (intOf i).toNat)
  case atStart => exact ⟨0, Nat.zero_le _, rfl, VAS.out, VBS.out, HBS.out⟩
  case round =>
    obtain ⟨k, hk, rfl, VA, VB, HB⟩ := hrel
    clear VAS VBS HBS
    by_cases hlt : k < L
    · obtain ⟨B, O, rfl, hB, hcells⟩ := HZ.out (by omega)
      have HC := Lib.hid hcells
      have lk : (k : Int) < (L : Int) := by omega
      obtain ⟨m, hm⟩ : ∃ m : Nat, m = L - 1 - k := ⟨_, rfl⟩
      have kw1 : IntKind.i64.wrap ((L : Int) - 1) = (L : Int) - 1 := IntWalk.i64_in _ (by omega)
      have kw2 : IntKind.i64.wrap ((L : Int) - 1 - (k : Int)) = (m : Int) := (IntWalk.i64_in _ (by omega)).trans (by omega)
      have lm : (m : Int) < (L : Int) := by omega
      have X1a : Hid (∀ W : World, Below w.heap.size w W → W.cell? ⟨B, O + k * 4 + 1, none⟩ = some (.int .i64 (N k))) := Lib.hid fun W hb => (hb.cell (p := ⟨B, O + (k * 4 + 1), none⟩) hB).trans (by rw [← HN.out]; exact (HC.out (k * 4 + 1) (by omega)).1)
      have X2a : Hid (∀ W : World, Below w.heap.size w W → W.cell? ⟨B, O + k * 4 + 2, none⟩ = some (.int .i64 (X k))) := Lib.hid fun W hb => (hb.cell (p := ⟨B, O + (k * 4 + 2), none⟩) hB).trans (by rw [← HX.out]; exact (HC.out (k * 4 + 2) (by omega)).1)
      have X3a : Hid (∀ W : World, Below w.heap.size w W → W.cell? ⟨B, O + k * 4 + 3, none⟩ = some (.int .i64 (Y k))) := Lib.hid fun W hb => (hb.cell (p := ⟨B, O + (k * 4 + 3), none⟩) hB).trans (by rw [← HY.out]; exact (HC.out (k * 4 + 3) (by omega)).1)
      have X1b : Hid (∀ W : World, Below w.heap.size w W → W.cell? ⟨B, O + m * 4 + 1, none⟩ = some (.int .i64 (N' k))) := Lib.hid fun W hb => (hb.cell (p := ⟨B, O + (m * 4 + 1), none⟩) hB).trans (by rw [← HN'.out, ← HN.out, ← hm]; exact (HC.out (m * 4 + 1) (by omega)).1)
      have X2b : Hid (∀ W : World, Below w.heap.size w W → W.cell? ⟨B, O + m * 4 + 2, none⟩ = some (.int .i64 (X' k))) := Lib.hid fun W hb => (hb.cell (p := ⟨B, O + (m * 4 + 2), none⟩) hB).trans (by rw [← HX'.out, ← HX.out, ← hm]; exact (HC.out (m * 4 + 2) (by omega)).1)
      have X3b : Hid (∀ W : World, Below w.heap.size w W → W.cell? ⟨B, O + m * 4 + 3, none⟩ = some (.int .i64 (Y' k))) := Lib.hid fun W hb => (hb.cell (p := ⟨B, O + (m * 4 + 3), none⟩) hB).trans (by rw [← HY'.out, ← HY.out, ← hm]; exact (HC.out (m * 4 + 3) (by omega)).1)
      have SA : Hid ((fw n N X Y (k + 1)).1 = stp n (N k) (X k) (Y k) (fw n N X Y k).1 (fw n N X Y k).2 ∧ (fw n N X Y (k + 1)).2 = stq n (N k) (X k) (Y k) (fw n N X Y k).1 (fw n N X Y k).2) := Lib.hid ⟨rfl, rfl⟩
      have SB : Hid ((fw n N' X' Y' (k + 1)).1 = stp n (N' k) (X' k) (Y' k) (fw n N' X' Y' k).1 (fw n N' X' Y' k).2 ∧ (fw n N' X' Y' (k + 1)).2 = stq n (N' k) (X' k) (Y' k) (fw n N' X' Y' k).1 (fw n N' X' Y' k).2) := Lib.hid ⟨rfl, rfl⟩
      have lB : B < wr.heap.size := Nat.lt_of_lt_of_le hB HB.size
      generalize (fw n N X Y k).1 = P at *
      generalize (fw n N X Y k).2 = Q at *
      generalize (fw n N' X' Y' k).1 = P' at *
      generalize (fw n N' X' Y' k).2 = Q' at *
      generalize N k = na at *
      generalize X k = xa at *
      generalize Y k = ya at *
      generalize N' k = nb at *
      generalize X' k = xb at *
      generalize Y' k = yb at *
      have q1 := X1a.out _ HB
      have q2 := X2a.out _ HB
      have q3 := X3a.out _ HB
      clear HC hcells hm HZ HREV
      have HB0 := HB
      go_wp2_with fail
      refine wp_region_held_drew (S := (fun w' => w'.cell? ⟨B, O + k * 4 + 1, none⟩ = some (.int .i64 na) ∧ w'.cell? ⟨B, O + k * 4 + 2, none⟩ = some (.int .i64 xa) ∧ w'.cell? ⟨B, O + k * 4 + 3, none⟩ = some (.int .i64 ya))) (by kernel_rfl) ?_ (fun hHeld => ?_)
      · exact ⟨q1, q2, q3⟩
      refine wpAnyH_take (i := 0) (v := ?_) rfl (by kernel_rfl) (by kernel_rfl) (by kernel_rfl) (fun _ _ _ h => h) (Or.inl ⟨by rfl, ?_⟩) (by assumption) ?_
      rotate_left
      · intro w' hSw; (try dsimp only at hSw); go_simp; (try with_reducible rfl)
      (try simp only [Act.put, List.setIfInBounds_toArray, List.set_cons_zero, List.set_cons_succ, List.getElem_toArray, List.getElem_cons_succ, List.getElem_cons_zero])
      refine wpAnyH_take (i := 1) (v := ?_) rfl (by kernel_rfl) (by kernel_rfl) (by kernel_rfl) (fun _ _ _ h => h) (Or.inl ⟨by rfl, ?_⟩) (by assumption) ?_
      rotate_left
      · intro w' hSw; (try dsimp only at hSw); go_simp; (try with_reducible rfl)
      (try simp only [Act.put, List.setIfInBounds_toArray, List.set_cons_zero, List.set_cons_succ, List.getElem_toArray, List.getElem_cons_succ, List.getElem_cons_zero])
      refine wpAnyH_take (i := 2) (v := ?_) rfl (by kernel_rfl) (by kernel_rfl) (by kernel_rfl) (fun _ _ _ h => h) (Or.inl ⟨by rfl, ?_⟩) (by assumption) ?_
      rotate_left
      · intro w' hSw; (try dsimp only at hSw); go_simp; (try with_reducible rfl)
      (try simp only [Act.put, List.setIfInBounds_toArray, List.set_cons_zero, List.set_cons_succ, List.getElem_toArray, List.getElem_cons_succ, List.getElem_cons_zero])
      refine wpAnyH_take (i := 3) (v := ?_) rfl (by kernel_rfl) (by kernel_rfl) (by kernel_rfl) (fun _ _ _ h => h) (Or.inl ⟨by rfl, ?_⟩) (by assumption) ?_
      rotate_left
      · intro w' hSw; (try dsimp only at hSw); go_simp; (try with_reducible rfl)
      (try simp only [Act.put, List.setIfInBounds_toArray, List.set_cons_zero, List.set_cons_succ, List.getElem_toArray, List.getElem_cons_succ, List.getElem_cons_zero])
      refine wpAnyH_take (i := 4) (v := ?_) rfl (by kernel_rfl) (by kernel_rfl) (by kernel_rfl) (fun _ _ _ h => h) (Or.inl ⟨by rfl, ?_⟩) (by assumption) ?_
      rotate_left
      · intro w' hSw; (try dsimp only at hSw); go_simp; (try with_reducible rfl)
      (try simp only [Act.put, List.setIfInBounds_toArray, List.set_cons_zero, List.set_cons_succ, List.getElem_toArray, List.getElem_cons_succ, List.getElem_cons_zero])
      refine wpAnyH_take (i := 5) (v := ?_) rfl (by kernel_rfl) (by kernel_rfl) (by kernel_rfl) (fun _ _ _ h => h) (Or.inl ⟨by rfl, ?_⟩) (by assumption) ?_
      rotate_left
      · intro w' hSw; (try dsimp only at hSw); go_simp; (try with_reducible rfl)
      (try simp only [Act.put, List.setIfInBounds_toArray, List.set_cons_zero, List.set_cons_succ, List.getElem_toArray, List.getElem_cons_succ, List.getElem_cons_zero])
      refine wpAnyH_take (i := 6) (v := ?_) rfl (by kernel_rfl) (by kernel_rfl) (by kernel_rfl) (fun _ _ _ h => h) (Or.inl ⟨by rfl, ?_⟩) (by assumption) ?_
      rotate_left
      · intro w' hSw; (try dsimp only at hSw); go_simp; (try with_reducible rfl)
      (try simp only [Act.put, List.setIfInBounds_toArray, List.set_cons_zero, List.set_cons_succ, List.getElem_toArray, List.getElem_cons_succ, List.getElem_cons_zero])
      refine wpAnyH_take (i := 7) (v := ?_) rfl (by kernel_rfl) (by kernel_rfl) (by kernel_rfl) (fun _ _ _ h => h) (Or.inl ⟨by rfl, ?_⟩) (by assumption) ?_
      rotate_left
      · intro w' hSw; (try dsimp only at hSw); go_simp; (try with_reducible rfl)
      (try simp only [Act.put, List.setIfInBounds_toArray, List.set_cons_zero, List.set_cons_succ, List.getElem_toArray, List.getElem_cons_succ, List.getElem_cons_zero])
      refine wpAnyH_take (i := 8) (v := ?_) rfl (by kernel_rfl) (by kernel_rfl) (by kernel_rfl) (fun _ _ _ h => h) (Or.inl ⟨by rfl, ?_⟩) (by assumption) ?_
      rotate_left
      · intro w' hSw; (try dsimp only at hSw); go_simp; (try with_reducible rfl)
      (try simp only [Act.put, List.setIfInBounds_toArray, List.set_cons_zero, List.set_cons_succ, List.getElem_toArray, List.getElem_cons_succ, List.getElem_cons_zero])
      refine wpAnyH_take (i := 9) (v := ?_) rfl (by kernel_rfl) (by kernel_rfl) (by kernel_rfl) (fun _ _ _ h => h) (Or.inl ⟨by rfl, ?_⟩) (by assumption) ?_
      rotate_left
      · intro w' hSw; (try dsimp only at hSw); go_simp; (try with_reducible rfl)
      (try simp only [Act.put, List.setIfInBounds_toArray, List.set_cons_zero, List.set_cons_succ, List.getElem_toArray, List.getElem_cons_succ, List.getElem_cons_zero])
      refine wpAnyH_take (i := 10) (v := ?_) rfl (by kernel_rfl) (by kernel_rfl) (by kernel_rfl) (fun _ _ _ h => h) (Or.inl ⟨by rfl, ?_⟩) (by assumption) ?_
      rotate_left
      · intro w' hSw; (try dsimp only at hSw); go_simp; (try with_reducible rfl)
      (try simp only [Act.put, List.setIfInBounds_toArray, List.set_cons_zero, List.set_cons_succ, List.getElem_toArray, List.getElem_cons_succ, List.getElem_cons_zero])
      refine wpAnyH_ready (rs := [11]) (by kernel_rfl) (by simp) ?_
      refine AllReadyH.cons rfl (fun K hK => ?_) AllReadyH.nil
      go_simp
      (go_at_call 11; refine (vec_reach ba ka fa n na P Q P Q xa ya _ (by first | exact VA | exact VA.drew | exact VA.drew.drew) (by omega)).mono ?_; rintro e w3 ⟨rfl, ho, V⟩; have HB1 : Below w.heap.size w w3 := Below.trans (show Below w.heap.size w _ from (by (repeat' (first | (with_reducible exact Below.refl _ _) | (with_reducible assumption) | (with_reducible refine Below.trans ?_ (Below.mono (by with_reducible assumption) ?_)) | (with_reducible refine Below.alloc ?_ ?_ _) | (with_reducible refine Below.setCell ?_ ?_ _) | (with_reducible refine below_drewN ?_ _) | (with_reducible refine Below.drew ?_) | go_size)))) (ho.below a1 HB0.size); have c1 := X1a.out _ HB1; have c2 := X2a.out _ HB1; have c3 := X3a.out _ HB1)
      (try dsimp only)
      refine hK.out _ _ ?_ (fun hHeld => ?_)
      · exact ⟨c1, c2, c3⟩
      clear hK K
      (try simp only [Act.put, List.setIfInBounds_toArray, List.set_cons_zero, List.set_cons_succ, List.getElem_toArray, List.getElem_cons_succ, List.getElem_cons_zero])
      refine wpAnyH_done (by kernel_rfl) ?_ _
      have VA1 := V
      have VB1 := VB.only (w' := w3) (by first | exact ho | exact ⟨ho.os, ho.tape, ho.output, ho.size, ho.block⟩) d1 d2 d3
      have q1 := c1
      have q2 := c2
      have q3 := c3
      have lB : B < w3.heap.size := Nat.lt_of_lt_of_le hB HB1.size
      clear ho V c1 c2 c3 VA VB HB0
      go_wp2_with fail
      refine wp_region_held_drew (S := (fun w' => w'.cell? ⟨B, O + k * 4 + 1, none⟩ = some (.int .i64 na) ∧ w'.cell? ⟨B, O + k * 4 + 2, none⟩ = some (.int .i64 xa) ∧ w'.cell? ⟨B, O + k * 4 + 3, none⟩ = some (.int .i64 ya))) (by kernel_rfl) ?_ (fun hHeld => ?_)
      · exact ⟨q1, q2, q3⟩
      refine wpAnyH_take (i := 0) (v := ?_) rfl (by kernel_rfl) (by kernel_rfl) (by kernel_rfl) (fun _ _ _ h => h) (Or.inl ⟨by rfl, ?_⟩) (by assumption) ?_
      rotate_left
      · intro w' hSw; (try dsimp only at hSw); go_simp; (try with_reducible rfl)
      (try simp only [Act.put, List.setIfInBounds_toArray, List.set_cons_zero, List.set_cons_succ, List.getElem_toArray, List.getElem_cons_succ, List.getElem_cons_zero])
      refine wpAnyH_take (i := 1) (v := ?_) rfl (by kernel_rfl) (by kernel_rfl) (by kernel_rfl) (fun _ _ _ h => h) (Or.inl ⟨by rfl, ?_⟩) (by assumption) ?_
      rotate_left
      · intro w' hSw; (try dsimp only at hSw); go_simp; (try with_reducible rfl)
      (try simp only [Act.put, List.setIfInBounds_toArray, List.set_cons_zero, List.set_cons_succ, List.getElem_toArray, List.getElem_cons_succ, List.getElem_cons_zero])
      refine wpAnyH_take (i := 2) (v := ?_) rfl (by kernel_rfl) (by kernel_rfl) (by kernel_rfl) (fun _ _ _ h => h) (Or.inl ⟨by rfl, ?_⟩) (by assumption) ?_
      rotate_left
      · intro w' hSw; (try dsimp only at hSw); go_simp; (try with_reducible rfl)
      (try simp only [Act.put, List.setIfInBounds_toArray, List.set_cons_zero, List.set_cons_succ, List.getElem_toArray, List.getElem_cons_succ, List.getElem_cons_zero])
      refine wpAnyH_take (i := 3) (v := ?_) rfl (by kernel_rfl) (by kernel_rfl) (by kernel_rfl) (fun _ _ _ h => h) (Or.inl ⟨by rfl, ?_⟩) (by assumption) ?_
      rotate_left
      · intro w' hSw; (try dsimp only at hSw); go_simp; (try with_reducible rfl)
      (try simp only [Act.put, List.setIfInBounds_toArray, List.set_cons_zero, List.set_cons_succ, List.getElem_toArray, List.getElem_cons_succ, List.getElem_cons_zero])
      refine wpAnyH_take (i := 4) (v := ?_) rfl (by kernel_rfl) (by kernel_rfl) (by kernel_rfl) (fun _ _ _ h => h) (Or.inl ⟨by rfl, ?_⟩) (by assumption) ?_
      rotate_left
      · intro w' hSw; (try dsimp only at hSw); go_simp; (try with_reducible rfl)
      (try simp only [Act.put, List.setIfInBounds_toArray, List.set_cons_zero, List.set_cons_succ, List.getElem_toArray, List.getElem_cons_succ, List.getElem_cons_zero])
      refine wpAnyH_take (i := 5) (v := ?_) rfl (by kernel_rfl) (by kernel_rfl) (by kernel_rfl) (fun _ _ _ h => h) (Or.inl ⟨by rfl, ?_⟩) (by assumption) ?_
      rotate_left
      · intro w' hSw; (try dsimp only at hSw); go_simp; (try with_reducible rfl)
      (try simp only [Act.put, List.setIfInBounds_toArray, List.set_cons_zero, List.set_cons_succ, List.getElem_toArray, List.getElem_cons_succ, List.getElem_cons_zero])
      refine wpAnyH_take (i := 6) (v := ?_) rfl (by kernel_rfl) (by kernel_rfl) (by kernel_rfl) (fun _ _ _ h => h) (Or.inl ⟨by rfl, ?_⟩) (by assumption) ?_
      rotate_left
      · intro w' hSw; (try dsimp only at hSw); go_simp; (try with_reducible rfl)
      (try simp only [Act.put, List.setIfInBounds_toArray, List.set_cons_zero, List.set_cons_succ, List.getElem_toArray, List.getElem_cons_succ, List.getElem_cons_zero])
      refine wpAnyH_take (i := 7) (v := ?_) rfl (by kernel_rfl) (by kernel_rfl) (by kernel_rfl) (fun _ _ _ h => h) (Or.inl ⟨by rfl, ?_⟩) (by assumption) ?_
      rotate_left
      · intro w' hSw; (try dsimp only at hSw); go_simp; (try with_reducible rfl)
      (try simp only [Act.put, List.setIfInBounds_toArray, List.set_cons_zero, List.set_cons_succ, List.getElem_toArray, List.getElem_cons_succ, List.getElem_cons_zero])
      refine wpAnyH_take (i := 8) (v := ?_) rfl (by kernel_rfl) (by kernel_rfl) (by kernel_rfl) (fun _ _ _ h => h) (Or.inl ⟨by rfl, ?_⟩) (by assumption) ?_
      rotate_left
      · intro w' hSw; (try dsimp only at hSw); go_simp; (try with_reducible rfl)
      (try simp only [Act.put, List.setIfInBounds_toArray, List.set_cons_zero, List.set_cons_succ, List.getElem_toArray, List.getElem_cons_succ, List.getElem_cons_zero])
      refine wpAnyH_take (i := 9) (v := ?_) rfl (by kernel_rfl) (by kernel_rfl) (by kernel_rfl) (fun _ _ _ h => h) (Or.inl ⟨by rfl, ?_⟩) (by assumption) ?_
      rotate_left
      · intro w' hSw; (try dsimp only at hSw); go_simp; (try with_reducible rfl)
      (try simp only [Act.put, List.setIfInBounds_toArray, List.set_cons_zero, List.set_cons_succ, List.getElem_toArray, List.getElem_cons_succ, List.getElem_cons_zero])
      refine wpAnyH_take (i := 10) (v := ?_) rfl (by kernel_rfl) (by kernel_rfl) (by kernel_rfl) (fun _ _ _ h => h) (Or.inl ⟨by rfl, ?_⟩) (by assumption) ?_
      rotate_left
      · intro w' hSw; (try dsimp only at hSw); go_simp; (try with_reducible rfl)
      (try simp only [Act.put, List.setIfInBounds_toArray, List.set_cons_zero, List.set_cons_succ, List.getElem_toArray, List.getElem_cons_succ, List.getElem_cons_zero])
      refine wpAnyH_ready (rs := [11]) (by kernel_rfl) (by simp) ?_
      refine AllReadyH.cons rfl (fun K hK => ?_) AllReadyH.nil
      go_simp
      (go_at_call 13; refine (vec_floor ba ka fa n na _ _ P Q xa ya _ (by first | exact VA1 | exact VA1.drew | exact VA1.drew.drew) (by omega)).mono ?_; rintro e w4 ⟨rfl, ho, V⟩; have HB2 : Below w.heap.size w w4 := Below.trans (show Below w.heap.size w _ from (by (repeat' (first | (with_reducible exact Below.refl _ _) | (with_reducible assumption) | (with_reducible refine Below.trans ?_ (Below.mono (by with_reducible assumption) ?_)) | (with_reducible refine Below.alloc ?_ ?_ _) | (with_reducible refine Below.setCell ?_ ?_ _) | (with_reducible refine below_drewN ?_ _) | (with_reducible refine Below.drew ?_) | go_size)))) (ho.below a2 HB1.size); have c1 := X1a.out _ HB2; have c2 := X2a.out _ HB2; have c3 := X3a.out _ HB2)
      (try dsimp only)
      refine hK.out _ _ ?_ (fun hHeld => ?_)
      · exact ⟨c1, c2, c3⟩
      clear hK K
      (try simp only [Act.put, List.setIfInBounds_toArray, List.set_cons_zero, List.set_cons_succ, List.getElem_toArray, List.getElem_cons_succ, List.getElem_cons_zero])
      refine wpAnyH_done (by kernel_rfl) ?_ _
      have VA2 := V
      have VB2 := VB1.only (w' := w4) (by first | exact ho | exact ⟨ho.os, ho.tape, ho.output, ho.size, ho.block⟩) d4 d5 d6
      have q1 := X1b.out _ HB2
      have q2 := X2b.out _ HB2
      have q3 := X3b.out _ HB2
      have lB : B < w4.heap.size := Nat.lt_of_lt_of_le hB HB2.size
      clear ho V c1 c2 c3 VA1 VB1 HB1
      go_wp2_with fail
      refine wp_region_held_drew (S := (fun w' => w'.cell? ⟨B, O + m * 4 + 1, none⟩ = some (.int .i64 nb) ∧ w'.cell? ⟨B, O + m * 4 + 2, none⟩ = some (.int .i64 xb) ∧ w'.cell? ⟨B, O + m * 4 + 3, none⟩ = some (.int .i64 yb))) (by kernel_rfl) ?_ (fun hHeld => ?_)
      · exact ⟨q1, q2, q3⟩
      refine wpAnyH_take (i := 0) (v := ?_) rfl (by kernel_rfl) (by kernel_rfl) (by kernel_rfl) (fun _ _ _ h => h) (Or.inl ⟨by rfl, ?_⟩) (by assumption) ?_
      rotate_left
      · intro w' hSw; (try dsimp only at hSw); go_simp; (try with_reducible rfl)
      (try simp only [Act.put, List.setIfInBounds_toArray, List.set_cons_zero, List.set_cons_succ, List.getElem_toArray, List.getElem_cons_succ, List.getElem_cons_zero])
      refine wpAnyH_take (i := 1) (v := ?_) rfl (by kernel_rfl) (by kernel_rfl) (by kernel_rfl) (fun _ _ _ h => h) (Or.inl ⟨by rfl, ?_⟩) (by assumption) ?_
      rotate_left
      · intro w' hSw; (try dsimp only at hSw); go_simp; (try with_reducible rfl)
      (try simp only [Act.put, List.setIfInBounds_toArray, List.set_cons_zero, List.set_cons_succ, List.getElem_toArray, List.getElem_cons_succ, List.getElem_cons_zero])
      refine wpAnyH_take (i := 2) (v := ?_) rfl (by kernel_rfl) (by kernel_rfl) (by kernel_rfl) (fun _ _ _ h => h) (Or.inl ⟨by rfl, ?_⟩) (by assumption) ?_
      rotate_left
      · intro w' hSw; (try dsimp only at hSw); go_simp; (try with_reducible rfl)
      (try simp only [Act.put, List.setIfInBounds_toArray, List.set_cons_zero, List.set_cons_succ, List.getElem_toArray, List.getElem_cons_succ, List.getElem_cons_zero])
      refine wpAnyH_take (i := 3) (v := ?_) rfl (by kernel_rfl) (by kernel_rfl) (by kernel_rfl) (fun _ _ _ h => h) (Or.inl ⟨by rfl, ?_⟩) (by assumption) ?_
      rotate_left
      · intro w' hSw; (try dsimp only at hSw); go_simp; (try with_reducible rfl)
      (try simp only [Act.put, List.setIfInBounds_toArray, List.set_cons_zero, List.set_cons_succ, List.getElem_toArray, List.getElem_cons_succ, List.getElem_cons_zero])
      refine wpAnyH_take (i := 4) (v := ?_) rfl (by kernel_rfl) (by kernel_rfl) (by kernel_rfl) (fun _ _ _ h => h) (Or.inl ⟨by rfl, ?_⟩) (by assumption) ?_
      rotate_left
      · intro w' hSw; (try dsimp only at hSw); go_simp; (try with_reducible rfl)
      (try simp only [Act.put, List.setIfInBounds_toArray, List.set_cons_zero, List.set_cons_succ, List.getElem_toArray, List.getElem_cons_succ, List.getElem_cons_zero])
      refine wpAnyH_take (i := 5) (v := ?_) rfl (by kernel_rfl) (by kernel_rfl) (by kernel_rfl) (fun _ _ _ h => h) (Or.inl ⟨by rfl, ?_⟩) (by assumption) ?_
      rotate_left
      · intro w' hSw; (try dsimp only at hSw); go_simp; (try with_reducible rfl)
      (try simp only [Act.put, List.setIfInBounds_toArray, List.set_cons_zero, List.set_cons_succ, List.getElem_toArray, List.getElem_cons_succ, List.getElem_cons_zero])
      refine wpAnyH_take (i := 6) (v := ?_) rfl (by kernel_rfl) (by kernel_rfl) (by kernel_rfl) (fun _ _ _ h => h) (Or.inl ⟨by rfl, ?_⟩) (by assumption) ?_
      rotate_left
      · intro w' hSw; (try dsimp only at hSw); go_simp; (try with_reducible rfl)
      (try simp only [Act.put, List.setIfInBounds_toArray, List.set_cons_zero, List.set_cons_succ, List.getElem_toArray, List.getElem_cons_succ, List.getElem_cons_zero])
      refine wpAnyH_take (i := 7) (v := ?_) rfl (by kernel_rfl) (by kernel_rfl) (by kernel_rfl) (fun _ _ _ h => h) (Or.inl ⟨by rfl, ?_⟩) (by assumption) ?_
      rotate_left
      · intro w' hSw; (try dsimp only at hSw); go_simp; (try with_reducible rfl)
      (try simp only [Act.put, List.setIfInBounds_toArray, List.set_cons_zero, List.set_cons_succ, List.getElem_toArray, List.getElem_cons_succ, List.getElem_cons_zero])
      refine wpAnyH_take (i := 8) (v := ?_) rfl (by kernel_rfl) (by kernel_rfl) (by kernel_rfl) (fun _ _ _ h => h) (Or.inl ⟨by rfl, ?_⟩) (by assumption) ?_
      rotate_left
      · intro w' hSw; (try dsimp only at hSw); go_simp; (try with_reducible rfl)
      (try simp only [Act.put, List.setIfInBounds_toArray, List.set_cons_zero, List.set_cons_succ, List.getElem_toArray, List.getElem_cons_succ, List.getElem_cons_zero])
      refine wpAnyH_take (i := 9) (v := ?_) rfl (by kernel_rfl) (by kernel_rfl) (by kernel_rfl) (fun _ _ _ h => h) (Or.inl ⟨by rfl, ?_⟩) (by assumption) ?_
      rotate_left
      · intro w' hSw; (try dsimp only at hSw); go_simp; (try with_reducible rfl)
      (try simp only [Act.put, List.setIfInBounds_toArray, List.set_cons_zero, List.set_cons_succ, List.getElem_toArray, List.getElem_cons_succ, List.getElem_cons_zero])
      refine wpAnyH_take (i := 10) (v := ?_) rfl (by kernel_rfl) (by kernel_rfl) (by kernel_rfl) (fun _ _ _ h => h) (Or.inl ⟨by rfl, ?_⟩) (by assumption) ?_
      rotate_left
      · intro w' hSw; (try dsimp only at hSw); go_simp; (try with_reducible rfl)
      (try simp only [Act.put, List.setIfInBounds_toArray, List.set_cons_zero, List.set_cons_succ, List.getElem_toArray, List.getElem_cons_succ, List.getElem_cons_zero])
      refine wpAnyH_take (i := 11) (v := ?_) rfl (by kernel_rfl) (by kernel_rfl) (by kernel_rfl) (fun _ _ _ h => h) (Or.inl ⟨by rfl, ?_⟩) (by assumption) ?_
      rotate_left
      · intro w' hSw; (try dsimp only at hSw); go_simp; (try with_reducible rfl)
      (try simp only [Act.put, List.setIfInBounds_toArray, List.set_cons_zero, List.set_cons_succ, List.getElem_toArray, List.getElem_cons_succ, List.getElem_cons_zero])
      refine wpAnyH_take (i := 12) (v := ?_) rfl (by kernel_rfl) (by kernel_rfl) (by kernel_rfl) (fun _ _ _ h => h) (Or.inl ⟨by rfl, ?_⟩) (by assumption) ?_
      rotate_left
      · intro w' hSw; (try dsimp only at hSw); go_simp; (try with_reducible rfl)
      (try simp only [Act.put, List.setIfInBounds_toArray, List.set_cons_zero, List.set_cons_succ, List.getElem_toArray, List.getElem_cons_succ, List.getElem_cons_zero])
      refine wpAnyH_take (i := 13) (v := ?_) rfl (by kernel_rfl) (by kernel_rfl) (by kernel_rfl) (fun _ _ _ h => h) (Or.inl ⟨by rfl, ?_⟩) (by assumption) ?_
      rotate_left
      · intro w' hSw; (try dsimp only at hSw); go_simp; (try with_reducible rfl)
      (try simp only [Act.put, List.setIfInBounds_toArray, List.set_cons_zero, List.set_cons_succ, List.getElem_toArray, List.getElem_cons_succ, List.getElem_cons_zero])
      refine wpAnyH_take (i := 14) (v := ?_) rfl (by kernel_rfl) (by kernel_rfl) (by kernel_rfl) (fun _ _ _ h => h) (Or.inl ⟨by rfl, ?_⟩) (by assumption) ?_
      rotate_left
      · intro w' hSw; (try dsimp only at hSw); go_simp; (try with_reducible rfl)
      (try simp only [Act.put, List.setIfInBounds_toArray, List.set_cons_zero, List.set_cons_succ, List.getElem_toArray, List.getElem_cons_succ, List.getElem_cons_zero])
      refine wpAnyH_take (i := 15) (v := ?_) rfl (by kernel_rfl) (by kernel_rfl) (by kernel_rfl) (fun _ _ _ h => h) (Or.inl ⟨by rfl, ?_⟩) (by assumption) ?_
      rotate_left
      · intro w' hSw; (try dsimp only at hSw); go_simp; (try with_reducible rfl)
      (try simp only [Act.put, List.setIfInBounds_toArray, List.set_cons_zero, List.set_cons_succ, List.getElem_toArray, List.getElem_cons_succ, List.getElem_cons_zero])
      refine wpAnyH_take (i := 16) (v := ?_) rfl (by kernel_rfl) (by kernel_rfl) (by kernel_rfl) (fun _ _ _ h => h) (Or.inl ⟨by rfl, ?_⟩) (by assumption) ?_
      rotate_left
      · intro w' hSw; (try dsimp only at hSw); go_simp; (try with_reducible rfl)
      (try simp only [Act.put, List.setIfInBounds_toArray, List.set_cons_zero, List.set_cons_succ, List.getElem_toArray, List.getElem_cons_succ, List.getElem_cons_zero])
      refine wpAnyH_take (i := 17) (v := ?_) rfl (by kernel_rfl) (by kernel_rfl) (by kernel_rfl) (fun _ _ _ h => h) (Or.inl ⟨by rfl, ?_⟩) (by assumption) ?_
      rotate_left
      · intro w' hSw; (try dsimp only at hSw); go_simp; (try with_reducible rfl)
      (try simp only [Act.put, List.setIfInBounds_toArray, List.set_cons_zero, List.set_cons_succ, List.getElem_toArray, List.getElem_cons_succ, List.getElem_cons_zero])
      refine wpAnyH_take (i := 18) (v := ?_) rfl (by kernel_rfl) (by kernel_rfl) (by kernel_rfl) (fun _ _ _ h => h) (Or.inl ⟨by rfl, ?_⟩) (by assumption) ?_
      rotate_left
      · intro w' hSw; (try dsimp only at hSw); go_simp; (try with_reducible rfl)
      (try simp only [Act.put, List.setIfInBounds_toArray, List.set_cons_zero, List.set_cons_succ, List.getElem_toArray, List.getElem_cons_succ, List.getElem_cons_zero])
      refine wpAnyH_ready (rs := [19]) (by kernel_rfl) (by simp) ?_
      refine AllReadyH.cons rfl (fun K hK => ?_) AllReadyH.nil
      go_simp
      (go_at_call 11; refine (vec_reach bb kb fb n nb P' Q' P' Q' xb yb _ (by first | exact VB2 | exact VB2.drew | exact VB2.drew.drew) (by omega)).mono ?_; rintro e w5 ⟨rfl, ho, V⟩; have HB3 : Below w.heap.size w w5 := Below.trans (show Below w.heap.size w _ from (by (repeat' (first | (with_reducible exact Below.refl _ _) | (with_reducible assumption) | (with_reducible refine Below.trans ?_ (Below.mono (by with_reducible assumption) ?_)) | (with_reducible refine Below.alloc ?_ ?_ _) | (with_reducible refine Below.setCell ?_ ?_ _) | (with_reducible refine below_drewN ?_ _) | (with_reducible refine Below.drew ?_) | go_size)))) (ho.below b1' HB2.size); have c1 := X1b.out _ HB3; have c2 := X2b.out _ HB3; have c3 := X3b.out _ HB3)
      (try dsimp only)
      refine hK.out _ _ ?_ (fun hHeld => ?_)
      · exact ⟨c1, c2, c3⟩
      clear hK K
      (try simp only [Act.put, List.setIfInBounds_toArray, List.set_cons_zero, List.set_cons_succ, List.getElem_toArray, List.getElem_cons_succ, List.getElem_cons_zero])
      refine wpAnyH_done (by kernel_rfl) ?_ _
      have VB3 := V
      have VA3 := VA2.only (w' := w5) (by first | exact ho | exact ⟨ho.os, ho.tape, ho.output, ho.size, ho.block⟩) d7 d8 d9
      have q1 := c1
      have q2 := c2
      have q3 := c3
      have lB : B < w5.heap.size := Nat.lt_of_lt_of_le hB HB3.size
      clear ho V c1 c2 c3 VA2 VB2 HB2
      go_wp2_with fail
      refine wp_region_held_drew (S := (fun w' => w'.cell? ⟨B, O + m * 4 + 1, none⟩ = some (.int .i64 nb) ∧ w'.cell? ⟨B, O + m * 4 + 2, none⟩ = some (.int .i64 xb) ∧ w'.cell? ⟨B, O + m * 4 + 3, none⟩ = some (.int .i64 yb))) (by kernel_rfl) ?_ (fun hHeld => ?_)
      · exact ⟨q1, q2, q3⟩
      refine wpAnyH_take (i := 0) (v := ?_) rfl (by kernel_rfl) (by kernel_rfl) (by kernel_rfl) (fun _ _ _ h => h) (Or.inl ⟨by rfl, ?_⟩) (by assumption) ?_
      rotate_left
      · intro w' hSw; (try dsimp only at hSw); go_simp; (try with_reducible rfl)
      (try simp only [Act.put, List.setIfInBounds_toArray, List.set_cons_zero, List.set_cons_succ, List.getElem_toArray, List.getElem_cons_succ, List.getElem_cons_zero])
      refine wpAnyH_take (i := 1) (v := ?_) rfl (by kernel_rfl) (by kernel_rfl) (by kernel_rfl) (fun _ _ _ h => h) (Or.inl ⟨by rfl, ?_⟩) (by assumption) ?_
      rotate_left
      · intro w' hSw; (try dsimp only at hSw); go_simp; (try with_reducible rfl)
      (try simp only [Act.put, List.setIfInBounds_toArray, List.set_cons_zero, List.set_cons_succ, List.getElem_toArray, List.getElem_cons_succ, List.getElem_cons_zero])
      refine wpAnyH_take (i := 2) (v := ?_) rfl (by kernel_rfl) (by kernel_rfl) (by kernel_rfl) (fun _ _ _ h => h) (Or.inl ⟨by rfl, ?_⟩) (by assumption) ?_
      rotate_left
      · intro w' hSw; (try dsimp only at hSw); go_simp; (try with_reducible rfl)
      (try simp only [Act.put, List.setIfInBounds_toArray, List.set_cons_zero, List.set_cons_succ, List.getElem_toArray, List.getElem_cons_succ, List.getElem_cons_zero])
      refine wpAnyH_take (i := 3) (v := ?_) rfl (by kernel_rfl) (by kernel_rfl) (by kernel_rfl) (fun _ _ _ h => h) (Or.inl ⟨by rfl, ?_⟩) (by assumption) ?_
      rotate_left
      · intro w' hSw; (try dsimp only at hSw); go_simp; (try with_reducible rfl)
      (try simp only [Act.put, List.setIfInBounds_toArray, List.set_cons_zero, List.set_cons_succ, List.getElem_toArray, List.getElem_cons_succ, List.getElem_cons_zero])
      refine wpAnyH_take (i := 4) (v := ?_) rfl (by kernel_rfl) (by kernel_rfl) (by kernel_rfl) (fun _ _ _ h => h) (Or.inl ⟨by rfl, ?_⟩) (by assumption) ?_
      rotate_left
      · intro w' hSw; (try dsimp only at hSw); go_simp; (try with_reducible rfl)
      (try simp only [Act.put, List.setIfInBounds_toArray, List.set_cons_zero, List.set_cons_succ, List.getElem_toArray, List.getElem_cons_succ, List.getElem_cons_zero])
      refine wpAnyH_take (i := 5) (v := ?_) rfl (by kernel_rfl) (by kernel_rfl) (by kernel_rfl) (fun _ _ _ h => h) (Or.inl ⟨by rfl, ?_⟩) (by assumption) ?_
      rotate_left
      · intro w' hSw; (try dsimp only at hSw); go_simp; (try with_reducible rfl)
      (try simp only [Act.put, List.setIfInBounds_toArray, List.set_cons_zero, List.set_cons_succ, List.getElem_toArray, List.getElem_cons_succ, List.getElem_cons_zero])
      refine wpAnyH_take (i := 6) (v := ?_) rfl (by kernel_rfl) (by kernel_rfl) (by kernel_rfl) (fun _ _ _ h => h) (Or.inl ⟨by rfl, ?_⟩) (by assumption) ?_
      rotate_left
      · intro w' hSw; (try dsimp only at hSw); go_simp; (try with_reducible rfl)
      (try simp only [Act.put, List.setIfInBounds_toArray, List.set_cons_zero, List.set_cons_succ, List.getElem_toArray, List.getElem_cons_succ, List.getElem_cons_zero])
      refine wpAnyH_take (i := 7) (v := ?_) rfl (by kernel_rfl) (by kernel_rfl) (by kernel_rfl) (fun _ _ _ h => h) (Or.inl ⟨by rfl, ?_⟩) (by assumption) ?_
      rotate_left
      · intro w' hSw; (try dsimp only at hSw); go_simp; (try with_reducible rfl)
      (try simp only [Act.put, List.setIfInBounds_toArray, List.set_cons_zero, List.set_cons_succ, List.getElem_toArray, List.getElem_cons_succ, List.getElem_cons_zero])
      refine wpAnyH_take (i := 8) (v := ?_) rfl (by kernel_rfl) (by kernel_rfl) (by kernel_rfl) (fun _ _ _ h => h) (Or.inl ⟨by rfl, ?_⟩) (by assumption) ?_
      rotate_left
      · intro w' hSw; (try dsimp only at hSw); go_simp; (try with_reducible rfl)
      (try simp only [Act.put, List.setIfInBounds_toArray, List.set_cons_zero, List.set_cons_succ, List.getElem_toArray, List.getElem_cons_succ, List.getElem_cons_zero])
      refine wpAnyH_take (i := 9) (v := ?_) rfl (by kernel_rfl) (by kernel_rfl) (by kernel_rfl) (fun _ _ _ h => h) (Or.inl ⟨by rfl, ?_⟩) (by assumption) ?_
      rotate_left
      · intro w' hSw; (try dsimp only at hSw); go_simp; (try with_reducible rfl)
      (try simp only [Act.put, List.setIfInBounds_toArray, List.set_cons_zero, List.set_cons_succ, List.getElem_toArray, List.getElem_cons_succ, List.getElem_cons_zero])
      refine wpAnyH_take (i := 10) (v := ?_) rfl (by kernel_rfl) (by kernel_rfl) (by kernel_rfl) (fun _ _ _ h => h) (Or.inl ⟨by rfl, ?_⟩) (by assumption) ?_
      rotate_left
      · intro w' hSw; (try dsimp only at hSw); go_simp; (try with_reducible rfl)
      (try simp only [Act.put, List.setIfInBounds_toArray, List.set_cons_zero, List.set_cons_succ, List.getElem_toArray, List.getElem_cons_succ, List.getElem_cons_zero])
      refine wpAnyH_take (i := 11) (v := ?_) rfl (by kernel_rfl) (by kernel_rfl) (by kernel_rfl) (fun _ _ _ h => h) (Or.inl ⟨by rfl, ?_⟩) (by assumption) ?_
      rotate_left
      · intro w' hSw; (try dsimp only at hSw); go_simp; (try with_reducible rfl)
      (try simp only [Act.put, List.setIfInBounds_toArray, List.set_cons_zero, List.set_cons_succ, List.getElem_toArray, List.getElem_cons_succ, List.getElem_cons_zero])
      refine wpAnyH_take (i := 12) (v := ?_) rfl (by kernel_rfl) (by kernel_rfl) (by kernel_rfl) (fun _ _ _ h => h) (Or.inl ⟨by rfl, ?_⟩) (by assumption) ?_
      rotate_left
      · intro w' hSw; (try dsimp only at hSw); go_simp; (try with_reducible rfl)
      (try simp only [Act.put, List.setIfInBounds_toArray, List.set_cons_zero, List.set_cons_succ, List.getElem_toArray, List.getElem_cons_succ, List.getElem_cons_zero])
      refine wpAnyH_take (i := 13) (v := ?_) rfl (by kernel_rfl) (by kernel_rfl) (by kernel_rfl) (fun _ _ _ h => h) (Or.inl ⟨by rfl, ?_⟩) (by assumption) ?_
      rotate_left
      · intro w' hSw; (try dsimp only at hSw); go_simp; (try with_reducible rfl)
      (try simp only [Act.put, List.setIfInBounds_toArray, List.set_cons_zero, List.set_cons_succ, List.getElem_toArray, List.getElem_cons_succ, List.getElem_cons_zero])
      refine wpAnyH_take (i := 14) (v := ?_) rfl (by kernel_rfl) (by kernel_rfl) (by kernel_rfl) (fun _ _ _ h => h) (Or.inl ⟨by rfl, ?_⟩) (by assumption) ?_
      rotate_left
      · intro w' hSw; (try dsimp only at hSw); go_simp; (try with_reducible rfl)
      (try simp only [Act.put, List.setIfInBounds_toArray, List.set_cons_zero, List.set_cons_succ, List.getElem_toArray, List.getElem_cons_succ, List.getElem_cons_zero])
      refine wpAnyH_take (i := 15) (v := ?_) rfl (by kernel_rfl) (by kernel_rfl) (by kernel_rfl) (fun _ _ _ h => h) (Or.inl ⟨by rfl, ?_⟩) (by assumption) ?_
      rotate_left
      · intro w' hSw; (try dsimp only at hSw); go_simp; (try with_reducible rfl)
      (try simp only [Act.put, List.setIfInBounds_toArray, List.set_cons_zero, List.set_cons_succ, List.getElem_toArray, List.getElem_cons_succ, List.getElem_cons_zero])
      refine wpAnyH_take (i := 16) (v := ?_) rfl (by kernel_rfl) (by kernel_rfl) (by kernel_rfl) (fun _ _ _ h => h) (Or.inl ⟨by rfl, ?_⟩) (by assumption) ?_
      rotate_left
      · intro w' hSw; (try dsimp only at hSw); go_simp; (try with_reducible rfl)
      (try simp only [Act.put, List.setIfInBounds_toArray, List.set_cons_zero, List.set_cons_succ, List.getElem_toArray, List.getElem_cons_succ, List.getElem_cons_zero])
      refine wpAnyH_take (i := 17) (v := ?_) rfl (by kernel_rfl) (by kernel_rfl) (by kernel_rfl) (fun _ _ _ h => h) (Or.inl ⟨by rfl, ?_⟩) (by assumption) ?_
      rotate_left
      · intro w' hSw; (try dsimp only at hSw); go_simp; (try with_reducible rfl)
      (try simp only [Act.put, List.setIfInBounds_toArray, List.set_cons_zero, List.set_cons_succ, List.getElem_toArray, List.getElem_cons_succ, List.getElem_cons_zero])
      refine wpAnyH_take (i := 18) (v := ?_) rfl (by kernel_rfl) (by kernel_rfl) (by kernel_rfl) (fun _ _ _ h => h) (Or.inl ⟨by rfl, ?_⟩) (by assumption) ?_
      rotate_left
      · intro w' hSw; (try dsimp only at hSw); go_simp; (try with_reducible rfl)
      (try simp only [Act.put, List.setIfInBounds_toArray, List.set_cons_zero, List.set_cons_succ, List.getElem_toArray, List.getElem_cons_succ, List.getElem_cons_zero])
      refine wpAnyH_ready (rs := [19]) (by kernel_rfl) (by simp) ?_
      refine AllReadyH.cons rfl (fun K hK => ?_) AllReadyH.nil
      go_simp
      (go_at_call 13; refine (vec_floor bb kb fb n nb _ _ P' Q' xb yb _ (by first | exact VB3 | exact VB3.drew | exact VB3.drew.drew) (by omega)).mono ?_; rintro e w6 ⟨rfl, ho, V⟩; have HB4 : Below w.heap.size w w6 := Below.trans (show Below w.heap.size w _ from (by (repeat' (first | (with_reducible exact Below.refl _ _) | (with_reducible assumption) | (with_reducible refine Below.trans ?_ (Below.mono (by with_reducible assumption) ?_)) | (with_reducible refine Below.alloc ?_ ?_ _) | (with_reducible refine Below.setCell ?_ ?_ _) | (with_reducible refine below_drewN ?_ _) | (with_reducible refine Below.drew ?_) | go_size)))) (ho.below b2' HB3.size); have c1 := X1b.out _ HB4; have c2 := X2b.out _ HB4; have c3 := X3b.out _ HB4)
      (try dsimp only)
      refine hK.out _ _ ?_ (fun hHeld => ?_)
      · exact ⟨c1, c2, c3⟩
      clear hK K
      (try simp only [Act.put, List.setIfInBounds_toArray, List.set_cons_zero, List.set_cons_succ, List.getElem_toArray, List.getElem_cons_succ, List.getElem_cons_zero])
      refine wpAnyH_done (by kernel_rfl) ?_ _
      have VB4 := V
      have VA4 := VA3.only (w' := w6) (by first | exact ho | exact ⟨ho.os, ho.tape, ho.output, ho.size, ho.block⟩) d10 d11 d12
      clear ho V c1 c2 c3 VA3 VB3 HB3 q1 q2 q3
      go_wp2
      go_roundw
      case rel => exact ⟨k + 1, by omega, by go_num, by rw [SA.out.1, SA.out.2]; exact VA4, by rw [SB.out.1, SB.out.2]; exact VB4, HB4⟩
      case measure => simp [intOf]; omega
    · obtain rfl : k = L := by omega
      rw [HREV.out] at VB
      generalize (fw n N X Y k).1 = P at *
      generalize (fw n N X Y k).2 = Q at *
      have HST := Lib.hid fun (b ka fl : Nat) (W : World) (V : VecAt W b ka fl n P Q P Q) => vec_stable b ka fl n P Q P Q W V (by omega)
      have HMK := Lib.hid fun (b ka fl : Nat) (W : World) (V : VecAt W b ka fl n P Q P Q) => vec_mark b ka fl n P Q P Q W V (by omega)
      have HKN := Lib.hid fun (i : Int) (b ka fl : Nat) (W : World) (V : VecAt W b ka fl n P Q P Q) => vec_known b ka fl n i P Q P Q W V (by omega)
      generalize mnS P Q n = mm at *
      obtain ⟨m1, m2⟩ := mm
      have VAS := Lib.hid VA
      have VBS := Lib.hid VB
      have HBS := Lib.hid HB
      clear VA VB HB HREV HZ
      go_wp2
      go_loopw [10] (fun i wr => ∃ j : Nat, j ≤ n ∧ i = .int .i64 j ∧ VecAt wr ba ka fa n P Q P Q ∧ VecAt wr bb kb fb n P Q P Q ∧ Below w.heap.size w wr) (fun i _ => n - (intOf i).toNat)
      case atStart => exact ⟨0, Nat.zero_le _, rfl, VAS.out, VBS.out, HBS.out⟩
      case round =>
        obtain ⟨j, hj, rfl, VA, VB, HB⟩ := hrel
        clear VAS VBS HBS
        by_cases hjt : j < n
        · have lj : (j : Int) < (n : Int) := by omega
          have lj' : (j : Int) < i := by rw [HI.out]; exact lj
          have HK := Lib.hid (HKN.out j)
          generalize kno n j P = g0 at *
          generalize kno n j Q = g1 at *
          have HV := Lib.hid (And.intro VA VB)
          clear VA VB
          go_wp2_with fail
          refine (HK.out _ _ _ _ HV.out.1).mono ?_; rintro e w5 ⟨rfl, hb5⟩
          have VA5 := HV.out.1.belowW hb5
          have VB5 := HV.out.2.belowW hb5
          have HB5 := HB.trans (hb5.mono HB.size)
          clear hb5
          go_wp2_with fail
          refine (HK.out _ _ _ _ VB5).mono ?_; rintro e w6 ⟨rfl, hb6⟩
          have VA6 := VA5.belowW hb6
          have VB6 := VB5.belowW hb6
          have HB6 := HB5.trans (hb6.mono HB5.size)
          clear hb6 VA5 VB5
          go_wp2
          go_roundw
          case rel => exact ⟨j + 1, by omega, by go_num, VA6, VB6, HB6⟩
          case measure => simp [intOf]; omega
        · obtain rfl : j = n := by omega
          have lj' : i ≤ (j : Int) := by rw [HI.out]; exact Int.le_refl _
          go_wp2_with fail
          refine (HST.out _ _ _ _ VA).mono ?_; rintro e w5 ⟨rfl, hb5⟩
          have VA := VA.belowW hb5
          have VB := VB.belowW hb5
          have HB := HB.trans (hb5.mono HB.size)
          clear hb5
          go_wp2_with fail
          refine (HST.out _ _ _ _ VB).mono ?_; rintro e w6 ⟨rfl, hb6⟩
          have VA := VA.belowW hb6
          have VB := VB.belowW hb6
          have HB := HB.trans (hb6.mono HB.size)
          clear hb6
          go_wp2_with fail
          refine (HMK.out _ _ _ _ VA).mono ?_; rintro e w7 ⟨rfl, hb7⟩
          have VA := VA.belowW hb7
          have VB := VB.belowW hb7
          have HB := HB.trans (hb7.mono HB.size)
          clear hb7
          go_wp2_with fail
          refine (HMK.out _ _ _ _ VB).mono ?_; rintro e w8 ⟨rfl, hb8⟩
          have VA := VA.belowW hb8
          have HB := HB.trans (hb8.mono HB.size)
          clear hb8
          go_wp2_with fail
          refine (HST.out _ _ _ _ VA).mono ?_; rintro e w9 ⟨rfl, hb9⟩
          have VA := VA.belowW hb9
          have HB := HB.trans (hb9.mono HB.size)
          clear hb9
          go_wp2_with fail
          refine (HMK.out _ _ _ _ VA).mono ?_; rintro e w10 ⟨rfl, hb10⟩
          have HB := HB.trans (hb10.mono HB.size)
          have z3 := HB.size
          clear hb10
          go_wp2_with (go_at_call 10; refine (known20 _).mono ?_; rintro e w11 ⟨rfl, hb11⟩; obtain ⟨hc11, hf11⟩ := bcell hb11; have hz11 := hb11.size; (try simp only [World.size_alloc, World.size_setCell, World.heap_drewN] at hb11 hc11 hf11 hz11); (try have ha011 : w.heap.size < w11.heap.size := by omega); (try have ha111 : w.heap.size + 1 < w11.heap.size := by omega); (try have ha211 : w.heap.size + 2 < w11.heap.size := by omega); (try have hal11 : w.heap.size ≤ w11.heap.size := by omega); (try have ham11 : w.heap.size < w11.heap.size + 2 := by omega))
          go_ret
          go_light
          exact ⟨rfl, by (repeat' (first | (with_reducible exact Below.refl _ _) | (with_reducible assumption) | (with_reducible refine Below.trans ?_ (Below.mono (by with_reducible assumption) ?_)) | (with_reducible refine Below.alloc ?_ ?_ _) | (with_reducible refine Below.setCell ?_ ?_ _) | (with_reducible refine below_drewN ?_ _) | (with_reducible refine Below.drew ?_) | go_size))⟩
set_option maxRecDepth 100000 in
theorem vecTurns_lifted (os : Os) (started : os.Started) (H : Type) (enc : TypeId × Value → H) :
    ReturnsInHanded {} Try.checked os 7 .any (Rows.vecTurnsSpec.pre6 enc Try.prog Try.f7 Rows.vecTurnsRow.domain false) (Rows.vecTurnsSpec.post enc Try.prog Try.f7 false true false false) := by
  refine returnsInHanded_of_change_sized (C := Try.checked) law_own started (by kernel_rfl) Try.func7
    (ChangeSpec.witness6 (enc := enc) (C := Try.checked) false ⟨#[], #[.int .i64 0, .slice none 0 0], []⟩ 8 (by kernel_rfl) (by kernel_rfl) (by kernel_rfl) (by kernel_rfl)) ?_
  intro W base args ds gs before hval0 hW hcnd hsz0 _
  have hval : ∀ (j : Nat) t v, Try.f7.params[j]? = some t → args[j]? = some v → Value.okWide Try.prog W .any base t v := hval0
  have hsz : (DataW.weightsEach Try.prog (Try.f7.params.toList ++ Rows.vecTurnsSpec.plain.varTypes Try.prog) (ds ++ gs)).all (· ≤ reachBytes) = true := hsz0
  have hW' := hW
  obtain ⟨p, q, hA0, hV, rfl, hfz, hnd⟩ := hW
  have hA : DataW.TrodAll enc Try.prog W 0 (fun _ => true) true Try.f7.params.toList args.toList ds p := hA0
  rw [Try.params7] at hA hval hsz
  have hsame : (Rows.vecTurnsSpec.fn H (ds ++ gs)).results = [.lit (.bool true)] ∧ (Rows.vecTurnsSpec.fn H (ds ++ gs)).args = ds ∧ (Rows.vecTurnsSpec.fn H (ds ++ gs)).vars = [] → ∀ W', Below W.heap.size W W' → Rows.vecTurnsSpec.post enc Try.prog Try.f7 false true false false W args (.bool true) W' :=
    fun h W' hb => law_post (tb := 4) hW' law_laid (by kernel_rfl) rfl Try.underlying4 h.1 h.2.1 rfl h.2.2 hb
  obtain ⟨v0, vs0, d0, ds0, p0, q0, hargs, rfl, rfl, h0, r0⟩ := trodAll_cons hA
  obtain ⟨v1, vs1, d1, ds1, p1, q1, rfl, rfl, rfl, h1, r1⟩ := trodAll_cons r0
  obtain ⟨rfl, rfl, rfl⟩ := trodAll_nil r1
  obtain rfl : args = #[v0, v1] := by cases args; simp_all
  obtain ⟨rfl, rfl⟩ := trodVars_none hV
  have hpost := hsame ⟨rfl, rfl, rfl⟩
  clear hsame hA0 hval0 hsz0
  obtain ⟨a0, rfl, rfl, rfl, wf0⟩ := open_int Try.underlying3 (hval 0 3 v0 rfl rfl) h0
  obtain ⟨A, L, c, z, rfl, hn, hz⟩ := open_flat_slice (m := 4) Try.underlying22 (by kernel_rfl) (by kernel_rfl) (by omega) (hval 1 22 v1 rfl rfl) h1
  by_cases h : 1 ≤ a0 ∧ a0 ≤ 5 ∧ L ≤ 200
  · obtain ⟨n, rfl⟩ := Int.eq_ofNat_of_zero_le (show 0 ≤ a0 from by omega)
    exact (vecTurns_in n _ rfl A L c z W hz (by omega) (by omega) h.2.2).mono fun e W' ⟨he, hb⟩ => ⟨_, he, hpost W' hb⟩
  · exact (vecTurns_out a0 A L c W (by omega) hn).mono fun e W' ⟨he, hb⟩ => ⟨_, he, hpost W' hb⟩
theorem vecTurns_holds : Rows.VecTurnsSaid :=
  OpenClaim.holds_of_wide 7 Try.f7 rfl rfl rfl rfl rfl rfl rfl ⟨rfl, rfl, rfl, rfl, rfl⟩ rfl rfl rfl rfl rfl (by kernel_rfl) Try.func7 (by kernel_rfl)
    (of_decide_eq_true (by kernel_rfl)) (by unfold Func.isWrapper; first | (rw [if_pos (by decide +kernel)]; kernel_rfl) | (rw [if_neg (by decide +kernel)]; exact ⟨rfl, rfl⟩))
    (fun os started H enc _ => vecTurns_lifted os started H enc)
end Go.Proofs.Ytpelglclkfabkaa
