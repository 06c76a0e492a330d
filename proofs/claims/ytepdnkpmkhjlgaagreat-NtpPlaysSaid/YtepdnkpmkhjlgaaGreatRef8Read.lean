/- The reference's clock: Read, Turn. -/
import Derived.Test.YtepdnkpmkhjlgaaGreatRef8
set_option linter.unusedSimpArgs false
set_option linter.unusedVariables false
namespace Go.Proofs.YtepdnkpmkhjlgaaGreat
open Go.RowKit

theorem newc0 (v : World) (b : Nat) (x y : Value) (t : TypeId) (h : v.heap.size = b) : (v.alloc (.cells #[x, y] t)).cell? ⟨b, 0, none⟩ = some x := by subst h; simp
theorem newc1 (v : World) (b : Nat) (x y : Value) (t : TypeId) (h : v.heap.size = b) : (v.alloc (.cells #[x, y] t)).cell? ⟨b, 1, none⟩ = some y := by subst h; simp
set_option maxHeartbeats 4000000 in
theorem ref8_read_on (b : Nat) (c t l n : Int) (w : World) (k : Ints3 w b c t l) (h : c < n) (h0 : 0 ≤ c) (h1 : n ≤ 9223372036854775807) (tb : 0 ≤ t ∧ t ≤ 9223372036854775807) (lb : -4611686018427387904 ≤ l ∧ l ≤ 4611686018427387904) :
    Calls Tryz.prog 33 #[.pointer (some ⟨b, 0, none⟩), .int .i64 n] w fun e w' => e = .returned (.int .i64 (shown t l (n - c))) ∧ Only b w w' ∧ Ints3 w' b n (shown t l (n - c)) (l - turnOf l (n - c)) := by
  have k' := k
  have KI := k
  obtain ⟨c0, c1, c2, f0, f1, f2, lt⟩ := k'
  unfold shown
  have l1 : b < w.heap.size + 1 := by omega
  have l2 : b < w.heap.size + 1 + 1 := by omega
  have n0 : w.heap.size ≠ b := by omega
  have n1 : w.heap.size + 1 ≠ b := by omega
  have q0 : 0 ≤ (n - c) / 2000 := by omega
  rcases (show (0 ≤ l ∧ (n - c) / 2000 < l) ∨ (0 ≤ l ∧ l ≤ (n - c) / 2000) ∨ (l < 0 ∧ (n - c) / 2000 < -l) ∨ (l < 0 ∧ -l ≤ (n - c) / 2000) from by omega) with ⟨p1, p2⟩ | ⟨p1, p2⟩ | ⟨p1, p2⟩ | ⟨p1, p2⟩
  · have hT : turnOf l (n - c) = (n - c) / 2000 := by unfold turnOf; split <;> (try split) <;> omega
    rw [hT]
    have p3 : -l ≤ l := by omega
    have d0 : decide (l < 0) = false := by simpa using p1
    clear hT
    have A1 := addS_bd (n - c) ((n - c) / 2000)
    have A2 := addS_bd t (addS (n - c) ((n - c) / 2000))
    go_enter Tryz.func33, Tryz.ntmps33
    go_wp2
    go_quiet (fail)
    have KQ := k.drewN nq
    have OQ : Only b w (w.drewN nq) := (Only.refl _ _).drewN nq
    have ZQ : b < (w.drewN nq).heap.size := lt
    generalize w.drewN nq = w0 at *
    clear c0 c1 c2 f0 f1 f2 lt l1 l2 n0 n1 k KI
    have KI := KQ
    obtain ⟨c0, c1, c2, f0, f1, f2, lt⟩ := KQ
    have l1 : b < w0.heap.size + 1 := by omega
    have l2 : b < w0.heap.size + 1 + 1 := by omega
    have n0 : w0.heap.size ≠ b := by omega
    have n1 : w0.heap.size + 1 ≠ b := by omega
    go_wp2
    go_region_with (first | (go_at_call 37; ((with_reducible refine (ref4_add2 (n - c) ((n - c) / 2000) w0.heap.size _ ?_ ?_ ?_ ?_).mono ?_); (focus omega); (focus omega); (focus (simp [go_sem]; done)); (focus (simp [go_sem]; done)); rintro e w' ⟨rfl, rfl⟩)) | (go_at_call 37; ((with_reducible refine (ref4_add2 t (addS (n - c) ((n - c) / 2000)) (w0.heap.size + 1) _ ?_ ?_ ?_ ?_).mono ?_); (focus omega); (focus omega); (focus (simp [go_sem]; done)); (focus (simp [go_sem]; done)); rintro e w' ⟨rfl, rfl⟩)))
    all_goals
      go_wp2
      go_ret
      refine ⟨rfl, ?_, ?_⟩
      · go_light
        (repeat' (first | (with_reducible exact Only.refl _ _) | (with_reducible assumption) | (with_reducible refine Only.alloc ?_ _) | (with_reducible refine Only.setB ?_ _) | (refine Only.setCell ?_ (Or.inr ?_) _) | (with_reducible refine Only.drewN ?_ _) | (with_reducible refine Only.drew ?_) | (with_reducible refine Only.trans ?_ (by with_reducible assumption)) | (with_reducible refine Only.trans ?_ (Only.of_below (by with_reducible assumption))) | go_size))
      · go_light
        (repeat' (first | (with_reducible assumption) | (with_reducible apply Ints3.set0) | (with_reducible apply Ints3.set1) | (with_reducible apply Ints3.set2) | (with_reducible refine Ints3.other ?_ ?_ _) | (with_reducible refine Ints3.alloc ?_ _) | (with_reducible refine Ints3.drewN ?_ _) | (with_reducible refine Ints3.drew ?_) | (with_reducible exact Ints3.new _ _ _ _ _) | go_size))
  · have hT : turnOf l (n - c) = l := by unfold turnOf; split <;> (try split) <;> omega
    rw [hT, Int.sub_self]
    have p3 : -l ≤ l := by omega
    have d0 : decide (l < 0) = false := by simpa using p1
    clear hT
    have A1 := addS_bd (n - c) (l)
    have A2 := addS_bd t (addS (n - c) (l))
    go_enter Tryz.func33, Tryz.ntmps33
    go_wp2
    go_quiet (fail)
    have KQ := k.drewN nq
    have OQ : Only b w (w.drewN nq) := (Only.refl _ _).drewN nq
    have ZQ : b < (w.drewN nq).heap.size := lt
    generalize w.drewN nq = w0 at *
    clear c0 c1 c2 f0 f1 f2 lt l1 l2 n0 n1 k KI
    have KI := KQ
    obtain ⟨c0, c1, c2, f0, f1, f2, lt⟩ := KQ
    have l1 : b < w0.heap.size + 1 := by omega
    have l2 : b < w0.heap.size + 1 + 1 := by omega
    have n0 : w0.heap.size ≠ b := by omega
    have n1 : w0.heap.size + 1 ≠ b := by omega
    go_wp2
    go_region_with (first | (go_at_call 37; ((with_reducible refine (ref4_add2 (n - c) (l) w0.heap.size _ ?_ ?_ ?_ ?_).mono ?_); (focus omega); (focus omega); (focus (simp [go_sem]; done)); (focus (simp [go_sem]; done)); rintro e w' ⟨rfl, rfl⟩)) | (go_at_call 37; ((with_reducible refine (ref4_add2 t (addS (n - c) (l)) (w0.heap.size + 1) _ ?_ ?_ ?_ ?_).mono ?_); (focus omega); (focus omega); (focus (simp [go_sem]; done)); (focus (simp [go_sem]; done)); rintro e w' ⟨rfl, rfl⟩)))
    all_goals
      go_wp2
      go_ret
      refine ⟨rfl, ?_, ?_⟩
      · go_light
        (repeat' (first | (with_reducible exact Only.refl _ _) | (with_reducible assumption) | (with_reducible refine Only.alloc ?_ _) | (with_reducible refine Only.setB ?_ _) | (refine Only.setCell ?_ (Or.inr ?_) _) | (with_reducible refine Only.drewN ?_ _) | (with_reducible refine Only.drew ?_) | (with_reducible refine Only.trans ?_ (by with_reducible assumption)) | (with_reducible refine Only.trans ?_ (Only.of_below (by with_reducible assumption))) | go_size))
      · go_light
        (repeat' (first | (with_reducible assumption) | (with_reducible apply Ints3.set0) | (with_reducible apply Ints3.set1) | (with_reducible apply Ints3.set2) | (with_reducible refine Ints3.other ?_ ?_ _) | (with_reducible refine Ints3.alloc ?_ _) | (with_reducible refine Ints3.drewN ?_ _) | (with_reducible refine Ints3.drew ?_) | (with_reducible exact Ints3.new _ _ _ _ _) | go_size))
  · have hT : turnOf l (n - c) = -((n - c) / 2000) := by unfold turnOf; split <;> (try split) <;> omega
    rw [hT, Int.sub_neg]
    have p3 : l < -l := by omega
    have d0 : decide (l < 0) = true := by simpa using p1
    clear hT
    have A1 := addS_bd (n - c) (-((n - c) / 2000))
    have A2 := addS_bd t (addS (n - c) (-((n - c) / 2000)))
    go_enter Tryz.func33, Tryz.ntmps33
    go_wp2
    go_quiet (fail)
    have KQ := k.drewN nq
    have OQ : Only b w (w.drewN nq) := (Only.refl _ _).drewN nq
    have ZQ : b < (w.drewN nq).heap.size := lt
    generalize w.drewN nq = w0 at *
    clear c0 c1 c2 f0 f1 f2 lt l1 l2 n0 n1 k KI
    have KI := KQ
    obtain ⟨c0, c1, c2, f0, f1, f2, lt⟩ := KQ
    have l1 : b < w0.heap.size + 1 := by omega
    have l2 : b < w0.heap.size + 1 + 1 := by omega
    have n0 : w0.heap.size ≠ b := by omega
    have n1 : w0.heap.size + 1 ≠ b := by omega
    go_wp2
    go_region_with (first | (go_at_call 37; ((with_reducible refine (ref4_add2 (n - c) (-((n - c) / 2000)) w0.heap.size _ ?_ ?_ ?_ ?_).mono ?_); (focus omega); (focus omega); (focus (simp [go_sem]; done)); (focus (simp [go_sem]; done)); rintro e w' ⟨rfl, rfl⟩)) | (go_at_call 37; ((with_reducible refine (ref4_add2 t (addS (n - c) (-((n - c) / 2000))) (w0.heap.size + 1) _ ?_ ?_ ?_ ?_).mono ?_); (focus omega); (focus omega); (focus (simp [go_sem]; done)); (focus (simp [go_sem]; done)); rintro e w' ⟨rfl, rfl⟩)))
    all_goals
      go_wp2
      go_ret
      refine ⟨rfl, ?_, ?_⟩
      · go_light
        (repeat' (first | (with_reducible exact Only.refl _ _) | (with_reducible assumption) | (with_reducible refine Only.alloc ?_ _) | (with_reducible refine Only.setB ?_ _) | (refine Only.setCell ?_ (Or.inr ?_) _) | (with_reducible refine Only.drewN ?_ _) | (with_reducible refine Only.drew ?_) | (with_reducible refine Only.trans ?_ (by with_reducible assumption)) | (with_reducible refine Only.trans ?_ (Only.of_below (by with_reducible assumption))) | go_size))
      · go_light
        (repeat' (first | (with_reducible assumption) | (with_reducible apply Ints3.set0) | (with_reducible apply Ints3.set1) | (with_reducible apply Ints3.set2) | (with_reducible refine Ints3.other ?_ ?_ _) | (with_reducible refine Ints3.alloc ?_ _) | (with_reducible refine Ints3.drewN ?_ _) | (with_reducible refine Ints3.drew ?_) | (with_reducible exact Ints3.new _ _ _ _ _) | go_size))
  · have hT : turnOf l (n - c) = l := by unfold turnOf; split <;> (try split) <;> omega
    rw [hT, Int.sub_self]
    have p3 : l < -l := by omega
    have d0 : decide (l < 0) = true := by simpa using p1
    clear hT
    have A1 := addS_bd (n - c) (l)
    have A2 := addS_bd t (addS (n - c) (l))
    go_enter Tryz.func33, Tryz.ntmps33
    go_wp2
    go_quiet (fail)
    have KQ := k.drewN nq
    have OQ : Only b w (w.drewN nq) := (Only.refl _ _).drewN nq
    have ZQ : b < (w.drewN nq).heap.size := lt
    generalize w.drewN nq = w0 at *
    clear c0 c1 c2 f0 f1 f2 lt l1 l2 n0 n1 k KI
    have KI := KQ
    obtain ⟨c0, c1, c2, f0, f1, f2, lt⟩ := KQ
    have l1 : b < w0.heap.size + 1 := by omega
    have l2 : b < w0.heap.size + 1 + 1 := by omega
    have n0 : w0.heap.size ≠ b := by omega
    have n1 : w0.heap.size + 1 ≠ b := by omega
    go_wp2
    go_region_with (first | (go_at_call 37; ((with_reducible refine (ref4_add2 (n - c) (l) w0.heap.size _ ?_ ?_ ?_ ?_).mono ?_); (focus omega); (focus omega); (focus (simp [go_sem]; done)); (focus (simp [go_sem]; done)); rintro e w' ⟨rfl, rfl⟩)) | (go_at_call 37; ((with_reducible refine (ref4_add2 t (addS (n - c) (l)) (w0.heap.size + 1) _ ?_ ?_ ?_ ?_).mono ?_); (focus omega); (focus omega); (focus (simp [go_sem]; done)); (focus (simp [go_sem]; done)); rintro e w' ⟨rfl, rfl⟩)))
    all_goals
      go_wp2
      go_ret
      refine ⟨rfl, ?_, ?_⟩
      · go_light
        (repeat' (first | (with_reducible exact Only.refl _ _) | (with_reducible assumption) | (with_reducible refine Only.alloc ?_ _) | (with_reducible refine Only.setB ?_ _) | (refine Only.setCell ?_ (Or.inr ?_) _) | (with_reducible refine Only.drewN ?_ _) | (with_reducible refine Only.drew ?_) | (with_reducible refine Only.trans ?_ (by with_reducible assumption)) | (with_reducible refine Only.trans ?_ (Only.of_below (by with_reducible assumption))) | go_size))
      · go_light
        (repeat' (first | (with_reducible assumption) | (with_reducible apply Ints3.set0) | (with_reducible apply Ints3.set1) | (with_reducible apply Ints3.set2) | (with_reducible refine Ints3.other ?_ ?_ _) | (with_reducible refine Ints3.alloc ?_ _) | (with_reducible refine Ints3.drewN ?_ _) | (with_reducible refine Ints3.drew ?_) | (with_reducible exact Ints3.new _ _ _ _ _) | go_size))
end Go.Proofs.YtepdnkpmkhjlgaaGreat
