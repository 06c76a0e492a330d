/- The reference's TAI (written by gen/s4t.py). -/
import Derived.Test.YtepdnkpmkhjlgaaGreatTk9
import Derived.Test.YtepdnkpmkhjlgaaGreatM9E
import Derived.Test.YtepdnkpmkhjlgaaGreatM9E
set_option linter.unusedSimpArgs false
set_option linter.unusedVariables false
namespace Go.Proofs.YtepdnkpmkhjlgaaGreat
open Go.RowKit

theorem ref4_add3 (a b d : Int) (B : Nat) (w : World) (ha : -9223372036854775808 ≤ a ∧ a ≤ 9223372036854775807) (hb : -9223372036854775808 ≤ b ∧ b ≤ 9223372036854775807) (hd : -9223372036854775808 ≤ d ∧ d ≤ 9223372036854775807) (h0 : w.cell? ⟨B, 0, none⟩ = some (.int .i64 a)) (h1 : w.cell? ⟨B, 1, none⟩ = some (.int .i64 b)) (h2 : w.cell? ⟨B, 2, none⟩ = some (.int .i64 d)) :
    Calls Tryz.prog 37 #[.slice (some ⟨B, 0, none⟩) 3 3] w fun e w' => e = .returned (.int .i64 (addS (addS a b) d)) ∧ w = w' := by
  have h := ref4_add (fun j => if j = 0 then a else if j = 1 then b else d) (some ⟨B, 0, none⟩) 3 3 w (by omega) (fun _ => ⟨B, 0, rfl, by
    intro j hj
    rcases (show j = 0 ∨ j = 1 ∨ j = 2 from by omega) with rfl | rfl | rfl
    · exact ⟨by simpa using h0, by simpa using ha⟩
    · exact ⟨by simpa using h1, by simpa using hb⟩
    · exact ⟨by simpa using h2, by simpa using hd⟩⟩)
  have e : sumS (fun j => if j = 0 then a else if j = 1 then b else d) 3 = addS (addS a b) d := by
    show addS (addS (addS 0 a) b) d = _
    rw [addS_in (a := 0) (b := a) (by omega) (by omega), Int.zero_add]
  rwa [e] at h
set_option maxRecDepth 100000 in
set_option maxHeartbeats 8000000 in
theorem ref4_tai_day (A : Option Addr) (n c : Nat) (x day nano : Int) (z : Nat → Int) (w : World) (hz : FlatAt w A 2 n z) (hn : n ≤ maxLen) (ht : IsTab z n x) (hd : day < -719162 ∨ 2932896 < day) :
    Calls Tryz.prog 73 #[.agg #[.slice A n c, .int .i64 x], .agg #[.int .i64 day, .int .i64 nano]] w fun e w' => e = .returned (.tuple #[.int .i64 0, .int .i64 1]) ∧ Below w.heap.size w w' := by
  have HB0 : Below w.heap.size w ((w.alloc (.cells #[.slice A n c, .int .i64 x] 24)).alloc (.cells #[.int .i64 day, .int .i64 nano] 105)) := by (repeat' (first | (with_reducible exact Below.refl _ _) | (with_reducible assumption) | (with_reducible refine Below.trans ?_ (Below.mono (by with_reducible assumption) ?_)) | (with_reducible refine Below.alloc ?_ ?_ _) | (with_reducible refine Below.setCell ?_ ?_ _) | (with_reducible refine below_drewN ?_ _) | (with_reducible refine Below.drew ?_) | go_size))
  have HZ := Lib.hid hz
  have q0 : ((w.alloc (.cells #[.slice A n c, .int .i64 x] 24)).alloc (.cells #[.int .i64 day, .int .i64 nano] 105)).cell? ⟨w.heap.size, 0, none⟩ = some (.slice A n c) := by simp [go_sem]
  have q1 : ((w.alloc (.cells #[.slice A n c, .int .i64 x] 24)).alloc (.cells #[.int .i64 day, .int .i64 nano] 105)).cell? ⟨w.heap.size, 1, none⟩ = some (.int .i64 x) := by simp [go_sem]
  have q2 : ((w.alloc (.cells #[.slice A n c, .int .i64 x] 24)).alloc (.cells #[.int .i64 day, .int .i64 nano] 105)).cell? ⟨w.heap.size + 1, 0, none⟩ = some (.int .i64 day) := by simp [go_sem]
  have q3 : ((w.alloc (.cells #[.slice A n c, .int .i64 x] 24)).alloc (.cells #[.int .i64 day, .int .i64 nano] 105)).cell? ⟨w.heap.size + 1, 1, none⟩ = some (.int .i64 nano) := by simp [go_sem]
  have l1 : w.heap.size + 1 < ((w.alloc (.cells #[.slice A n c, .int .i64 x] 24)).alloc (.cells #[.int .i64 day, .int .i64 nano] 105)).heap.size := by simp
  have HI := Lib.hid fun (W : World) (hw : FlatAt W A 2 n z) => ref3_is A n c x z W true hw hn ⟨fun _ => ht, fun _ => rfl⟩
  have hin : (decide (-719162 ≤ day) && decide (day < 2932897)) = false := by simp; omega
  have HIN := Lib.hid fun W : World => ref2_in day W
  rw [hin] at HIN
  clear hz hn ht hin hd
  go_enter Tryz.func73, Tryz.ntmps73
  go_wp2_with fail
  refine wp_region_held_drew (S := (fun w' => w'.cell? ⟨w.heap.size, 0, none⟩ = some (.slice A n c) ∧ w'.cell? ⟨w.heap.size, 1, none⟩ = some (.int .i64 x) ∧ w'.cell? ⟨w.heap.size + 1, 0, none⟩ = some (.int .i64 day) ∧ w'.cell? ⟨w.heap.size + 1, 1, none⟩ = some (.int .i64 nano))) (by kernel_rfl) ?_ (fun hHeld => ?_)
  · exact ⟨q0, q1, q2, q3⟩
  refine tk9 0 ?_
  refine wpAnyH_ready (rs := [1]) (by kernel_rfl) (by simp) ?_
  refine AllReadyH.cons rfl (fun K hK => ?_) AllReadyH.nil
  go_simp
  (go_at_call 56; refine (HI.out _ (HZ.out.below (by (repeat' (first | (with_reducible exact Below.refl _ _) | (with_reducible assumption) | (with_reducible refine Below.trans ?_ (Below.mono (by with_reducible assumption) ?_)) | (with_reducible refine Below.alloc ?_ ?_ _) | (with_reducible refine Below.setCell ?_ ?_ _) | (with_reducible refine below_drewN ?_ _) | (with_reducible refine Below.drew ?_) | go_size))))).mono ?_; rintro e w5 ⟨rfl, hb5⟩; have a0 := (hb5.cell (p := ⟨w.heap.size, 0, none⟩) (Nat.lt_of_succ_lt l1)).trans q0; have a1 := (hb5.cell (p := ⟨w.heap.size, 1, none⟩) (Nat.lt_of_succ_lt l1)).trans q1; have a2 := (hb5.cell (p := ⟨w.heap.size + 1, 0, none⟩) l1).trans q2; have a3 := (hb5.cell (p := ⟨w.heap.size + 1, 1, none⟩) l1).trans q3; have za := Nat.lt_of_lt_of_le l1 hb5.size; have HBa : Below w.heap.size w w5 := Below.trans (show Below w.heap.size w _ from (by (repeat' (first | (with_reducible exact Below.refl _ _) | (with_reducible assumption) | (with_reducible refine Below.trans ?_ (Below.mono (by with_reducible assumption) ?_)) | (with_reducible refine Below.alloc ?_ ?_ _) | (with_reducible refine Below.setCell ?_ ?_ _) | (with_reducible refine below_drewN ?_ _) | (with_reducible refine Below.drew ?_) | go_size)))) (hb5.mono (Below.size (show Below w.heap.size w _ from (by (repeat' (first | (with_reducible exact Below.refl _ _) | (with_reducible assumption) | (with_reducible refine Below.trans ?_ (Below.mono (by with_reducible assumption) ?_)) | (with_reducible refine Below.alloc ?_ ?_ _) | (with_reducible refine Below.setCell ?_ ?_ _) | (with_reducible refine below_drewN ?_ _) | (with_reducible refine Below.drew ?_) | go_size)))))))
  (try dsimp only)
  refine hK.out _ _ ?_ (fun hHeld => ?_)
  · exact ⟨a0, a1, a2, a3⟩
  clear hK K
  refine pt9 ?_
  refine tk9 2 ?_
  refine tk9 3 ?_
  refine tk9 4 ?_
  refine tk9 5 ?_
  refine wpAnyH_ready (rs := [6]) (by kernel_rfl) (by simp) ?_
  refine AllReadyH.cons rfl (fun K hK => ?_) AllReadyH.nil
  go_simp
  (go_at_call 74; refine (HIN.out _).mono ?_; rintro e w' ⟨rfl, rfl⟩)
  (try dsimp only)
  refine hK.out _ _ ?_ (fun hHeld => ?_)
  · exact ⟨a0, a1, a2, a3⟩
  clear hK K
  refine pt9 ?_
  refine tk9 7 ?_
  refine tk9 8 ?_
  refine tk9 9 ?_
  refine wpAnyH_take (i := 10) (v := undef) rfl (by kernel_rfl) (by kernel_rfl) (by kernel_rfl) (fun _ _ _ h => h) (Or.inr ⟨by rfl, rfl⟩) (by assumption) ?_
  (try simp only [Act.put, List.setIfInBounds_toArray, List.set_cons_zero, List.set_cons_succ, List.getElem_toArray, List.getElem_cons_succ, List.getElem_cons_zero])
  refine wpAnyH_take (i := 11) (v := undef) rfl (by kernel_rfl) (by kernel_rfl) (by kernel_rfl) (fun _ _ _ h => h) (Or.inr ⟨by rfl, rfl⟩) (by assumption) ?_
  (try simp only [Act.put, List.setIfInBounds_toArray, List.set_cons_zero, List.set_cons_succ, List.getElem_toArray, List.getElem_cons_succ, List.getElem_cons_zero])
  refine wpAnyH_take (i := 12) (v := undef) rfl (by kernel_rfl) (by kernel_rfl) (by kernel_rfl) (fun _ _ _ h => h) (Or.inr ⟨by rfl, rfl⟩) (by assumption) ?_
  (try simp only [Act.put, List.setIfInBounds_toArray, List.set_cons_zero, List.set_cons_succ, List.getElem_toArray, List.getElem_cons_succ, List.getElem_cons_zero])
  refine tk9 13 ?_
  refine tk9 14 ?_
  refine wpAnyH_take (i := 15) (v := undef) rfl (by kernel_rfl) (by kernel_rfl) (by kernel_rfl) (fun _ _ _ h => h) (Or.inr ⟨by rfl, rfl⟩) (by assumption) ?_
  (try simp only [Act.put, List.setIfInBounds_toArray, List.set_cons_zero, List.set_cons_succ, List.getElem_toArray, List.getElem_cons_succ, List.getElem_cons_zero])
  refine wpAnyH_take (i := 16) (v := undef) rfl (by kernel_rfl) (by kernel_rfl) (by kernel_rfl) (fun _ _ _ h => h) (Or.inr ⟨by rfl, rfl⟩) (by assumption) ?_
  (try simp only [Act.put, List.setIfInBounds_toArray, List.set_cons_zero, List.set_cons_succ, List.getElem_toArray, List.getElem_cons_succ, List.getElem_cons_zero])
  refine wpAnyH_take (i := 17) (v := undef) rfl (by kernel_rfl) (by kernel_rfl) (by kernel_rfl) (fun _ _ _ h => h) (Or.inr ⟨by rfl, rfl⟩) (by assumption) ?_
  (try simp only [Act.put, List.setIfInBounds_toArray, List.set_cons_zero, List.set_cons_succ, List.getElem_toArray, List.getElem_cons_succ, List.getElem_cons_zero])
  refine wpAnyH_take (i := 18) (v := undef) rfl (by kernel_rfl) (by kernel_rfl) (by kernel_rfl) (fun _ _ _ h => h) (Or.inr ⟨by rfl, rfl⟩) (by assumption) ?_
  (try simp only [Act.put, List.setIfInBounds_toArray, List.set_cons_zero, List.set_cons_succ, List.getElem_toArray, List.getElem_cons_succ, List.getElem_cons_zero])
  refine wpAnyH_take (i := 19) (v := undef) rfl (by kernel_rfl) (by kernel_rfl) (by kernel_rfl) (fun _ _ _ h => h) (Or.inr ⟨by rfl, rfl⟩) (by assumption) ?_
  (try simp only [Act.put, List.setIfInBounds_toArray, List.set_cons_zero, List.set_cons_succ, List.getElem_toArray, List.getElem_cons_succ, List.getElem_cons_zero])
  refine wpAnyH_take (i := 20) (v := undef) rfl (by kernel_rfl) (by kernel_rfl) (by kernel_rfl) (fun _ _ _ h => h) (Or.inr ⟨by rfl, rfl⟩) (by assumption) ?_
  (try simp only [Act.put, List.setIfInBounds_toArray, List.set_cons_zero, List.set_cons_succ, List.getElem_toArray, List.getElem_cons_succ, List.getElem_cons_zero])
  refine wpAnyH_take (i := 21) (v := undef) rfl (by kernel_rfl) (by kernel_rfl) (by kernel_rfl) (fun _ _ _ h => h) (Or.inr ⟨by rfl, rfl⟩) (by assumption) ?_
  (try simp only [Act.put, List.setIfInBounds_toArray, List.set_cons_zero, List.set_cons_succ, List.getElem_toArray, List.getElem_cons_succ, List.getElem_cons_zero])
  refine wpAnyH_take (i := 22) (v := undef) rfl (by kernel_rfl) (by kernel_rfl) (by kernel_rfl) (fun _ _ _ h => h) (Or.inr ⟨by rfl, rfl⟩) (by assumption) ?_
  (try simp only [Act.put, List.setIfInBounds_toArray, List.set_cons_zero, List.set_cons_succ, List.getElem_toArray, List.getElem_cons_succ, List.getElem_cons_zero])
  refine tk9 23 ?_
  refine wpAnyH_done (by kernel_rfl) ?_ _
  go_wp2
  go_ret2
  go_light
  exact ⟨rfl, by (repeat' (first | (with_reducible exact Below.refl _ _) | (with_reducible assumption) | (with_reducible refine Below.trans ?_ (Below.mono (by with_reducible assumption) ?_)) | (with_reducible refine Below.alloc ?_ ?_ _) | (with_reducible refine Below.setCell ?_ ?_ _) | (with_reducible refine below_drewN ?_ _) | (with_reducible refine Below.drew ?_) | go_size))⟩
set_option maxRecDepth 100000 in
set_option maxHeartbeats 8000000 in
theorem ref4_tai_neg (A : Option Addr) (n c : Nat) (x day nano : Int) (z : Nat → Int) (w : World) (hz : FlatAt w A 2 n z) (hn : n ≤ maxLen) (ht : IsTab z n x) (d0 : -719162 ≤ day) (d1 : day ≤ 2932896) (n0 : nano < 0) :
    Calls Tryz.prog 73 #[.agg #[.slice A n c, .int .i64 x], .agg #[.int .i64 day, .int .i64 nano]] w fun e w' => e = .returned (.tuple #[.int .i64 0, .int .i64 1]) ∧ Below w.heap.size w w' := by
  have HB0 : Below w.heap.size w ((w.alloc (.cells #[.slice A n c, .int .i64 x] 24)).alloc (.cells #[.int .i64 day, .int .i64 nano] 105)) := by (repeat' (first | (with_reducible exact Below.refl _ _) | (with_reducible assumption) | (with_reducible refine Below.trans ?_ (Below.mono (by with_reducible assumption) ?_)) | (with_reducible refine Below.alloc ?_ ?_ _) | (with_reducible refine Below.setCell ?_ ?_ _) | (with_reducible refine below_drewN ?_ _) | (with_reducible refine Below.drew ?_) | go_size))
  have HZ := Lib.hid hz
  have q0 : ((w.alloc (.cells #[.slice A n c, .int .i64 x] 24)).alloc (.cells #[.int .i64 day, .int .i64 nano] 105)).cell? ⟨w.heap.size, 0, none⟩ = some (.slice A n c) := by simp [go_sem]
  have q1 : ((w.alloc (.cells #[.slice A n c, .int .i64 x] 24)).alloc (.cells #[.int .i64 day, .int .i64 nano] 105)).cell? ⟨w.heap.size, 1, none⟩ = some (.int .i64 x) := by simp [go_sem]
  have q2 : ((w.alloc (.cells #[.slice A n c, .int .i64 x] 24)).alloc (.cells #[.int .i64 day, .int .i64 nano] 105)).cell? ⟨w.heap.size + 1, 0, none⟩ = some (.int .i64 day) := by simp [go_sem]
  have q3 : ((w.alloc (.cells #[.slice A n c, .int .i64 x] 24)).alloc (.cells #[.int .i64 day, .int .i64 nano] 105)).cell? ⟨w.heap.size + 1, 1, none⟩ = some (.int .i64 nano) := by simp [go_sem]
  have l1 : w.heap.size + 1 < ((w.alloc (.cells #[.slice A n c, .int .i64 x] 24)).alloc (.cells #[.int .i64 day, .int .i64 nano] 105)).heap.size := by simp
  have HI := Lib.hid fun (W : World) (hw : FlatAt W A 2 n z) => ref3_is A n c x z W true hw hn ⟨fun _ => ht, fun _ => rfl⟩
  have hin : (decide (-719162 ≤ day) && decide (day < 2932897)) = true := by simp; omega
  have HIN := Lib.hid fun W : World => ref2_in day W
  rw [hin] at HIN
  have t0 : decide (nano < 0) = true := by simpa using n0
  clear hz hn ht hin d0 d1 n0
  go_enter Tryz.func73, Tryz.ntmps73
  go_wp2_with fail
  refine wp_region_held_drew (S := (fun w' => w'.cell? ⟨w.heap.size, 0, none⟩ = some (.slice A n c) ∧ w'.cell? ⟨w.heap.size, 1, none⟩ = some (.int .i64 x) ∧ w'.cell? ⟨w.heap.size + 1, 0, none⟩ = some (.int .i64 day) ∧ w'.cell? ⟨w.heap.size + 1, 1, none⟩ = some (.int .i64 nano))) (by kernel_rfl) ?_ (fun hHeld => ?_)
  · exact ⟨q0, q1, q2, q3⟩
  refine tk9 0 ?_
  refine wpAnyH_ready (rs := [1]) (by kernel_rfl) (by simp) ?_
  refine AllReadyH.cons rfl (fun K hK => ?_) AllReadyH.nil
  go_simp
  (go_at_call 56; refine (HI.out _ (HZ.out.below (by (repeat' (first | (with_reducible exact Below.refl _ _) | (with_reducible assumption) | (with_reducible refine Below.trans ?_ (Below.mono (by with_reducible assumption) ?_)) | (with_reducible refine Below.alloc ?_ ?_ _) | (with_reducible refine Below.setCell ?_ ?_ _) | (with_reducible refine below_drewN ?_ _) | (with_reducible refine Below.drew ?_) | go_size))))).mono ?_; rintro e w5 ⟨rfl, hb5⟩; have a0 := (hb5.cell (p := ⟨w.heap.size, 0, none⟩) (Nat.lt_of_succ_lt l1)).trans q0; have a1 := (hb5.cell (p := ⟨w.heap.size, 1, none⟩) (Nat.lt_of_succ_lt l1)).trans q1; have a2 := (hb5.cell (p := ⟨w.heap.size + 1, 0, none⟩) l1).trans q2; have a3 := (hb5.cell (p := ⟨w.heap.size + 1, 1, none⟩) l1).trans q3; have za := Nat.lt_of_lt_of_le l1 hb5.size; have HBa : Below w.heap.size w w5 := Below.trans (show Below w.heap.size w _ from (by (repeat' (first | (with_reducible exact Below.refl _ _) | (with_reducible assumption) | (with_reducible refine Below.trans ?_ (Below.mono (by with_reducible assumption) ?_)) | (with_reducible refine Below.alloc ?_ ?_ _) | (with_reducible refine Below.setCell ?_ ?_ _) | (with_reducible refine below_drewN ?_ _) | (with_reducible refine Below.drew ?_) | go_size)))) (hb5.mono (Below.size (show Below w.heap.size w _ from (by (repeat' (first | (with_reducible exact Below.refl _ _) | (with_reducible assumption) | (with_reducible refine Below.trans ?_ (Below.mono (by with_reducible assumption) ?_)) | (with_reducible refine Below.alloc ?_ ?_ _) | (with_reducible refine Below.setCell ?_ ?_ _) | (with_reducible refine below_drewN ?_ _) | (with_reducible refine Below.drew ?_) | go_size)))))))
  (try dsimp only)
  refine hK.out _ _ ?_ (fun hHeld => ?_)
  · exact ⟨a0, a1, a2, a3⟩
  clear hK K
  refine pt9 ?_
  refine tk9 2 ?_
  refine tk9 3 ?_
  refine tk9 4 ?_
  refine tk9 5 ?_
  refine wpAnyH_ready (rs := [6]) (by kernel_rfl) (by simp) ?_
  refine AllReadyH.cons rfl (fun K hK => ?_) AllReadyH.nil
  go_simp
  (go_at_call 74; refine (HIN.out _).mono ?_; rintro e w' ⟨rfl, rfl⟩)
  (try dsimp only)
  refine hK.out _ _ ?_ (fun hHeld => ?_)
  · exact ⟨a0, a1, a2, a3⟩
  clear hK K
  refine pt9 ?_
  refine tk9 7 ?_
  refine tk9 8 ?_
  refine tk9 9 ?_
  refine tk9 10 ?_
  refine tk9 11 ?_
  refine tk9 12 ?_
  refine tk9 13 ?_
  refine tk9 14 ?_
  refine wpAnyH_take (i := 15) (v := undef) rfl (by kernel_rfl) (by kernel_rfl) (by kernel_rfl) (fun _ _ _ h => h) (Or.inr ⟨by rfl, rfl⟩) (by assumption) ?_
  (try simp only [Act.put, List.setIfInBounds_toArray, List.set_cons_zero, List.set_cons_succ, List.getElem_toArray, List.getElem_cons_succ, List.getElem_cons_zero])
  refine wpAnyH_take (i := 16) (v := undef) rfl (by kernel_rfl) (by kernel_rfl) (by kernel_rfl) (fun _ _ _ h => h) (Or.inr ⟨by rfl, rfl⟩) (by assumption) ?_
  (try simp only [Act.put, List.setIfInBounds_toArray, List.set_cons_zero, List.set_cons_succ, List.getElem_toArray, List.getElem_cons_succ, List.getElem_cons_zero])
  refine wpAnyH_take (i := 17) (v := undef) rfl (by kernel_rfl) (by kernel_rfl) (by kernel_rfl) (fun _ _ _ h => h) (Or.inr ⟨by rfl, rfl⟩) (by assumption) ?_
  (try simp only [Act.put, List.setIfInBounds_toArray, List.set_cons_zero, List.set_cons_succ, List.getElem_toArray, List.getElem_cons_succ, List.getElem_cons_zero])
  refine wpAnyH_take (i := 18) (v := undef) rfl (by kernel_rfl) (by kernel_rfl) (by kernel_rfl) (fun _ _ _ h => h) (Or.inr ⟨by rfl, rfl⟩) (by assumption) ?_
  (try simp only [Act.put, List.setIfInBounds_toArray, List.set_cons_zero, List.set_cons_succ, List.getElem_toArray, List.getElem_cons_succ, List.getElem_cons_zero])
  refine wpAnyH_take (i := 19) (v := undef) rfl (by kernel_rfl) (by kernel_rfl) (by kernel_rfl) (fun _ _ _ h => h) (Or.inr ⟨by rfl, rfl⟩) (by assumption) ?_
  (try simp only [Act.put, List.setIfInBounds_toArray, List.set_cons_zero, List.set_cons_succ, List.getElem_toArray, List.getElem_cons_succ, List.getElem_cons_zero])
  refine wpAnyH_take (i := 20) (v := undef) rfl (by kernel_rfl) (by kernel_rfl) (by kernel_rfl) (fun _ _ _ h => h) (Or.inr ⟨by rfl, rfl⟩) (by assumption) ?_
  (try simp only [Act.put, List.setIfInBounds_toArray, List.set_cons_zero, List.set_cons_succ, List.getElem_toArray, List.getElem_cons_succ, List.getElem_cons_zero])
  refine wpAnyH_take (i := 21) (v := undef) rfl (by kernel_rfl) (by kernel_rfl) (by kernel_rfl) (fun _ _ _ h => h) (Or.inr ⟨by rfl, rfl⟩) (by assumption) ?_
  (try simp only [Act.put, List.setIfInBounds_toArray, List.set_cons_zero, List.set_cons_succ, List.getElem_toArray, List.getElem_cons_succ, List.getElem_cons_zero])
  refine wpAnyH_take (i := 22) (v := undef) rfl (by kernel_rfl) (by kernel_rfl) (by kernel_rfl) (fun _ _ _ h => h) (Or.inr ⟨by rfl, rfl⟩) (by assumption) ?_
  (try simp only [Act.put, List.setIfInBounds_toArray, List.set_cons_zero, List.set_cons_succ, List.getElem_toArray, List.getElem_cons_succ, List.getElem_cons_zero])
  refine tk9 23 ?_
  refine wpAnyH_done (by kernel_rfl) ?_ _
  go_wp2
  go_ret2
  go_light
  exact ⟨rfl, by (repeat' (first | (with_reducible exact Below.refl _ _) | (with_reducible assumption) | (with_reducible refine Below.trans ?_ (Below.mono (by with_reducible assumption) ?_)) | (with_reducible refine Below.alloc ?_ ?_ _) | (with_reducible refine Below.setCell ?_ ?_ _) | (with_reducible refine below_drewN ?_ _) | (with_reducible refine Below.drew ?_) | go_size))⟩
set_option maxRecDepth 100000 in
set_option maxHeartbeats 8000000 in
theorem ref4_tai_late (A : Option Addr) (n c : Nat) (x day nano : Int) (z : Nat → Int) (w : World) (hz : FlatAt w A 2 n z) (hn : n ≤ maxLen) (ht : IsTab z n x) (d0 : -719162 ≤ day) (d1 : day ≤ 2932896) (n0 : 0 ≤ nano) (n1 : lenS z n day * 1000000000 ≤ nano) :
    Calls Tryz.prog 73 #[.agg #[.slice A n c, .int .i64 x], .agg #[.int .i64 day, .int .i64 nano]] w fun e w' => e = .returned (.tuple #[.int .i64 0, .int .i64 1]) ∧ Below w.heap.size w w' := by
  have HB0 : Below w.heap.size w ((w.alloc (.cells #[.slice A n c, .int .i64 x] 24)).alloc (.cells #[.int .i64 day, .int .i64 nano] 105)) := by (repeat' (first | (with_reducible exact Below.refl _ _) | (with_reducible assumption) | (with_reducible refine Below.trans ?_ (Below.mono (by with_reducible assumption) ?_)) | (with_reducible refine Below.alloc ?_ ?_ _) | (with_reducible refine Below.setCell ?_ ?_ _) | (with_reducible refine below_drewN ?_ _) | (with_reducible refine Below.drew ?_) | go_size))
  have HZ := Lib.hid hz
  have q0 : ((w.alloc (.cells #[.slice A n c, .int .i64 x] 24)).alloc (.cells #[.int .i64 day, .int .i64 nano] 105)).cell? ⟨w.heap.size, 0, none⟩ = some (.slice A n c) := by simp [go_sem]
  have q1 : ((w.alloc (.cells #[.slice A n c, .int .i64 x] 24)).alloc (.cells #[.int .i64 day, .int .i64 nano] 105)).cell? ⟨w.heap.size, 1, none⟩ = some (.int .i64 x) := by simp [go_sem]
  have q2 : ((w.alloc (.cells #[.slice A n c, .int .i64 x] 24)).alloc (.cells #[.int .i64 day, .int .i64 nano] 105)).cell? ⟨w.heap.size + 1, 0, none⟩ = some (.int .i64 day) := by simp [go_sem]
  have q3 : ((w.alloc (.cells #[.slice A n c, .int .i64 x] 24)).alloc (.cells #[.int .i64 day, .int .i64 nano] 105)).cell? ⟨w.heap.size + 1, 1, none⟩ = some (.int .i64 nano) := by simp [go_sem]
  have l1 : w.heap.size + 1 < ((w.alloc (.cells #[.slice A n c, .int .i64 x] 24)).alloc (.cells #[.int .i64 day, .int .i64 nano] 105)).heap.size := by simp
  have HI := Lib.hid fun (W : World) (hw : FlatAt W A 2 n z) => ref3_is A n c x z W true hw hn ⟨fun _ => ht, fun _ => rfl⟩
  have hin : (decide (-719162 ≤ day) && decide (day < 2932897)) = true := by simp; omega
  have HIN := Lib.hid fun W : World => ref2_in day W
  rw [hin] at HIN
  have HL := Lib.hid fun (W : World) (hw : FlatAt W A 2 n z) => ref3_length_yes A n c x day z W hw ht (by omega) (by omega)
  have HO := Lib.hid fun (W : World) (hw : FlatAt W A 2 n z) => ref3_offset_yes A n c x day z W hw ht
  have bo := offK_bd ht day n (Nat.le_refl _)
  have bo1 := offK_bd ht (day + 1) n (Nat.le_refl _)
  have bl : 0 ≤ lenS z n day ∧ lenS z n day ≤ 100000 := by unfold lenS; omega
  generalize lenS z n day = L at *
  have t0 : decide (nano < 0) = false := by simp only [decide_eq_false_iff_not]; omega
  have lw : IntKind.i64.wrap (L * 1000000000) = L * 1000000000 := IntWalk.i64_in _ (by omega)
  have t1 : decide (L * 1000000000 ≤ nano) = true := by simpa using n1
  have t2 : decide (nano ≥ L * 1000000000) = true := by simpa using n1
  clear hz hn ht hin d0 d1 n0 n1 bo bo1
  go_enter Tryz.func73, Tryz.ntmps73
  go_wp2_with fail
  refine wp_region_held_drew (S := (fun w' => w'.cell? ⟨w.heap.size, 0, none⟩ = some (.slice A n c) ∧ w'.cell? ⟨w.heap.size, 1, none⟩ = some (.int .i64 x) ∧ w'.cell? ⟨w.heap.size + 1, 0, none⟩ = some (.int .i64 day) ∧ w'.cell? ⟨w.heap.size + 1, 1, none⟩ = some (.int .i64 nano))) (by kernel_rfl) ?_ (fun hHeld => ?_)
  · exact ⟨q0, q1, q2, q3⟩
  refine tk9 0 ?_
  refine wpAnyH_ready (rs := [1]) (by kernel_rfl) (by simp) ?_
  refine AllReadyH.cons rfl (fun K hK => ?_) AllReadyH.nil
  go_simp
  (go_at_call 56; refine (HI.out _ (HZ.out.below (by (repeat' (first | (with_reducible exact Below.refl _ _) | (with_reducible assumption) | (with_reducible refine Below.trans ?_ (Below.mono (by with_reducible assumption) ?_)) | (with_reducible refine Below.alloc ?_ ?_ _) | (with_reducible refine Below.setCell ?_ ?_ _) | (with_reducible refine below_drewN ?_ _) | (with_reducible refine Below.drew ?_) | go_size))))).mono ?_; rintro e w5 ⟨rfl, hb5⟩; have a0 := (hb5.cell (p := ⟨w.heap.size, 0, none⟩) (Nat.lt_of_succ_lt l1)).trans q0; have a1 := (hb5.cell (p := ⟨w.heap.size, 1, none⟩) (Nat.lt_of_succ_lt l1)).trans q1; have a2 := (hb5.cell (p := ⟨w.heap.size + 1, 0, none⟩) l1).trans q2; have a3 := (hb5.cell (p := ⟨w.heap.size + 1, 1, none⟩) l1).trans q3; have za := Nat.lt_of_lt_of_le l1 hb5.size; have HBa : Below w.heap.size w w5 := Below.trans (show Below w.heap.size w _ from (by (repeat' (first | (with_reducible exact Below.refl _ _) | (with_reducible assumption) | (with_reducible refine Below.trans ?_ (Below.mono (by with_reducible assumption) ?_)) | (with_reducible refine Below.alloc ?_ ?_ _) | (with_reducible refine Below.setCell ?_ ?_ _) | (with_reducible refine below_drewN ?_ _) | (with_reducible refine Below.drew ?_) | go_size)))) (hb5.mono (Below.size (show Below w.heap.size w _ from (by (repeat' (first | (with_reducible exact Below.refl _ _) | (with_reducible assumption) | (with_reducible refine Below.trans ?_ (Below.mono (by with_reducible assumption) ?_)) | (with_reducible refine Below.alloc ?_ ?_ _) | (with_reducible refine Below.setCell ?_ ?_ _) | (with_reducible refine below_drewN ?_ _) | (with_reducible refine Below.drew ?_) | go_size)))))))
  (try dsimp only)
  refine hK.out _ _ ?_ (fun hHeld => ?_)
  · exact ⟨a0, a1, a2, a3⟩
  clear hK K
  refine pt9 ?_
  refine tk9 2 ?_
  refine tk9 3 ?_
  refine tk9 4 ?_
  refine tk9 5 ?_
  refine wpAnyH_ready (rs := [6]) (by kernel_rfl) (by simp) ?_
  refine AllReadyH.cons rfl (fun K hK => ?_) AllReadyH.nil
  go_simp
  (go_at_call 74; refine (HIN.out _).mono ?_; rintro e w' ⟨rfl, rfl⟩)
  (try dsimp only)
  refine hK.out _ _ ?_ (fun hHeld => ?_)
  · exact ⟨a0, a1, a2, a3⟩
  clear hK K
  refine pt9 ?_
  refine tk9 7 ?_
  refine tk9 8 ?_
  refine tk9 9 ?_
  refine tk9 10 ?_
  refine tk9 11 ?_
  refine tk9 12 ?_
  refine tk9 13 ?_
  refine tk9 14 ?_
  refine tk9 15 ?_
  refine tk9 16 ?_
  refine tk9 17 ?_
  refine tk9 18 ?_
  refine tk9 19 ?_
  refine wpAnyH_ready (rs := [20]) (by kernel_rfl) (by simp) ?_
  refine AllReadyH.cons rfl (fun K hK => ?_) AllReadyH.nil
  go_simp
  (go_at_call 91; refine (HL.out _ (HZ.out.below (by (repeat' (first | (with_reducible exact Below.refl _ _) | (with_reducible assumption) | (with_reducible refine Below.trans ?_ (Below.mono (by with_reducible assumption) ?_)) | (with_reducible refine Below.alloc ?_ ?_ _) | (with_reducible refine Below.setCell ?_ ?_ _) | (with_reducible refine below_drewN ?_ _) | (with_reducible refine Below.drew ?_) | go_size))))).mono ?_; rintro e w6 ⟨rfl, hb6⟩; have b0 := (hb6.cell (p := ⟨w.heap.size, 0, none⟩) (Nat.lt_of_succ_lt za)).trans a0; have b1 := (hb6.cell (p := ⟨w.heap.size, 1, none⟩) (Nat.lt_of_succ_lt za)).trans a1; have b2 := (hb6.cell (p := ⟨w.heap.size + 1, 0, none⟩) za).trans a2; have b3 := (hb6.cell (p := ⟨w.heap.size + 1, 1, none⟩) za).trans a3; have zb := Nat.lt_of_lt_of_le za hb6.size; have HBb : Below w.heap.size w w6 := Below.trans (show Below w.heap.size w _ from (by (repeat' (first | (with_reducible exact Below.refl _ _) | (with_reducible assumption) | (with_reducible refine Below.trans ?_ (Below.mono (by with_reducible assumption) ?_)) | (with_reducible refine Below.alloc ?_ ?_ _) | (with_reducible refine Below.setCell ?_ ?_ _) | (with_reducible refine below_drewN ?_ _) | (with_reducible refine Below.drew ?_) | go_size)))) (hb6.mono (Below.size (show Below w.heap.size w _ from (by (repeat' (first | (with_reducible exact Below.refl _ _) | (with_reducible assumption) | (with_reducible refine Below.trans ?_ (Below.mono (by with_reducible assumption) ?_)) | (with_reducible refine Below.alloc ?_ ?_ _) | (with_reducible refine Below.setCell ?_ ?_ _) | (with_reducible refine below_drewN ?_ _) | (with_reducible refine Below.drew ?_) | go_size)))))))
  (try dsimp only)
  refine hK.out _ _ ?_ (fun hHeld => ?_)
  · exact ⟨b0, b1, b2, b3⟩
  clear hK K
  refine pt9 ?_
  refine tk9 21 ?_
  refine tk9 22 ?_
  refine tk9 23 ?_
  refine wpAnyH_done (by kernel_rfl) ?_ _
  go_wp2
  go_ret2
  go_light
  exact ⟨rfl, by (repeat' (first | (with_reducible exact Below.refl _ _) | (with_reducible assumption) | (with_reducible refine Below.trans ?_ (Below.mono (by with_reducible assumption) ?_)) | (with_reducible refine Below.alloc ?_ ?_ _) | (with_reducible refine Below.setCell ?_ ?_ _) | (with_reducible refine below_drewN ?_ _) | (with_reducible refine Below.drew ?_) | go_size))⟩
set_option maxRecDepth 100000 in
set_option maxHeartbeats 8000000 in
theorem ref4_tai_ok (A : Option Addr) (n c : Nat) (x day nano : Int) (z : Nat → Int) (w : World) (hz : FlatAt w A 2 n z) (hn : n ≤ maxLen) (ht : IsTab z n x) (e0 : -719162 ≤ day) (e1 : day ≤ 2932896) (n0 : 0 ≤ nano) (n1 : nano < lenS z n day * 1000000000) :
    Calls Tryz.prog 73 #[.agg #[.slice A n c, .int .i64 x], .agg #[.int .i64 day, .int .i64 nano]] w fun e w' => e = .returned (.tuple #[.int .i64 (addS (addS (mulS day 86400000000000) nano) (mulS (offK z day n) 1000000000)), .int .i64 0]) ∧ Below w.heap.size w w' := by
  have HB0 : Below w.heap.size w ((w.alloc (.cells #[.slice A n c, .int .i64 x] 24)).alloc (.cells #[.int .i64 day, .int .i64 nano] 105)) := by (repeat' (first | (with_reducible exact Below.refl _ _) | (with_reducible assumption) | (with_reducible refine Below.trans ?_ (Below.mono (by with_reducible assumption) ?_)) | (with_reducible refine Below.alloc ?_ ?_ _) | (with_reducible refine Below.setCell ?_ ?_ _) | (with_reducible refine below_drewN ?_ _) | (with_reducible refine Below.drew ?_) | go_size))
  have HZ := Lib.hid hz
  have q0 : ((w.alloc (.cells #[.slice A n c, .int .i64 x] 24)).alloc (.cells #[.int .i64 day, .int .i64 nano] 105)).cell? ⟨w.heap.size, 0, none⟩ = some (.slice A n c) := by simp [go_sem]
  have q1 : ((w.alloc (.cells #[.slice A n c, .int .i64 x] 24)).alloc (.cells #[.int .i64 day, .int .i64 nano] 105)).cell? ⟨w.heap.size, 1, none⟩ = some (.int .i64 x) := by simp [go_sem]
  have q2 : ((w.alloc (.cells #[.slice A n c, .int .i64 x] 24)).alloc (.cells #[.int .i64 day, .int .i64 nano] 105)).cell? ⟨w.heap.size + 1, 0, none⟩ = some (.int .i64 day) := by simp [go_sem]
  have q3 : ((w.alloc (.cells #[.slice A n c, .int .i64 x] 24)).alloc (.cells #[.int .i64 day, .int .i64 nano] 105)).cell? ⟨w.heap.size + 1, 1, none⟩ = some (.int .i64 nano) := by simp [go_sem]
  have l1 : w.heap.size + 1 < ((w.alloc (.cells #[.slice A n c, .int .i64 x] 24)).alloc (.cells #[.int .i64 day, .int .i64 nano] 105)).heap.size := by simp
  have HI := Lib.hid fun (W : World) (hw : FlatAt W A 2 n z) => ref3_is A n c x z W true hw hn ⟨fun _ => ht, fun _ => rfl⟩
  have hin : (decide (-719162 ≤ day) && decide (day < 2932897)) = true := by simp; omega
  have HIN := Lib.hid fun W : World => ref2_in day W
  rw [hin] at HIN
  have HL := Lib.hid fun (W : World) (hw : FlatAt W A 2 n z) => ref3_length_yes A n c x day z W hw ht (by omega) (by omega)
  have HO := Lib.hid fun (W : World) (hw : FlatAt W A 2 n z) => ref3_offset_yes A n c x day z W hw ht
  have bo := offK_bd ht day n (Nat.le_refl _)
  have bo1 := offK_bd ht (day + 1) n (Nat.le_refl _)
  have bl : 0 ≤ lenS z n day ∧ lenS z n day ≤ 100000 := by unfold lenS; omega
  have HMD := Lib.hid fun W : World => ref4_mul day 86400000000000 W (by omega) (by omega) (by decide) (by decide)
  have HMO := Lib.hid fun W : World => ref4_mul (offK z day n) 1000000000 W (by omega) (by omega) (by decide) (by decide)
  have hmd := mulS_bd day 86400000000000
  have hmo := mulS_bd (offK z day n) 1000000000
  have hna : -9223372036854775808 ≤ nano ∧ nano ≤ 9223372036854775807 := by omega
  generalize lenS z n day = L at *
  generalize mulS day 86400000000000 = md at *
  generalize mulS (offK z day n) 1000000000 = mo at *
  have t0 : decide (nano < 0) = false := by simp only [decide_eq_false_iff_not]; omega
  have lw : IntKind.i64.wrap (L * 1000000000) = L * 1000000000 := IntWalk.i64_in _ (by omega)
  have t1 : decide (L * 1000000000 ≤ nano) = false := by simp only [decide_eq_false_iff_not]; omega
  have t2 : decide (nano ≥ L * 1000000000) = false := by simp only [decide_eq_false_iff_not]; omega
  generalize offK z day n = of at *
  clear hz hn ht hin e0 e1 n0 n1 bo bo1
  go_enter Tryz.func73, Tryz.ntmps73
  go_wp2_with fail
  refine wp_region_held_drew (S := (fun w' => w'.cell? ⟨w.heap.size, 0, none⟩ = some (.slice A n c) ∧ w'.cell? ⟨w.heap.size, 1, none⟩ = some (.int .i64 x) ∧ w'.cell? ⟨w.heap.size + 1, 0, none⟩ = some (.int .i64 day) ∧ w'.cell? ⟨w.heap.size + 1, 1, none⟩ = some (.int .i64 nano))) (by kernel_rfl) ?_ (fun hHeld => ?_)
  · exact ⟨q0, q1, q2, q3⟩
  refine tk9 0 ?_
  refine wpAnyH_ready (rs := [1]) (by kernel_rfl) (by simp) ?_
  refine AllReadyH.cons rfl (fun K hK => ?_) AllReadyH.nil
  go_simp
  (go_at_call 56; refine (HI.out _ (HZ.out.below (by (repeat' (first | (with_reducible exact Below.refl _ _) | (with_reducible assumption) | (with_reducible refine Below.trans ?_ (Below.mono (by with_reducible assumption) ?_)) | (with_reducible refine Below.alloc ?_ ?_ _) | (with_reducible refine Below.setCell ?_ ?_ _) | (with_reducible refine below_drewN ?_ _) | (with_reducible refine Below.drew ?_) | go_size))))).mono ?_; rintro e w5 ⟨rfl, hb5⟩; have a0 := (hb5.cell (p := ⟨w.heap.size, 0, none⟩) (Nat.lt_of_succ_lt l1)).trans q0; have a1 := (hb5.cell (p := ⟨w.heap.size, 1, none⟩) (Nat.lt_of_succ_lt l1)).trans q1; have a2 := (hb5.cell (p := ⟨w.heap.size + 1, 0, none⟩) l1).trans q2; have a3 := (hb5.cell (p := ⟨w.heap.size + 1, 1, none⟩) l1).trans q3; have za := Nat.lt_of_lt_of_le l1 hb5.size; have HBa : Below w.heap.size w w5 := Below.trans (show Below w.heap.size w _ from (by (repeat' (first | (with_reducible exact Below.refl _ _) | (with_reducible assumption) | (with_reducible refine Below.trans ?_ (Below.mono (by with_reducible assumption) ?_)) | (with_reducible refine Below.alloc ?_ ?_ _) | (with_reducible refine Below.setCell ?_ ?_ _) | (with_reducible refine below_drewN ?_ _) | (with_reducible refine Below.drew ?_) | go_size)))) (hb5.mono (Below.size (show Below w.heap.size w _ from (by (repeat' (first | (with_reducible exact Below.refl _ _) | (with_reducible assumption) | (with_reducible refine Below.trans ?_ (Below.mono (by with_reducible assumption) ?_)) | (with_reducible refine Below.alloc ?_ ?_ _) | (with_reducible refine Below.setCell ?_ ?_ _) | (with_reducible refine below_drewN ?_ _) | (with_reducible refine Below.drew ?_) | go_size)))))))
  (try dsimp only)
  refine hK.out _ _ ?_ (fun hHeld => ?_)
  · exact ⟨a0, a1, a2, a3⟩
  clear hK K
  refine pt9 ?_
  refine tk9 2 ?_
  refine tk9 3 ?_
  refine tk9 4 ?_
  refine tk9 5 ?_
  refine wpAnyH_ready (rs := [6]) (by kernel_rfl) (by simp) ?_
  refine AllReadyH.cons rfl (fun K hK => ?_) AllReadyH.nil
  go_simp
  (go_at_call 74; refine (HIN.out _).mono ?_; rintro e w' ⟨rfl, rfl⟩)
  (try dsimp only)
  refine hK.out _ _ ?_ (fun hHeld => ?_)
  · exact ⟨a0, a1, a2, a3⟩
  clear hK K
  refine pt9 ?_
  refine tk9 7 ?_
  refine tk9 8 ?_
  refine tk9 9 ?_
  refine tk9 10 ?_
  refine tk9 11 ?_
  refine tk9 12 ?_
  refine tk9 13 ?_
  refine tk9 14 ?_
  refine tk9 15 ?_
  refine tk9 16 ?_
  refine tk9 17 ?_
  refine tk9 18 ?_
  refine tk9 19 ?_
  refine wpAnyH_ready (rs := [20]) (by kernel_rfl) (by simp) ?_
  refine AllReadyH.cons rfl (fun K hK => ?_) AllReadyH.nil
  go_simp
  (go_at_call 91; refine (HL.out _ (HZ.out.below (by (repeat' (first | (with_reducible exact Below.refl _ _) | (with_reducible assumption) | (with_reducible refine Below.trans ?_ (Below.mono (by with_reducible assumption) ?_)) | (with_reducible refine Below.alloc ?_ ?_ _) | (with_reducible refine Below.setCell ?_ ?_ _) | (with_reducible refine below_drewN ?_ _) | (with_reducible refine Below.drew ?_) | go_size))))).mono ?_; rintro e w6 ⟨rfl, hb6⟩; have b0 := (hb6.cell (p := ⟨w.heap.size, 0, none⟩) (Nat.lt_of_succ_lt za)).trans a0; have b1 := (hb6.cell (p := ⟨w.heap.size, 1, none⟩) (Nat.lt_of_succ_lt za)).trans a1; have b2 := (hb6.cell (p := ⟨w.heap.size + 1, 0, none⟩) za).trans a2; have b3 := (hb6.cell (p := ⟨w.heap.size + 1, 1, none⟩) za).trans a3; have zb := Nat.lt_of_lt_of_le za hb6.size; have HBb : Below w.heap.size w w6 := Below.trans (show Below w.heap.size w _ from (by (repeat' (first | (with_reducible exact Below.refl _ _) | (with_reducible assumption) | (with_reducible refine Below.trans ?_ (Below.mono (by with_reducible assumption) ?_)) | (with_reducible refine Below.alloc ?_ ?_ _) | (with_reducible refine Below.setCell ?_ ?_ _) | (with_reducible refine below_drewN ?_ _) | (with_reducible refine Below.drew ?_) | go_size)))) (hb6.mono (Below.size (show Below w.heap.size w _ from (by (repeat' (first | (with_reducible exact Below.refl _ _) | (with_reducible assumption) | (with_reducible refine Below.trans ?_ (Below.mono (by with_reducible assumption) ?_)) | (with_reducible refine Below.alloc ?_ ?_ _) | (with_reducible refine Below.setCell ?_ ?_ _) | (with_reducible refine below_drewN ?_ _) | (with_reducible refine Below.drew ?_) | go_size)))))))
  (try dsimp only)
  refine hK.out _ _ ?_ (fun hHeld => ?_)
  · exact ⟨b0, b1, b2, b3⟩
  clear hK K
  refine pt9 ?_
  refine tk9 21 ?_
  refine tk9 22 ?_
  refine tk9 23 ?_
  refine wpAnyH_done (by kernel_rfl) ?_ _
  go_wp2_with fail
  refine wp_region_held_drew (S := (fun w' => w'.cell? ⟨w.heap.size, 0, none⟩ = some (.slice A n c) ∧ w'.cell? ⟨w.heap.size, 1, none⟩ = some (.int .i64 x) ∧ w'.cell? ⟨w.heap.size + 1, 0, none⟩ = some (.int .i64 day) ∧ w'.cell? ⟨w.heap.size + 1, 1, none⟩ = some (.int .i64 nano))) (by kernel_rfl) ?_ (fun hHeld => ?_)
  · exact ⟨b0, b1, b2, b3⟩
  refine tk9 0 ?_
  refine tk9 1 ?_
  refine tk9 3 ?_
  refine tk9 4 ?_
  refine tk9 5 ?_
  refine tk9 6 ?_
  refine tk9 7 ?_
  refine wpAnyH_ready (rs := [2]) (by kernel_rfl) (by simp) ?_
  refine AllReadyH.cons rfl (fun K hK => ?_) AllReadyH.nil
  go_simp
  (go_at_call 89; refine (HMD.out _).mono ?_; rintro e w' ⟨rfl, rfl⟩)
  (try dsimp only)
  refine hK.out _ _ ?_ (fun hHeld => ?_)
  · exact ⟨b0, b1, b2, b3⟩
  clear hK K
  refine pt9 ?_
  refine wpAnyH_ready (rs := [8]) (by kernel_rfl) (by simp) ?_
  refine AllReadyH.cons rfl (fun K hK => ?_) AllReadyH.nil
  go_simp
  (go_at_call 90; refine (HO.out _ (HZ.out.below (by (repeat' (first | (with_reducible exact Below.refl _ _) | (with_reducible assumption) | (with_reducible refine Below.trans ?_ (Below.mono (by with_reducible assumption) ?_)) | (with_reducible refine Below.alloc ?_ ?_ _) | (with_reducible refine Below.setCell ?_ ?_ _) | (with_reducible refine below_drewN ?_ _) | (with_reducible refine Below.drew ?_) | go_size))))).mono ?_; rintro e w7 ⟨rfl, hb7⟩; have d0 := (hb7.cell (p := ⟨w.heap.size, 0, none⟩) (Nat.lt_of_succ_lt zb)).trans b0; have d1 := (hb7.cell (p := ⟨w.heap.size, 1, none⟩) (Nat.lt_of_succ_lt zb)).trans b1; have d2 := (hb7.cell (p := ⟨w.heap.size + 1, 0, none⟩) zb).trans b2; have d3 := (hb7.cell (p := ⟨w.heap.size + 1, 1, none⟩) zb).trans b3; have zd := Nat.lt_of_lt_of_le zb hb7.size; have HBd : Below w.heap.size w w7 := Below.trans (show Below w.heap.size w _ from (by (repeat' (first | (with_reducible exact Below.refl _ _) | (with_reducible assumption) | (with_reducible refine Below.trans ?_ (Below.mono (by with_reducible assumption) ?_)) | (with_reducible refine Below.alloc ?_ ?_ _) | (with_reducible refine Below.setCell ?_ ?_ _) | (with_reducible refine below_drewN ?_ _) | (with_reducible refine Below.drew ?_) | go_size)))) (hb7.mono (Below.size (show Below w.heap.size w _ from (by (repeat' (first | (with_reducible exact Below.refl _ _) | (with_reducible assumption) | (with_reducible refine Below.trans ?_ (Below.mono (by with_reducible assumption) ?_)) | (with_reducible refine Below.alloc ?_ ?_ _) | (with_reducible refine Below.setCell ?_ ?_ _) | (with_reducible refine below_drewN ?_ _) | (with_reducible refine Below.drew ?_) | go_size)))))))
  (try dsimp only)
  refine hK.out _ _ ?_ (fun hHeld => ?_)
  · exact ⟨d0, d1, d2, d3⟩
  clear hK K
  refine pt9 ?_
  refine wpAnyH_ready (rs := [9]) (by kernel_rfl) (by simp) ?_
  refine AllReadyH.cons rfl (fun K hK => ?_) AllReadyH.nil
  go_simp
  (go_at_call 89; refine (HMO.out _).mono ?_; rintro e w' ⟨rfl, rfl⟩)
  (try dsimp only)
  refine hK.out _ _ ?_ (fun hHeld => ?_)
  · exact ⟨d0, d1, d2, d3⟩
  clear hK K
  refine pt9 ?_
  refine wpAnyH_ready (rs := [10]) (by kernel_rfl) (by simp) ?_
  refine AllReadyH.cons rfl (fun K hK => ?_) AllReadyH.nil
  go_simp
  (try dsimp only)
  refine hK.out _ _ ?_ (fun hHeld => ?_)
  · exact ⟨(World.cell?_alloc_past _ _ _ (Nat.lt_of_succ_lt zd)).trans d0, (World.cell?_alloc_past _ _ _ (Nat.lt_of_succ_lt zd)).trans d1, (World.cell?_alloc_past _ _ _ zd).trans d2, (World.cell?_alloc_past _ _ _ zd).trans d3⟩
  clear hK K
  refine pt9 ?_
  refine wpAnyH_ready (rs := [11]) (by kernel_rfl) (by simp) ?_
  refine AllReadyH.cons rfl (fun K hK => ?_) AllReadyH.nil
  go_simp
  (go_at_call 37; refine (ref4_add3 md nano mo w7.heap.size _ hmd hna hmo (by simp [go_sem]) (by simp [go_sem]) (by simp [go_sem])).mono ?_; rintro e w' ⟨rfl, rfl⟩)
  (try dsimp only)
  refine hK.out _ _ ?_ (fun hHeld => ?_)
  · exact ⟨(World.cell?_alloc_past _ _ _ (Nat.lt_of_succ_lt zd)).trans d0, (World.cell?_alloc_past _ _ _ (Nat.lt_of_succ_lt zd)).trans d1, (World.cell?_alloc_past _ _ _ zd).trans d2, (World.cell?_alloc_past _ _ _ zd).trans d3⟩
  clear hK K
  refine pt9 ?_
  refine tk9 12 ?_
  refine tk9 13 ?_
  refine wpAnyH_done (by kernel_rfl) ?_ _
  go_wp2
  go_ret2
  go_light
  exact ⟨rfl, by (repeat' (first | (with_reducible exact Below.refl _ _) | (with_reducible assumption) | (with_reducible refine Below.trans ?_ (Below.mono (by with_reducible assumption) ?_)) | (with_reducible refine Below.alloc ?_ ?_ _) | (with_reducible refine Below.setCell ?_ ?_ _) | (with_reducible refine below_drewN ?_ _) | (with_reducible refine Below.drew ?_) | go_size))⟩
end Go.Proofs.YtepdnkpmkhjlgaaGreat
