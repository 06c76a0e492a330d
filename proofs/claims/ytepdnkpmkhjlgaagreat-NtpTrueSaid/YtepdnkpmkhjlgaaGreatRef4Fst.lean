/- The reference's first moment of a day; its Floor of a number that is not below 0 (written by gen/ref4utc.py). -/
import Derived.Test.YtepdnkpmkhjlgaaGreatRef4Tai
import Derived.Test.YtepdnkpmkhjlgaaGreatUtcMath
import Derived.Test.YtepdnkpmkhjlgaaGreatM9G
set_option linter.unusedSimpArgs false
set_option linter.unusedVariables false
namespace Go.Proofs.YtepdnkpmkhjlgaaGreat
open Go.RowKit

theorem ref4_floor_pos (a b : Int) (w : World) (h0 : 1 ≤ b) (h1 : b ≤ 9223372036854775807) (a0 : 0 ≤ a) (a1 : a ≤ 9223372036854775807) : Calls Tryz.prog 49 #[.int .i64 a, .int .i64 b] w fun e w' => e = .returned (.int .i64 (a / b)) ∧ w = w' := by
  have hb0 : (b == 0) = false := by simp; omega
  have HQ := Lib.hid (Int.tdiv_eq_ediv_of_nonneg (b := b) a0)
  have m0 := Int.emod_nonneg a (show b ≠ 0 by omega)
  have hr : decide (a.tmod b < 0) = false := by rw [Int.tmod_eq_emod_of_nonneg a0]; simp; omega
  have bd1 := Int.ediv_nonneg a0 (show 0 ≤ b by omega)
  have bd2 := Int.ediv_le_self b a0
  have b1 : -9223372036854775808 ≤ a.tdiv b ∧ a.tdiv b ≤ 9223372036854775807 := by rw [HQ.out]; omega
  have hr2 : decide (a % b < 0) = false := by simp; omega
  clear bd1 bd2
  go_enter Tryz.func49, Tryz.ntmps49
  go_wp2
  go_ret
  exact ⟨ret_int HQ.out, rfl⟩
set_option maxRecDepth 100000 in
set_option maxHeartbeats 4000000 in
theorem ref4_first (A : Option Addr) (n c : Nat) (x day : Int) (z : Nat → Int) (w : World) (hz : FlatAt w A 2 n z) (ht : IsTab z n x) (d0 : -1000000 ≤ day) (d1 : day ≤ 1000000) :
    Calls Tryz.prog 72 #[.agg #[.slice A n c, .int .i64 x], .int .i64 day] w fun e w' => e = .returned (.int .i64 (addS (mulS day 86400000000000) (mulS (offK z day n) 1000000000))) ∧ Below w.heap.size w w' := by
  have HB0 : Below w.heap.size w (w.alloc (.cells #[.slice A n c, .int .i64 x] 24)) := by (repeat' (first | (with_reducible exact Below.refl _ _) | (with_reducible assumption) | (with_reducible refine Below.trans ?_ (Below.mono (by with_reducible assumption) ?_)) | (with_reducible refine Below.alloc ?_ ?_ _) | (with_reducible refine Below.setCell ?_ ?_ _) | (with_reducible refine below_drewN ?_ _) | (with_reducible refine Below.drew ?_) | go_size))
  have q0 : (w.alloc (.cells #[.slice A n c, .int .i64 x] 24)).cell? ⟨w.heap.size, 0, none⟩ = some (.slice A n c) := by simp
  have q1 : (w.alloc (.cells #[.slice A n c, .int .i64 x] 24)).cell? ⟨w.heap.size, 1, none⟩ = some (.int .i64 x) := by simp
  have l0 : w.heap.size < (w.alloc (.cells #[.slice A n c, .int .i64 x] 24)).heap.size := by simp
  have HZ := Lib.hid (fun (W : World) (k : Below w.heap.size w W) => hz.below k)
  have HM1 := Lib.hid fun W : World => ref4_mul day 86400000000000 W (by omega) (by omega) (by decide) (by decide)
  have HO := Lib.hid fun (W : World) (hw : FlatAt W A 2 n z) => ref3_offset_yes A n c x day z W hw ht
  have bo := offK_bd ht day n (Nat.le_refl _)
  have HM2 := Lib.hid fun W : World => ref4_mul (offK z day n) 1000000000 W (by omega) (by omega) (by decide) (by decide)
  have hmd := mulS_bd day 86400000000000
  have hmo := mulS_bd (offK z day n) 1000000000
  have HA2 := Lib.hid fun (B : Nat) (W : World) q0 q1 => ref4_add2 (mulS day 86400000000000) (mulS (offK z day n) 1000000000) B W hmd hmo q0 q1
  generalize mulS day 86400000000000 = md at *
  generalize mulS (offK z day n) 1000000000 = mo at *
  generalize offK z day n = of at *
  clear hz ht bo
  go_enter Tryz.func72, Tryz.ntmps72
  go_wp2_with fail
  refine wp_region_held_drew (S := fun w' => w'.cell? ⟨w.heap.size, 0, none⟩ = some (.slice A n c) ∧ w'.cell? ⟨w.heap.size, 1, none⟩ = some (.int .i64 x)) (by kernel_rfl) ?_ (fun hHeld => ?_)
  · exact ⟨q0, q1⟩
  have HBd := HB0.drew
  have q0 : (w.alloc (.cells #[.slice A n c, .int .i64 x] 24)).drew.cell? ⟨w.heap.size, 0, none⟩ = some (.slice A n c) := q0
  have q1 : (w.alloc (.cells #[.slice A n c, .int .i64 x] 24)).drew.cell? ⟨w.heap.size, 1, none⟩ = some (.int .i64 x) := q1
  have l0 : w.heap.size < (w.alloc (.cells #[.slice A n c, .int .i64 x] 24)).drew.heap.size := l0
  generalize (w.alloc (.cells #[.slice A n c, .int .i64 x] 24)).drew = V at *
  refine wpAnyH_take (i := 0) (v := ?_) rfl (by kernel_rfl) (by kernel_rfl) (by kernel_rfl) (fun _ _ _ h => h) (Or.inl ⟨by rfl, ?_⟩) (by assumption) ?_
  rotate_left
  · intro w' hSw; (try dsimp only at hSw); go_simp; (try with_reducible rfl)
  (try simp only [Act.put, List.setIfInBounds_toArray, List.set_cons_zero, List.set_cons_succ, List.getElem_toArray, List.getElem_cons_succ, List.getElem_cons_zero])
  refine wpAnyH_take (i := 2) (v := ?_) rfl (by kernel_rfl) (by kernel_rfl) (by kernel_rfl) (fun _ _ _ h => h) (Or.inl ⟨by rfl, ?_⟩) (by assumption) ?_
  rotate_left
  · intro w' hSw; (try dsimp only at hSw); go_simp; (try with_reducible rfl)
  (try simp only [Act.put, List.setIfInBounds_toArray, List.set_cons_zero, List.set_cons_succ, List.getElem_toArray, List.getElem_cons_succ, List.getElem_cons_zero])
  refine wpAnyH_take (i := 3) (v := ?_) rfl (by kernel_rfl) (by kernel_rfl) (by kernel_rfl) (fun _ _ _ h => h) (Or.inl ⟨by rfl, ?_⟩) (by assumption) ?_
  rotate_left
  · intro w' hSw; (try dsimp only at hSw); go_simp; (try with_reducible rfl)
  (try simp only [Act.put, List.setIfInBounds_toArray, List.set_cons_zero, List.set_cons_succ, List.getElem_toArray, List.getElem_cons_succ, List.getElem_cons_zero])
  refine wpAnyH_ready (rs := [1]) (by kernel_rfl) (by simp) ?_
  refine AllReadyH.cons rfl (fun K hK => ?_) (AllReadyH.nil)
  go_simp
  (go_at_call 89; refine (HM1.out _).mono ?_; rintro e w' ⟨rfl, rfl⟩)
  (try dsimp only)
  refine hK.out _ _ ?_ (fun hHeld => ?_)
  · exact ⟨q0, q1⟩
  clear hK K
  (try simp only [Act.put, List.setIfInBounds_toArray, List.set_cons_zero, List.set_cons_succ, List.getElem_toArray, List.getElem_cons_succ, List.getElem_cons_zero])
  refine wpAnyH_ready (rs := [4]) (by kernel_rfl) (by simp) ?_
  refine AllReadyH.cons rfl (fun K hK => ?_) (AllReadyH.nil)
  go_simp
  (go_at_call 90; refine (HO.out V (HZ.out V HBd)).mono ?_; rintro e V2 ⟨rfl, k2⟩)
  have HB2 := HBd.trans (k2.mono HBd.size)
  have p0 := (k2.cell (p := ⟨w.heap.size, 0, none⟩) l0).trans q0
  have p1 := (k2.cell (p := ⟨w.heap.size, 1, none⟩) l0).trans q1
  have l2 := Nat.lt_of_lt_of_le l0 k2.size
  clear k2
  (try dsimp only)
  refine hK.out _ _ ?_ (fun hHeld => ?_)
  · exact ⟨p0, p1⟩
  clear hK K
  (try simp only [Act.put, List.setIfInBounds_toArray, List.set_cons_zero, List.set_cons_succ, List.getElem_toArray, List.getElem_cons_succ, List.getElem_cons_zero])
  refine wpAnyH_ready (rs := [5]) (by kernel_rfl) (by simp) ?_
  refine AllReadyH.cons rfl (fun K hK => ?_) (AllReadyH.nil)
  go_simp
  (go_at_call 89; refine (HM2.out _).mono ?_; rintro e w' ⟨rfl, rfl⟩)
  (try dsimp only)
  refine hK.out _ _ ?_ (fun hHeld => ?_)
  · exact ⟨p0, p1⟩
  clear hK K
  (try simp only [Act.put, List.setIfInBounds_toArray, List.set_cons_zero, List.set_cons_succ, List.getElem_toArray, List.getElem_cons_succ, List.getElem_cons_zero])
  refine wpAnyH_ready (rs := [6]) (by kernel_rfl) (by simp) ?_
  refine AllReadyH.cons rfl (fun K hK => ?_) (AllReadyH.nil)
  go_simp
  have k3 : Below V2.heap.size V2 (V2.alloc (.cells #[.int .i64 md, .int .i64 mo] 3)) := (Below.refl _ _).alloc (Nat.le_refl _) _
  have HB3 := HB2.trans (k3.mono HB2.size)
  have r0 := (k3.cell (p := ⟨w.heap.size, 0, none⟩) l2).trans p0
  have r1 := (k3.cell (p := ⟨w.heap.size, 1, none⟩) l2).trans p1
  have F0 : (V2.alloc (.cells #[.int .i64 md, .int .i64 mo] 3)).cell? ⟨V2.heap.size, 0, none⟩ = some (.int .i64 md) := by simp
  have F1 : (V2.alloc (.cells #[.int .i64 md, .int .i64 mo] 3)).cell? ⟨V2.heap.size, 1, none⟩ = some (.int .i64 mo) := by simp
  clear k3
  (try dsimp only)
  refine hK.out _ _ ?_ (fun hHeld => ?_)
  · exact ⟨r0, r1⟩
  clear hK K
  (try simp only [Act.put, List.setIfInBounds_toArray, List.set_cons_zero, List.set_cons_succ, List.getElem_toArray, List.getElem_cons_succ, List.getElem_cons_zero])
  generalize (V2.alloc (.cells #[.int .i64 md, .int .i64 mo] 3)) = V3 at *
  generalize V2.heap.size = G3 at *
  refine wpAnyH_ready (rs := [7]) (by kernel_rfl) (by simp) ?_
  refine AllReadyH.cons rfl (fun K hK => ?_) (AllReadyH.nil)
  go_simp
  (go_at_call 37; refine (HA2.out G3 V3 F0 F1).mono ?_; rintro e w' ⟨rfl, rfl⟩)
  (try dsimp only)
  refine hK.out _ _ ?_ (fun hHeld => ?_)
  · exact ⟨r0, r1⟩
  clear hK K
  (try simp only [Act.put, List.setIfInBounds_toArray, List.set_cons_zero, List.set_cons_succ, List.getElem_toArray, List.getElem_cons_succ, List.getElem_cons_zero])
  refine wpAnyH_take (i := 8) (v := ?_) rfl (by kernel_rfl) (by kernel_rfl) (by kernel_rfl) (fun _ _ _ h => h) (Or.inl ⟨by rfl, ?_⟩) (by assumption) ?_
  rotate_left
  · intro w' hSw; (try dsimp only at hSw); go_simp; (try with_reducible rfl)
  (try simp only [Act.put, List.setIfInBounds_toArray, List.set_cons_zero, List.set_cons_succ, List.getElem_toArray, List.getElem_cons_succ, List.getElem_cons_zero])
  refine wpAnyH_done (by kernel_rfl) ?_ _
  go_wp2_with fail
  (try go_ret)
  exact ⟨rfl, HB3⟩
end Go.Proofs.YtepdnkpmkhjlgaaGreat
