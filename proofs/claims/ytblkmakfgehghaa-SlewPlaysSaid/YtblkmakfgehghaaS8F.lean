/- Stage 8: SlewPlays. -/
import Derived.Test.YtblkmakfgehghaaRef8Turn
import Derived.Test.YtblkmakfgehghaaArgFlat
set_option linter.unusedSimpArgs false
set_option linter.unusedVariables false
namespace Go.Proofs.Ytblkmakfgehghaa
open Go.ChangeShapes Go.WideShapes Go.ChangeAt Go.RowKit Go.Joins

set_option maxHeartbeats 1000000 in
theorem plays_bad (a t : Int) (A : Option Addr) (n c : Nat) (w : World) (h : a < 0 ∨ (0 ≤ a ∧ t < 0) ∨ (0 ≤ a ∧ 0 ≤ t ∧ 4611686018427387904 < t)) :
    Calls Try.prog 3 #[.int .i64 a, .int .i64 t, .slice A n c] w fun e w' => e = .returned (.bool true) ∧ Below w.heap.size w w' := by
  have H := Lib.hid h
  clear h
  go_enter Try.func3, Try.ntmps3
  go_wp2_with (first | (go_at_call 10; refine (slew_new_no a t _ H.out).mono ?_; rintro e w' ⟨rfl, rfl⟩) | (go_at_call 11; refine (ref8_new_no a t _ H.out).mono ?_; rintro e w' ⟨rfl, rfl⟩) | (go_at_call 12; refine (known8 _).mono ?_; rintro e w5 ⟨rfl, hb5⟩; obtain ⟨hc5, hf5⟩ := bcell hb5; have hz5 := hb5.size; (try simp only [World.size_alloc, World.size_setCell, World.heap_drewN] at hb5 hc5 hf5 hz5); (try have ha05 : w.heap.size < w5.heap.size := by omega); (try have ha15 : w.heap.size + 1 < w5.heap.size := by omega); (try have ha25 : w.heap.size + 2 < w5.heap.size := by omega); (try have hal5 : w.heap.size ≤ w5.heap.size := by omega); (try have ham5 : w.heap.size < w5.heap.size + 2 := by omega)))
  go_ret
  go_light
  exact ⟨rfl, by (repeat' (first | (with_reducible exact Below.refl _ _) | (with_reducible assumption) | (with_reducible refine Below.trans ?_ (Below.mono (by with_reducible assumption) ?_)) | (with_reducible refine Below.alloc ?_ ?_ _) | (with_reducible refine Below.setCell ?_ ?_ _) | (with_reducible refine below_drewN ?_ _) | (with_reducible refine Below.drew ?_) | go_size))⟩
set_option maxRecDepth 100000 in
set_option maxHeartbeats 16000000 in
theorem plays_in (a t0 : Int) (A : Option Addr) (n c : Nat) (z : Nat → Int) (w : World) (hz : FlatAt w A 3 n z) (hn : n ≤ maxLen) (ha : 0 ≤ a) (ha' : a ≤ 9223372036854775807) (h1 : 0 ≤ t0) (h2 : t0 ≤ 4611686018427387904) :
    Calls Try.prog 3 #[.int .i64 a, .int .i64 t0, .slice A n c] w fun e w' => e = .returned (.bool true) ∧ Below w.heap.size w w' := by
  unfold maxLen at hn
  have HZ := Lib.hid hz
  clear hz
  go_enter Try.func3, Try.ntmps3
  go_wp2_with fail
  refine (slew_new_ok a t0 _ ha h1 h2).mono ?_; rintro e w' ⟨rfl, rfl⟩
  go_wp2_with fail
  refine (ref8_new_ok a t0 _ ha h1 h2).mono ?_; rintro e w' ⟨rfl, rfl⟩
  have k0 := (Ints3.new w a t0 0 49).alloc (.cells #[.int .i64 a, .int .i64 t0, .int .i64 0] 35)
  have j0 := Ints3.new (w.alloc (.cells #[.int .i64 a, .int .i64 t0, .int .i64 0] 49)) a t0 0 35
  rw [World.size_alloc] at j0
  have K0 := Lib.hid k0
  have J0 := Lib.hid j0
  have HB0 : Below w.heap.size w ((w.alloc (.cells #[.int .i64 a, .int .i64 t0, .int .i64 0] 49)).alloc (.cells #[.int .i64 a, .int .i64 t0, .int .i64 0] 35)) := by (repeat' (first | (with_reducible exact Below.refl _ _) | (with_reducible assumption) | (with_reducible refine Below.trans ?_ (Below.mono (by with_reducible assumption) ?_)) | (with_reducible refine Below.alloc ?_ ?_ _) | (with_reducible refine Below.setCell ?_ ?_ _) | (with_reducible refine below_drewN ?_ _) | (with_reducible refine Below.drew ?_) | go_size))
  clear k0 j0
  go_wp2_with fail
  go_loopw [11] (fun i wr => ∃ (k : Nat) (c t l : Int), k ≤ n ∧ i = .int .i64 k ∧ Ok3 c t l ∧ Ints3 wr w.heap.size c t l ∧ Ints3 wr (w.heap.size + 1) c t l ∧ Below w.heap.size w wr) (fun i _ => n - (intOf i).toNat)
  case atStart => exact ⟨0, a, t0, 0, Nat.zero_le _, rfl, ⟨by omega, by omega, by omega, by omega, by omega, by omega⟩, K0.out, J0.out, HB0⟩
  case round =>
    obtain ⟨k, cc, t, l, k1, rfl, ho, KI, JI, HB⟩ := hrel
    have HO := Lib.hid ho
    have hcc : 0 ≤ cc ∧ cc ≤ 9223372036854775807 := ⟨ho.1, ho.2.1⟩
    clear K0 J0 HB0 ho
    have lr := JI.lt
    by_cases hlt : k < n ∧ k < 200
    · obtain ⟨hlt, h200⟩ := hlt
      have h2' : (k : Int) < 200 := by omega
      have hk : (k : Int) < (n : Int) := by omega
      obtain ⟨B, O, rfl, hB, hcells⟩ := HZ.out (by omega)
      have lB : B < wr.heap.size := by omega
      have hc : ∀ j, j < 3 → wr.cell? ⟨B, O + (k * 3 + j), none⟩ = some (.int .i64 (z (k * 3 + j))) := fun j hj => (HB.cell (p := ⟨B, O + (k * 3 + j), none⟩) hB).trans (hcells (k * 3 + j) (by omega)).1
      have x0 : wr.cell? ⟨B, O + k * 3, none⟩ = some (.int .i64 (z (k * 3))) := hc 0 (by omega)
      have x1 : wr.cell? ⟨B, O + k * 3 + 1, none⟩ = some (.int .i64 (z (k * 3 + 1))) := hc 1 (by omega)
      have x2 : wr.cell? ⟨B, O + k * 3 + 2, none⟩ = some (.int .i64 (z (k * 3 + 2))) := hc 2 (by omega)
      have xb := (hcells (k * 3 + 1) (by omega)).2
      have y0 := JI.c0
      clear hc hcells
      generalize z (k * 3) = a0 at *
      generalize z (k * 3 + 1) = a1 at *
      generalize z (k * 3 + 2) = a2 at *
      have lv := laterV_bd cc a1 hcc.2
      rcases (show a0 = 1 ∨ a0 = 2 ∨ a0 = 3 ∨ a0 = 4 ∨ (a0 ≤ 2 ∧ a0 ≠ 1 ∧ a0 ≠ 2) ∨ (2 < a0 ∧ a0 ≠ 3 ∧ a0 ≠ 4) from by omega) with e | e | e | e | ⟨e, e1, e2⟩ | ⟨e, e1, e2⟩
      · have d2 : decide (2 < a0) = false := by simp; omega
        have g1 : (a0 == 1) = true := by simp; omega
        clear e
        obtain ⟨v, c', t', l', o1, r1, r2⟩ := read_pair cc t l (a1) HO.out xb.2
        have R1 := Lib.hid r1
        have R2 := Lib.hid r2
        have O1 := Lib.hid o1
        clear r1 r2 o1
        go_wp2_with fail
        refine (R1.out _ _ KI).mono ?_; rintro e w2 ⟨rfl, ho2, k2⟩
        have J2 := JI.only ho2 (by omega)
        have HB2 : Below w.heap.size w w2 := HB.trans (ho2.below (Nat.le_refl _) HB.size)
        clear ho2
        go_wp2_with fail
        refine (R2.out _ _ J2).mono ?_; rintro e w3 ⟨rfl, ho3, k3⟩
        have K3 := k2.only ho3 (by omega)
        have J3 := k3
        have HB3 : Below w.heap.size w w3 := HB2.trans (ho3.below (by omega) HB2.size)
        clear ho3 k3 J2 k2
        go_wp2
        go_region_held3 (fun w' => w'.cell? ⟨w.heap.size + 1, 2, none⟩ = some (.int .i64 l')) (first | exact J3.c2)
          (first | (go_at_call 18; first | (refine (slew_left _ _ _ _ _ K3).mono ?_; rintro e w' ⟨rfl, rfl⟩) | (refine (slew_left _ _ _ _ _ K3.drew).mono ?_; rintro e w' ⟨rfl, rfl⟩) | (refine (slew_left _ _ _ _ _ K3.drew.drew).mono ?_; rintro e w' ⟨rfl, rfl⟩)))
        go_wp2
        go_roundw
        case rel => exact ⟨k + 1, c', t', l', by omega, by go_num, O1.out, (by first | exact K3 | exact K3.drew | exact K3.drewN _), (by first | exact J3 | exact J3.drew | exact J3.drewN _), (by (repeat' (first | (with_reducible exact Below.refl _ _) | (with_reducible assumption) | (with_reducible refine Below.trans ?_ (Below.mono (by with_reducible assumption) ?_)) | (with_reducible refine Below.alloc ?_ ?_ _) | (with_reducible refine Below.setCell ?_ ?_ _) | (with_reducible refine below_drewN ?_ _) | (with_reducible refine Below.drew ?_) | go_size)))⟩
        case measure => simp [intOf]; omega
      · have d2 : decide (2 < a0) = false := by simp; omega
        have g1 : (a0 == 1) = false := by simp; omega
        have g3 : (a0 == 3) = false := by simp; omega
        have g2 : (a0 == 2) = true := by simp; omega
        clear e
        obtain ⟨s, r, c', t', l', o1, r1, r2⟩ := turn_pair cc t l (a1) a2 HO.out xb.2
        have R1 := Lib.hid r1
        have R2 := Lib.hid r2
        have O1 := Lib.hid o1
        clear r1 r2 o1
        go_wp2_with fail
        refine (R1.out _ _ KI).mono ?_; rintro e w2 ⟨rfl, ho2, k2⟩
        have J2 := JI.only ho2 (by omega)
        have q2 : w2.cell? ⟨B, O + k * 3 + 2, none⟩ = some (.int .i64 a2) := (ho2.cell B _ lB (by omega)).trans x2
        have l2 : B < w2.heap.size := Nat.lt_of_lt_of_le lB ho2.size
        have HB2 : Below w.heap.size w w2 := HB.trans (ho2.below (Nat.le_refl _) HB.size)
        clear ho2
        go_wp2_with fail
        refine (R2.out _ _ J2).mono ?_; rintro e w3 ⟨rfl, ho3, k3⟩
        have K3 := k2.only ho3 (by omega)
        have J3 := k3
        have HB3 : Below w.heap.size w w3 := HB2.trans (ho3.below (by omega) HB2.size)
        clear ho3 k3 J2 k2 q2
        go_wp2
        go_region_held3 (fun w' => w'.cell? ⟨w.heap.size + 1, 2, none⟩ = some (.int .i64 l')) (first | exact J3.c2)
          (first | (go_at_call 18; first | (refine (slew_left _ _ _ _ _ K3).mono ?_; rintro e w' ⟨rfl, rfl⟩) | (refine (slew_left _ _ _ _ _ K3.drew).mono ?_; rintro e w' ⟨rfl, rfl⟩) | (refine (slew_left _ _ _ _ _ K3.drew.drew).mono ?_; rintro e w' ⟨rfl, rfl⟩)))
        go_wp2
        go_roundw
        case rel => exact ⟨k + 1, c', t', l', by omega, by go_num, O1.out, (by first | exact K3 | exact K3.drew | exact K3.drewN _), (by first | exact J3 | exact J3.drew | exact J3.drewN _), (by (repeat' (first | (with_reducible exact Below.refl _ _) | (with_reducible assumption) | (with_reducible refine Below.trans ?_ (Below.mono (by with_reducible assumption) ?_)) | (with_reducible refine Below.alloc ?_ ?_ _) | (with_reducible refine Below.setCell ?_ ?_ _) | (with_reducible refine below_drewN ?_ _) | (with_reducible refine Below.drew ?_) | go_size)))⟩
        case measure => simp [intOf]; omega
      · have d2 : decide (2 < a0) = true := by simp; omega
        have g1 : (a0 == 1) = false := by simp; omega
        have g3 : (a0 == 3) = true := by simp; omega
        clear e
        go_wp2_with fail
        refine (later_any cc a1 _ hcc).mono ?_; rintro e w' ⟨rfl, rfl⟩
        obtain ⟨v, c', t', l', o1, r1, r2⟩ := read_pair cc t l (laterV cc a1) HO.out lv
        have R1 := Lib.hid r1
        have R2 := Lib.hid r2
        have O1 := Lib.hid o1
        clear r1 r2 o1
        go_wp2_with fail
        refine (R1.out _ _ KI).mono ?_; rintro e w2 ⟨rfl, ho2, k2⟩
        have J2 := JI.only ho2 (by omega)
        have HB2 : Below w.heap.size w w2 := HB.trans (ho2.below (Nat.le_refl _) HB.size)
        clear ho2
        go_wp2_with fail
        refine (R2.out _ _ J2).mono ?_; rintro e w3 ⟨rfl, ho3, k3⟩
        have K3 := k2.only ho3 (by omega)
        have J3 := k3
        have HB3 : Below w.heap.size w w3 := HB2.trans (ho3.below (by omega) HB2.size)
        clear ho3 k3 J2 k2
        go_wp2
        go_region_held3 (fun w' => w'.cell? ⟨w.heap.size + 1, 2, none⟩ = some (.int .i64 l')) (first | exact J3.c2)
          (first | (go_at_call 18; first | (refine (slew_left _ _ _ _ _ K3).mono ?_; rintro e w' ⟨rfl, rfl⟩) | (refine (slew_left _ _ _ _ _ K3.drew).mono ?_; rintro e w' ⟨rfl, rfl⟩) | (refine (slew_left _ _ _ _ _ K3.drew.drew).mono ?_; rintro e w' ⟨rfl, rfl⟩)))
        go_wp2
        go_roundw
        case rel => exact ⟨k + 1, c', t', l', by omega, by go_num, O1.out, (by first | exact K3 | exact K3.drew | exact K3.drewN _), (by first | exact J3 | exact J3.drew | exact J3.drewN _), (by (repeat' (first | (with_reducible exact Below.refl _ _) | (with_reducible assumption) | (with_reducible refine Below.trans ?_ (Below.mono (by with_reducible assumption) ?_)) | (with_reducible refine Below.alloc ?_ ?_ _) | (with_reducible refine Below.setCell ?_ ?_ _) | (with_reducible refine below_drewN ?_ _) | (with_reducible refine Below.drew ?_) | go_size)))⟩
        case measure => simp [intOf]; omega
      · have d2 : decide (2 < a0) = true := by simp; omega
        have g1 : (a0 == 1) = false := by simp; omega
        have g3 : (a0 == 3) = false := by simp; omega
        have g2 : (a0 == 2) = false := by simp; omega
        have g4 : (a0 == 4) = true := by simp; omega
        clear e
        go_wp2_with fail
        refine (later_any cc a1 _ hcc).mono ?_; rintro e w' ⟨rfl, rfl⟩
        obtain ⟨s, r, c', t', l', o1, r1, r2⟩ := turn_pair cc t l (laterV cc a1) a2 HO.out lv
        have R1 := Lib.hid r1
        have R2 := Lib.hid r2
        have O1 := Lib.hid o1
        clear r1 r2 o1
        go_wp2_with fail
        refine (R1.out _ _ KI).mono ?_; rintro e w2 ⟨rfl, ho2, k2⟩
        have J2 := JI.only ho2 (by omega)
        have q2 : w2.cell? ⟨B, O + k * 3 + 2, none⟩ = some (.int .i64 a2) := (ho2.cell B _ lB (by omega)).trans x2
        have l2 : B < w2.heap.size := Nat.lt_of_lt_of_le lB ho2.size
        have HB2 : Below w.heap.size w w2 := HB.trans (ho2.below (Nat.le_refl _) HB.size)
        clear ho2
        go_wp2_with fail
        refine (R2.out _ _ J2).mono ?_; rintro e w3 ⟨rfl, ho3, k3⟩
        have K3 := k2.only ho3 (by omega)
        have J3 := k3
        have HB3 : Below w.heap.size w w3 := HB2.trans (ho3.below (by omega) HB2.size)
        clear ho3 k3 J2 k2 q2
        go_wp2
        go_region_held3 (fun w' => w'.cell? ⟨w.heap.size + 1, 2, none⟩ = some (.int .i64 l')) (first | exact J3.c2)
          (first | (go_at_call 18; first | (refine (slew_left _ _ _ _ _ K3).mono ?_; rintro e w' ⟨rfl, rfl⟩) | (refine (slew_left _ _ _ _ _ K3.drew).mono ?_; rintro e w' ⟨rfl, rfl⟩) | (refine (slew_left _ _ _ _ _ K3.drew.drew).mono ?_; rintro e w' ⟨rfl, rfl⟩)))
        go_wp2
        go_roundw
        case rel => exact ⟨k + 1, c', t', l', by omega, by go_num, O1.out, (by first | exact K3 | exact K3.drew | exact K3.drewN _), (by first | exact J3 | exact J3.drew | exact J3.drewN _), (by (repeat' (first | (with_reducible exact Below.refl _ _) | (with_reducible assumption) | (with_reducible refine Below.trans ?_ (Below.mono (by with_reducible assumption) ?_)) | (with_reducible refine Below.alloc ?_ ?_ _) | (with_reducible refine Below.setCell ?_ ?_ _) | (with_reducible refine below_drewN ?_ _) | (with_reducible refine Below.drew ?_) | go_size)))⟩
        case measure => simp [intOf]; omega
      · have d2 : decide (2 < a0) = false := by simp; omega
        have g1 : (a0 == 1) = false := by simp; omega
        have g3 : (a0 == 3) = false := by simp; omega
        have g2 : (a0 == 2) = false := by simp; omega
        have g4 : (a0 == 4) = false := by simp; omega
        clear e e1 e2
        go_wp2
        go_region_held3 (fun w' => w'.cell? ⟨w.heap.size + 1, 2, none⟩ = some (.int .i64 l)) (first | exact JI.c2)
          (first | (go_at_call 18; first | (refine (slew_left _ _ _ _ _ KI).mono ?_; rintro e w' ⟨rfl, rfl⟩) | (refine (slew_left _ _ _ _ _ KI.drew).mono ?_; rintro e w' ⟨rfl, rfl⟩) | (refine (slew_left _ _ _ _ _ KI.drew.drew).mono ?_; rintro e w' ⟨rfl, rfl⟩)))
        go_wp2
        go_roundw
        case rel => exact ⟨k + 1, cc, t, l, by omega, by go_num, HO.out, (by first | exact KI | exact KI.drew | exact KI.drewN _), (by first | exact JI | exact JI.drew | exact JI.drewN _), (by (repeat' (first | (with_reducible exact Below.refl _ _) | (with_reducible assumption) | (with_reducible refine Below.trans ?_ (Below.mono (by with_reducible assumption) ?_)) | (with_reducible refine Below.alloc ?_ ?_ _) | (with_reducible refine Below.setCell ?_ ?_ _) | (with_reducible refine below_drewN ?_ _) | (with_reducible refine Below.drew ?_) | go_size)))⟩
        case measure => simp [intOf]; omega
      · have d2 : decide (2 < a0) = true := by simp; omega
        have g1 : (a0 == 1) = false := by simp; omega
        have g3 : (a0 == 3) = false := by simp; omega
        have g2 : (a0 == 2) = false := by simp; omega
        have g4 : (a0 == 4) = false := by simp; omega
        clear e e1 e2
        go_wp2_with fail
        refine (later_any cc a1 _ hcc).mono ?_; rintro e w' ⟨rfl, rfl⟩
        go_wp2
        go_region_held3 (fun w' => w'.cell? ⟨w.heap.size + 1, 2, none⟩ = some (.int .i64 l)) (first | exact JI.c2)
          (first | (go_at_call 18; first | (refine (slew_left _ _ _ _ _ KI).mono ?_; rintro e w' ⟨rfl, rfl⟩) | (refine (slew_left _ _ _ _ _ KI.drew).mono ?_; rintro e w' ⟨rfl, rfl⟩) | (refine (slew_left _ _ _ _ _ KI.drew.drew).mono ?_; rintro e w' ⟨rfl, rfl⟩)))
        go_wp2
        go_roundw
        case rel => exact ⟨k + 1, cc, t, l, by omega, by go_num, HO.out, (by first | exact KI | exact KI.drew | exact KI.drewN _), (by first | exact JI | exact JI.drew | exact JI.drewN _), (by (repeat' (first | (with_reducible exact Below.refl _ _) | (with_reducible assumption) | (with_reducible refine Below.trans ?_ (Below.mono (by with_reducible assumption) ?_)) | (with_reducible refine Below.alloc ?_ ?_ _) | (with_reducible refine Below.setCell ?_ ?_ _) | (with_reducible refine below_drewN ?_ _) | (with_reducible refine Below.drew ?_) | go_size)))⟩
        case measure => simp [intOf]; omega
    · by_cases hkn : k = n
      · subst hkn
        clear hlt
        go_wp2
        go_region_held3 (fun w' => w'.cell? ⟨w.heap.size + 1, 0, none⟩ = some (.int .i64 cc) ∧ w'.cell? ⟨w.heap.size + 1, 1, none⟩ = some (.int .i64 t)) (first | exact ⟨JI.c0, JI.c1⟩ | exact ⟨J6.c0, J6.c1⟩)
          (first
            | (go_at_call 14; (first | (refine (slew_read_old _ cc t l cc _ KI (by omega)).mono ?_; rintro e w' ⟨rfl, rfl⟩) | (refine (slew_read_old _ cc t l cc _ KI.drew (by omega)).mono ?_; rintro e w' ⟨rfl, rfl⟩) | (refine (slew_read_old _ cc t l cc _ KI.drew.drew (by omega)).mono ?_; rintro e w' ⟨rfl, rfl⟩)))
            | (go_at_call 12; refine (known8 _).mono ?_; rintro e w6 ⟨rfl, hb6⟩; have hw6 : Below wr.heap.size wr w6 := Below.trans (by (repeat' (first | (with_reducible exact Below.refl _ _) | (with_reducible assumption) | (with_reducible refine Below.trans ?_ (Below.mono (by with_reducible assumption) ?_)) | (with_reducible refine Below.alloc ?_ ?_ _) | (with_reducible refine Below.setCell ?_ ?_ _) | (with_reducible refine below_drewN ?_ _) | (with_reducible refine Below.drew ?_) | go_size))) (hb6.mono (by simp [go_sem])); have J6 := JI.below hw6 lr))
        go_wp2
        go_ret
        go_light
        exact ⟨rfl, HB.trans (hw6.mono (by omega))⟩
      · have hk : (k : Int) < (n : Int) := by omega
        have h2' : (200 : Int) ≤ (k : Int) := by omega
        clear hlt hkn HZ
        go_wp2
        go_region_held3 (fun w' => w'.cell? ⟨w.heap.size + 1, 0, none⟩ = some (.int .i64 cc) ∧ w'.cell? ⟨w.heap.size + 1, 1, none⟩ = some (.int .i64 t)) (first | exact ⟨JI.c0, JI.c1⟩ | exact ⟨J6.c0, J6.c1⟩)
          (first
            | (go_at_call 14; (first | (refine (slew_read_old _ cc t l cc _ KI (by omega)).mono ?_; rintro e w' ⟨rfl, rfl⟩) | (refine (slew_read_old _ cc t l cc _ KI.drew (by omega)).mono ?_; rintro e w' ⟨rfl, rfl⟩) | (refine (slew_read_old _ cc t l cc _ KI.drew.drew (by omega)).mono ?_; rintro e w' ⟨rfl, rfl⟩)))
            | (go_at_call 12; refine (known8 _).mono ?_; rintro e w6 ⟨rfl, hb6⟩; have hw6 : Below wr.heap.size wr w6 := Below.trans (by (repeat' (first | (with_reducible exact Below.refl _ _) | (with_reducible assumption) | (with_reducible refine Below.trans ?_ (Below.mono (by with_reducible assumption) ?_)) | (with_reducible refine Below.alloc ?_ ?_ _) | (with_reducible refine Below.setCell ?_ ?_ _) | (with_reducible refine below_drewN ?_ _) | (with_reducible refine Below.drew ?_) | go_size))) (hb6.mono (by simp [go_sem])); have J6 := JI.below hw6 lr))
        go_wp2
        go_ret
        go_light
        exact ⟨rfl, HB.trans (hw6.mono (by omega))⟩

set_option maxRecDepth 100000 in
theorem slewPlays_lifted (os : Os) (started : os.Started) (H : Type) (enc : TypeId × Value → H) :
    ReturnsInHanded {} Try.checked os 3 .any (Rows.slewPlaysSpec.pre6 enc Try.prog Try.f3 Rows.slewPlaysRow.domain false) (Rows.slewPlaysSpec.post enc Try.prog Try.f3 false true false false) := by
  refine returnsInHanded_of_change_sized (C := Try.checked) law_own started (by kernel_rfl) Try.func3
    (ChangeSpec.witness6 (enc := enc) (C := Try.checked) false ⟨#[], #[.int .i64 0, .int .i64 0, .slice none 0 0], []⟩ 8 (by kernel_rfl) (by kernel_rfl) (by kernel_rfl) (by kernel_rfl)) ?_
  intro W base args ds gs before hval0 hW hcnd hsz0 _
  have hval : ∀ (j : Nat) t v, Try.f3.params[j]? = some t → args[j]? = some v → Value.okWide Try.prog W .any base t v := hval0
  have hsz : (DataW.weightsEach Try.prog (Try.f3.params.toList ++ Rows.slewPlaysSpec.plain.varTypes Try.prog) (ds ++ gs)).all (· ≤ reachBytes) = true := hsz0
  have hW' := hW
  obtain ⟨p, q, hA0, hV, rfl, hfz, hnd⟩ := hW
  have hA : DataW.TrodAll enc Try.prog W 0 (fun _ => true) true Try.f3.params.toList args.toList ds p := hA0
  rw [Try.params3] at hA hval hsz
  have hsame : (Rows.slewPlaysSpec.fn H (ds ++ gs)).results = [.lit (.bool true)] ∧ (Rows.slewPlaysSpec.fn H (ds ++ gs)).args = ds ∧ (Rows.slewPlaysSpec.fn H (ds ++ gs)).vars = [] → ∀ W', Below W.heap.size W W' → Rows.slewPlaysSpec.post enc Try.prog Try.f3 false true false false W args (.bool true) W' :=
    fun h W' hb => law_post (tb := 4) hW' law_laid (by kernel_rfl) rfl Try.underlying4 h.1 h.2.1 rfl h.2.2 hb
  obtain ⟨v0, vs0, d0, ds0, p0, q0, hargs, rfl, rfl, h0, r0⟩ := trodAll_cons hA
  obtain ⟨v1, vs1, d1, ds1, p1, q1, rfl, rfl, rfl, h1, r1⟩ := trodAll_cons r0
  obtain ⟨v2, vs2, d2, ds2, p2, q2, rfl, rfl, rfl, h2, r2⟩ := trodAll_cons r1
  obtain ⟨rfl, rfl, rfl⟩ := trodAll_nil r2
  obtain rfl : args = #[v0, v1, v2] := by cases args; simp_all
  obtain ⟨rfl, rfl⟩ := trodVars_none hV
  have hpost := hsame ⟨rfl, rfl, rfl⟩
  clear hsame hA0 hval0 hsz0
  obtain ⟨a0, rfl, rfl, rfl, wf0⟩ := open_int Try.underlying3 (hval 0 3 v0 rfl rfl) h0
  obtain ⟨a1, rfl, rfl, rfl, wf1⟩ := open_int Try.underlying3 (hval 1 3 v1 rfl rfl) h1
  obtain ⟨A, n, c, z, rfl, hn, hz⟩ := open_flat_slice (m := 3) Try.underlying22 (by kernel_rfl) (by kernel_rfl) (by omega) (hval 2 22 v2 rfl rfl) h2
  by_cases h : a0 < 0 ∨ (0 ≤ a0 ∧ a1 < 0) ∨ (0 ≤ a0 ∧ 0 ≤ a1 ∧ 4611686018427387904 < a1)
  · exact (plays_bad a0 a1 A n c W h).mono fun e W' ⟨he, hb⟩ => ⟨_, he, hpost W' hb⟩
  · exact (plays_in a0 a1 A n c z W hz hn (by omega) (wf_bd wf0).2 (by omega) (by omega)).mono fun e W' ⟨he, hb⟩ => ⟨_, he, hpost W' hb⟩
theorem slewPlays_holds : Rows.SlewPlaysSaid :=
  OpenClaim.holds_of_wide 3 Try.f3 rfl rfl rfl rfl rfl rfl rfl ⟨rfl, rfl, rfl, rfl, rfl⟩ rfl rfl rfl rfl rfl (by kernel_rfl) Try.func3 (by kernel_rfl)
    (of_decide_eq_true (by kernel_rfl)) (by unfold Func.isWrapper; first | (rw [if_pos (by decide +kernel)]; kernel_rfl) | (rw [if_neg (by decide +kernel)]; exact ⟨rfl, rfl⟩))
    (fun os started H enc _ => slewPlays_lifted os started H enc)
end Go.Proofs.Ytblkmakfgehghaa
