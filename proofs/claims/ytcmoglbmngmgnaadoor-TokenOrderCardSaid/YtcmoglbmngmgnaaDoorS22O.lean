/- Stage 22: TokenOrder: the law's walk (written by gen/tokord.py). -/
import Derived.Test.YtcmoglbmngmgnaaDoorTokOrd
import Derived.Test.YtcmoglbmngmgnaaDoorRef10Cmp
import Derived.BigGuard
import Derived.BigGuardPart
import Derived.BigCall
set_option linter.unusedSimpArgs false
set_option linter.unusedVariables false
namespace Go.Proofs.YtcmoglbmngmgnaaDoor
open Go.RowKit Go.Sort Go.Op

theorem tok_print_no (m c : Int) (w : World) (h : isStampB m c = false) :
    Calls Tryd.prog 8 #[.agg #[.int .i64 m, .int .i64 c]] w fun e w' => e = .returned (.tuple #[.string ⟨#[]⟩, .int .i64 1]) ∧ Below w.heap.size w w' := by
  have HB0 : Hid (Below w.heap.size w (w.alloc (.cells #[.int .i64 m, .int .i64 c] 27))) := Lib.hid (by (repeat' (first | (with_reducible exact Below.refl _ _) | (with_reducible assumption) | (with_reducible refine Below.trans ?_ (Below.mono (by with_reducible assumption) ?_)) | (with_reducible refine Below.alloc ?_ ?_ _) | (with_reducible refine Below.setCell ?_ ?_ _) | (with_reducible refine below_drewN ?_ _) | (with_reducible refine Below.drew ?_) | go_size)))
  have HPK := Lib.hid (hlc_pack_no m c (w.alloc (.cells #[.int .i64 m, .int .i64 c] 27)) h)
  clear h
  go_enter Tryd.func8, Tryd.ntmps8
  go_wp2_with fail
  refine HPK.out.mono ?_; rintro e w1 ⟨rfl, k1⟩
  have HB1 := Lib.hid (HB0.out.trans (k1.mono HB0.out.size))
  clear k1 HPK HB0
  go_wp2
  go_ret2
  exact ⟨rfl, HB1.out⟩
set_option maxRecDepth 100000 in
set_option maxHeartbeats 4000000 in
theorem order_nn (m c p q : Int) (w : World) (ht : Tb2 w) (hA : isStampB m c = false) (hB : isStampB p q = false) :
    Calls Tryd.prog 7 #[.agg #[.int .i64 m, .int .i64 c], .agg #[.int .i64 p, .int .i64 q]] w fun e w' => e = .returned (.bool true) ∧ Below w.heap.size w w' := by
  have HT := Lib.hid (fun (W : World) (k : Below w.heap.size w W) => ht.below k)
  have HB0 : Hid (Below w.heap.size w ((w.alloc (.cells #[.int .i64 m, .int .i64 c] 23)).alloc (.cells #[.int .i64 p, .int .i64 q] 23))) := Lib.hid (by (repeat' (first | (with_reducible exact Below.refl _ _) | (with_reducible assumption) | (with_reducible refine Below.trans ?_ (Below.mono (by with_reducible assumption) ?_)) | (with_reducible refine Below.alloc ?_ ?_ _) | (with_reducible refine Below.setCell ?_ ?_ _) | (with_reducible refine below_drewN ?_ _) | (with_reducible refine Below.drew ?_) | go_size)))
  have hz0 : ((w.alloc (.cells #[.int .i64 m, .int .i64 c] 23)).alloc (.cells #[.int .i64 p, .int .i64 q] 23)).heap.size = w.heap.size + 1 + 1 := by simp [go_sem]
  have HK : Hid (∀ W, Below ((w.alloc (.cells #[.int .i64 m, .int .i64 c] 23)).alloc (.cells #[.int .i64 p, .int .i64 q] 23)).heap.size ((w.alloc (.cells #[.int .i64 m, .int .i64 c] 23)).alloc (.cells #[.int .i64 p, .int .i64 q] 23)) W → W.cell? ⟨w.heap.size, 0, none⟩ = some (.int .i64 m) ∧ W.cell? ⟨w.heap.size, 1, none⟩ = some (.int .i64 c) ∧ W.cell? ⟨w.heap.size + 1, 0, none⟩ = some (.int .i64 p) ∧ W.cell? ⟨w.heap.size + 1, 1, none⟩ = some (.int .i64 q)) := Lib.hid (fun W k => by
    obtain ⟨hc, _⟩ := bcell k
    refine ⟨?_, ?_, ?_, ?_⟩ <;> (rw [hc _ _ (by rw [hz0]; omega)]; simp [go_sem]))
  have HPA : Hid (∀ W, Below w.heap.size w W → Calls Tryd.prog 8 #[.agg #[.int .i64 m, .int .i64 c]] W fun e w' => e = .returned (.tuple #[.string ⟨#[]⟩, .int .i64 1]) ∧ Below W.heap.size W w') := Lib.hid (fun W _ => tok_print_no m c W hA)
  have HIA : Hid (∀ W, Calls Tryd.prog 13 #[.agg #[.int .i64 m, .int .i64 c]] W fun e w' => e = .returned (.bool false) ∧ Below W.heap.size W w') := Lib.hid (fun W => by have := ref10_is m c W; rwa [hA] at this)
  have HPB : Hid (∀ W, Below w.heap.size w W → Calls Tryd.prog 8 #[.agg #[.int .i64 p, .int .i64 q]] W fun e w' => e = .returned (.tuple #[.string ⟨#[]⟩, .int .i64 1]) ∧ Below W.heap.size W w') := Lib.hid (fun W _ => tok_print_no p q W hB)
  have HIB : Hid (∀ W, Calls Tryd.prog 13 #[.agg #[.int .i64 p, .int .i64 q]] W fun e w' => e = .returned (.bool false) ∧ Below W.heap.size W w') := Lib.hid (fun W => by have := ref10_is p q W; rwa [hB] at this)
  clear ht hA hB hz0
  go_enter Tryd.func7, Tryd.ntmps7
  go_wp2_with fail
  generalize ((w.alloc (.cells #[.int .i64 m, .int .i64 c] 23)).alloc (.cells #[.int .i64 p, .int .i64 q] 23)) = W0 at *
  refine (HPA.out W0 HB0.out).mono ?_; rintro e w1 ⟨rfl, k1⟩
  have B1 := k1
  obtain ⟨v0, v1, v2, v3⟩ := HK.out _ B1
  go_wp2_with fail
  refine (HPB.out w1 (HB0.out.trans (B1.mono HB0.out.size))).mono ?_; rintro e w2 ⟨rfl, k2⟩
  have B2 := B1.trans (k2.mono B1.size)
  have HB2 := Lib.hid (HB0.out.trans (B2.mono HB0.out.size))
  clear k1 k2 v0 v1 v2 v3 B1
  obtain ⟨v0, v1, v2, v3⟩ := HK.out _ B2
  go_wp2_with fail
  refine (HIA.out _).mono ?_; rintro e w3 ⟨rfl, k3⟩
  have B3 := B2.trans (k3.mono B2.size)
  clear v0 v1 v2 v3 B2 k3
  obtain ⟨v0, v1, v2, v3⟩ := HK.out _ B3
  go_wp2_with fail
  refine (HIB.out _).mono ?_; rintro e w4 ⟨rfl, k4⟩
  have B4 := B3.trans (k4.mono B3.size)
  have HB4 := Lib.hid (HB0.out.trans (B4.mono HB0.out.size))
  clear v0 v1 v2 v3 B3 k4
  obtain ⟨v0, v1, v2, v3⟩ := HK.out _ B4
  go_wp2_with fail
  refine (tok_known _ (HT.out _ HB4.out)).mono ?_; rintro e w5 ⟨rfl, k5⟩
  have B5 := B4.trans (k5.mono B4.size)
  have HBF := Lib.hid (HB0.out.trans (B5.mono HB0.out.size))
  go_wp2
  go_ret
  exact ⟨rfl, HBF.out⟩
set_option maxRecDepth 100000 in
set_option maxHeartbeats 4000000 in
theorem order_ny (m c p q : Int) (w : World) (ht : Tb2 w) (hA : isStampB m c = false) (hB : isStampB p q = true) :
    Calls Tryd.prog 7 #[.agg #[.int .i64 m, .int .i64 c], .agg #[.int .i64 p, .int .i64 q]] w fun e w' => e = .returned (.bool true) ∧ Below w.heap.size w w' := by
  have HT := Lib.hid (fun (W : World) (k : Below w.heap.size w W) => ht.below k)
  have HB0 : Hid (Below w.heap.size w ((w.alloc (.cells #[.int .i64 m, .int .i64 c] 23)).alloc (.cells #[.int .i64 p, .int .i64 q] 23))) := Lib.hid (by (repeat' (first | (with_reducible exact Below.refl _ _) | (with_reducible assumption) | (with_reducible refine Below.trans ?_ (Below.mono (by with_reducible assumption) ?_)) | (with_reducible refine Below.alloc ?_ ?_ _) | (with_reducible refine Below.setCell ?_ ?_ _) | (with_reducible refine below_drewN ?_ _) | (with_reducible refine Below.drew ?_) | go_size)))
  have hz0 : ((w.alloc (.cells #[.int .i64 m, .int .i64 c] 23)).alloc (.cells #[.int .i64 p, .int .i64 q] 23)).heap.size = w.heap.size + 1 + 1 := by simp [go_sem]
  have HK : Hid (∀ W, Below ((w.alloc (.cells #[.int .i64 m, .int .i64 c] 23)).alloc (.cells #[.int .i64 p, .int .i64 q] 23)).heap.size ((w.alloc (.cells #[.int .i64 m, .int .i64 c] 23)).alloc (.cells #[.int .i64 p, .int .i64 q] 23)) W → W.cell? ⟨w.heap.size, 0, none⟩ = some (.int .i64 m) ∧ W.cell? ⟨w.heap.size, 1, none⟩ = some (.int .i64 c) ∧ W.cell? ⟨w.heap.size + 1, 0, none⟩ = some (.int .i64 p) ∧ W.cell? ⟨w.heap.size + 1, 1, none⟩ = some (.int .i64 q)) := Lib.hid (fun W k => by
    obtain ⟨hc, _⟩ := bcell k
    refine ⟨?_, ?_, ?_, ?_⟩ <;> (rw [hc _ _ (by rw [hz0]; omega)]; simp [go_sem]))
  have HPA : Hid (∀ W, Below w.heap.size w W → Calls Tryd.prog 8 #[.agg #[.int .i64 m, .int .i64 c]] W fun e w' => e = .returned (.tuple #[.string ⟨#[]⟩, .int .i64 1]) ∧ Below W.heap.size W w') := Lib.hid (fun W _ => tok_print_no m c W hA)
  have HIA : Hid (∀ W, Calls Tryd.prog 13 #[.agg #[.int .i64 m, .int .i64 c]] W fun e w' => e = .returned (.bool false) ∧ Below W.heap.size W w') := Lib.hid (fun W => by have := ref10_is m c W; rwa [hA] at this)
  obtain ⟨Y, hXB⟩ : ∃ X : Nat, p * 65536 + q = (X : Int) := ⟨(p * 65536 + q).toNat, by have := stamp_bd hB; omega⟩
  have HPB : Hid (∀ W, Below w.heap.size w W → Calls Tryd.prog 8 #[.agg #[.int .i64 p, .int .i64 q]] W fun e w' => (e = .returned (.tuple #[.string (tokT Y (sumH Y)), .int .i64 0]) ∧ sumH Y ≤ 4294967295) ∧ Below W.heap.size W w') := Lib.hid (fun W k => tok_print_val p q Y W (HT.out W k) hB hXB)
  have HIB : Hid (∀ W, Calls Tryd.prog 13 #[.agg #[.int .i64 p, .int .i64 q]] W fun e w' => e = .returned (.bool true) ∧ Below W.heap.size W w') := Lib.hid (fun W => by have := ref10_is p q W; rwa [hB] at this)
  clear ht hA hB hz0
  go_enter Tryd.func7, Tryd.ntmps7
  go_wp2_with fail
  generalize ((w.alloc (.cells #[.int .i64 m, .int .i64 c] 23)).alloc (.cells #[.int .i64 p, .int .i64 q] 23)) = W0 at *
  refine (HPA.out W0 HB0.out).mono ?_; rintro e w1 ⟨rfl, k1⟩
  have B1 := k1
  obtain ⟨v0, v1, v2, v3⟩ := HK.out _ B1
  go_wp2_with fail
  refine (HPB.out w1 (HB0.out.trans (B1.mono HB0.out.size))).mono ?_; rintro e w2 ⟨⟨rfl, lB⟩, k2⟩
  have B2 := B1.trans (k2.mono B1.size)
  have HB2 := Lib.hid (HB0.out.trans (B2.mono HB0.out.size))
  clear k1 k2 v0 v1 v2 v3 B1
  obtain ⟨v0, v1, v2, v3⟩ := HK.out _ B2
  go_wp2_with fail
  refine (HIA.out _).mono ?_; rintro e w3 ⟨rfl, k3⟩
  have B3 := B2.trans (k3.mono B2.size)
  clear v0 v1 v2 v3 B2 k3
  obtain ⟨v0, v1, v2, v3⟩ := HK.out _ B3
  go_wp2_with fail
  refine (HIB.out _).mono ?_; rintro e w4 ⟨rfl, k4⟩
  have B4 := B3.trans (k4.mono B3.size)
  have HB4 := Lib.hid (HB0.out.trans (B4.mono HB0.out.size))
  clear v0 v1 v2 v3 B3 k4
  obtain ⟨v0, v1, v2, v3⟩ := HK.out _ B4
  go_wp2_with fail
  refine (tok_known _ (HT.out _ HB4.out)).mono ?_; rintro e w5 ⟨rfl, k5⟩
  have B5 := B4.trans (k5.mono B4.size)
  have HBF := Lib.hid (HB0.out.trans (B5.mono HB0.out.size))
  go_wp2
  go_ret
  exact ⟨rfl, HBF.out⟩
set_option maxRecDepth 100000 in
set_option maxHeartbeats 4000000 in
theorem order_yn (m c p q : Int) (w : World) (ht : Tb2 w) (hA : isStampB m c = true) (hB : isStampB p q = false) :
    Calls Tryd.prog 7 #[.agg #[.int .i64 m, .int .i64 c], .agg #[.int .i64 p, .int .i64 q]] w fun e w' => e = .returned (.bool true) ∧ Below w.heap.size w w' := by
  have HT := Lib.hid (fun (W : World) (k : Below w.heap.size w W) => ht.below k)
  have HB0 : Hid (Below w.heap.size w ((w.alloc (.cells #[.int .i64 m, .int .i64 c] 23)).alloc (.cells #[.int .i64 p, .int .i64 q] 23))) := Lib.hid (by (repeat' (first | (with_reducible exact Below.refl _ _) | (with_reducible assumption) | (with_reducible refine Below.trans ?_ (Below.mono (by with_reducible assumption) ?_)) | (with_reducible refine Below.alloc ?_ ?_ _) | (with_reducible refine Below.setCell ?_ ?_ _) | (with_reducible refine below_drewN ?_ _) | (with_reducible refine Below.drew ?_) | go_size)))
  have hz0 : ((w.alloc (.cells #[.int .i64 m, .int .i64 c] 23)).alloc (.cells #[.int .i64 p, .int .i64 q] 23)).heap.size = w.heap.size + 1 + 1 := by simp [go_sem]
  have HK : Hid (∀ W, Below ((w.alloc (.cells #[.int .i64 m, .int .i64 c] 23)).alloc (.cells #[.int .i64 p, .int .i64 q] 23)).heap.size ((w.alloc (.cells #[.int .i64 m, .int .i64 c] 23)).alloc (.cells #[.int .i64 p, .int .i64 q] 23)) W → W.cell? ⟨w.heap.size, 0, none⟩ = some (.int .i64 m) ∧ W.cell? ⟨w.heap.size, 1, none⟩ = some (.int .i64 c) ∧ W.cell? ⟨w.heap.size + 1, 0, none⟩ = some (.int .i64 p) ∧ W.cell? ⟨w.heap.size + 1, 1, none⟩ = some (.int .i64 q)) := Lib.hid (fun W k => by
    obtain ⟨hc, _⟩ := bcell k
    refine ⟨?_, ?_, ?_, ?_⟩ <;> (rw [hc _ _ (by rw [hz0]; omega)]; simp [go_sem]))
  obtain ⟨X, hXA⟩ : ∃ X : Nat, m * 65536 + c = (X : Int) := ⟨(m * 65536 + c).toNat, by have := stamp_bd hA; omega⟩
  have HPA : Hid (∀ W, Below w.heap.size w W → Calls Tryd.prog 8 #[.agg #[.int .i64 m, .int .i64 c]] W fun e w' => (e = .returned (.tuple #[.string (tokT X (sumH X)), .int .i64 0]) ∧ sumH X ≤ 4294967295) ∧ Below W.heap.size W w') := Lib.hid (fun W k => tok_print_val m c X W (HT.out W k) hA hXA)
  have HIA : Hid (∀ W, Calls Tryd.prog 13 #[.agg #[.int .i64 m, .int .i64 c]] W fun e w' => e = .returned (.bool true) ∧ Below W.heap.size W w') := Lib.hid (fun W => by have := ref10_is m c W; rwa [hA] at this)
  have HPB : Hid (∀ W, Below w.heap.size w W → Calls Tryd.prog 8 #[.agg #[.int .i64 p, .int .i64 q]] W fun e w' => e = .returned (.tuple #[.string ⟨#[]⟩, .int .i64 1]) ∧ Below W.heap.size W w') := Lib.hid (fun W _ => tok_print_no p q W hB)
  have HIB : Hid (∀ W, Calls Tryd.prog 13 #[.agg #[.int .i64 p, .int .i64 q]] W fun e w' => e = .returned (.bool false) ∧ Below W.heap.size W w') := Lib.hid (fun W => by have := ref10_is p q W; rwa [hB] at this)
  clear ht hA hB hz0
  go_enter Tryd.func7, Tryd.ntmps7
  go_wp2_with fail
  generalize ((w.alloc (.cells #[.int .i64 m, .int .i64 c] 23)).alloc (.cells #[.int .i64 p, .int .i64 q] 23)) = W0 at *
  refine (HPA.out W0 HB0.out).mono ?_; rintro e w1 ⟨⟨rfl, lA⟩, k1⟩
  have B1 := k1
  obtain ⟨v0, v1, v2, v3⟩ := HK.out _ B1
  go_wp2_with fail
  refine (HPB.out w1 (HB0.out.trans (B1.mono HB0.out.size))).mono ?_; rintro e w2 ⟨rfl, k2⟩
  have B2 := B1.trans (k2.mono B1.size)
  have HB2 := Lib.hid (HB0.out.trans (B2.mono HB0.out.size))
  clear k1 k2 v0 v1 v2 v3 B1
  obtain ⟨v0, v1, v2, v3⟩ := HK.out _ B2
  go_wp2_with fail
  refine (HIA.out _).mono ?_; rintro e w3 ⟨rfl, k3⟩
  have B3 := B2.trans (k3.mono B2.size)
  clear v0 v1 v2 v3 B2 k3
  obtain ⟨v0, v1, v2, v3⟩ := HK.out _ B3
  go_wp2_with fail
  refine (HIB.out _).mono ?_; rintro e w4 ⟨rfl, k4⟩
  have B4 := B3.trans (k4.mono B3.size)
  have HB4 := Lib.hid (HB0.out.trans (B4.mono HB0.out.size))
  clear v0 v1 v2 v3 B3 k4
  obtain ⟨v0, v1, v2, v3⟩ := HK.out _ B4
  go_wp2_with fail
  refine (tok_known _ (HT.out _ HB4.out)).mono ?_; rintro e w5 ⟨rfl, k5⟩
  have B5 := B4.trans (k5.mono B4.size)
  have HBF := Lib.hid (HB0.out.trans (B5.mono HB0.out.size))
  go_wp2
  go_ret
  exact ⟨rfl, HBF.out⟩
set_option maxRecDepth 100000 in
set_option maxHeartbeats 4000000 in
theorem order_yy (m c p q : Int) (w : World) (ht : Tb2 w) (hA : isStampB m c = true) (hB : isStampB p q = true) :
    Calls Tryd.prog 7 #[.agg #[.int .i64 m, .int .i64 c], .agg #[.int .i64 p, .int .i64 q]] w fun e w' => e = .returned (.bool true) ∧ Below w.heap.size w w' := by
  have HT := Lib.hid (fun (W : World) (k : Below w.heap.size w W) => ht.below k)
  have HB0 : Hid (Below w.heap.size w ((w.alloc (.cells #[.int .i64 m, .int .i64 c] 23)).alloc (.cells #[.int .i64 p, .int .i64 q] 23))) := Lib.hid (by (repeat' (first | (with_reducible exact Below.refl _ _) | (with_reducible assumption) | (with_reducible refine Below.trans ?_ (Below.mono (by with_reducible assumption) ?_)) | (with_reducible refine Below.alloc ?_ ?_ _) | (with_reducible refine Below.setCell ?_ ?_ _) | (with_reducible refine below_drewN ?_ _) | (with_reducible refine Below.drew ?_) | go_size)))
  have hz0 : ((w.alloc (.cells #[.int .i64 m, .int .i64 c] 23)).alloc (.cells #[.int .i64 p, .int .i64 q] 23)).heap.size = w.heap.size + 1 + 1 := by simp [go_sem]
  have HK : Hid (∀ W, Below ((w.alloc (.cells #[.int .i64 m, .int .i64 c] 23)).alloc (.cells #[.int .i64 p, .int .i64 q] 23)).heap.size ((w.alloc (.cells #[.int .i64 m, .int .i64 c] 23)).alloc (.cells #[.int .i64 p, .int .i64 q] 23)) W → W.cell? ⟨w.heap.size, 0, none⟩ = some (.int .i64 m) ∧ W.cell? ⟨w.heap.size, 1, none⟩ = some (.int .i64 c) ∧ W.cell? ⟨w.heap.size + 1, 0, none⟩ = some (.int .i64 p) ∧ W.cell? ⟨w.heap.size + 1, 1, none⟩ = some (.int .i64 q)) := Lib.hid (fun W k => by
    obtain ⟨hc, _⟩ := bcell k
    refine ⟨?_, ?_, ?_, ?_⟩ <;> (rw [hc _ _ (by rw [hz0]; omega)]; simp [go_sem]))
  obtain ⟨X, hXA⟩ : ∃ X : Nat, m * 65536 + c = (X : Int) := ⟨(m * 65536 + c).toNat, by have := stamp_bd hA; omega⟩
  have HPA : Hid (∀ W, Below w.heap.size w W → Calls Tryd.prog 8 #[.agg #[.int .i64 m, .int .i64 c]] W fun e w' => (e = .returned (.tuple #[.string (tokT X (sumH X)), .int .i64 0]) ∧ sumH X ≤ 4294967295) ∧ Below W.heap.size W w') := Lib.hid (fun W k => tok_print_val m c X W (HT.out W k) hA hXA)
  have HIA : Hid (∀ W, Calls Tryd.prog 13 #[.agg #[.int .i64 m, .int .i64 c]] W fun e w' => e = .returned (.bool true) ∧ Below W.heap.size W w') := Lib.hid (fun W => by have := ref10_is m c W; rwa [hA] at this)
  obtain ⟨Y, hXB⟩ : ∃ X : Nat, p * 65536 + q = (X : Int) := ⟨(p * 65536 + q).toNat, by have := stamp_bd hB; omega⟩
  have HPB : Hid (∀ W, Below w.heap.size w W → Calls Tryd.prog 8 #[.agg #[.int .i64 p, .int .i64 q]] W fun e w' => (e = .returned (.tuple #[.string (tokT Y (sumH Y)), .int .i64 0]) ∧ sumH Y ≤ 4294967295) ∧ Below W.heap.size W w') := Lib.hid (fun W k => tok_print_val p q Y W (HT.out W k) hB hXB)
  have HIB : Hid (∀ W, Calls Tryd.prog 13 #[.agg #[.int .i64 p, .int .i64 q]] W fun e w' => e = .returned (.bool true) ∧ Below W.heap.size W w') := Lib.hid (fun W => by have := ref10_is p q W; rwa [hB] at this)
  have HC : Hid (∀ W, Calls Tryd.prog 15 #[.agg #[.int .i64 m, .int .i64 c], .agg #[.int .i64 p, .int .i64 q]] W fun e w' => e = .returned (.int .i64 (cmp2 m c p q)) ∧ Below W.heap.size W w') := Lib.hid (fun W => ref10_compare m c p q W)
  have HL : Hid (sumH X ≤ 4294967295 → sumH Y ≤ 4294967295 → bytesLess (tokT X (sumH X)).toList (tokT Y (sumH Y)).toList = decide (cmp2 m c p q < 0) ∧ ((tokT X (sumH X)).toList == (tokT Y (sumH Y)).toList) = (cmp2 m c p q == 0)) := Lib.hid (fun hx hy => by
    obtain ⟨a0, a1, a2, a3⟩ := stamp_bd hA
    obtain ⟨b0, b1, b2, b3⟩ := stamp_bd hB
    have p16 : (16 : Nat) ^ 16 = 18446744073709551616 := by decide
    have p8 : (16 : Nat) ^ 8 = 4294967296 := by decide
    obtain ⟨e1, e2⟩ := tok_less X Y (sumH X) (sumH Y) (by rw [p16]; omega) (by rw [p16]; omega) (by rw [p8]; omega) (by rw [p8]; omega) (fun h => by rw [h])
    rw [Lib.toList_data, Lib.toList_data, e1, e2]
    clear e1 e2
    constructor
    · rw [Bool.eq_iff_iff]
      simp only [decide_eq_true_eq]
      unfold cmp2 or2 cmp1
      split <;> split <;> (try split) <;> (try split) <;> omega
    · rw [Bool.eq_iff_iff]
      simp only [decide_eq_true_eq, beq_iff_eq]
      unfold cmp2 or2 cmp1
      split <;> split <;> (try split) <;> (try split) <;> omega)
  clear ht hA hB hz0
  go_enter Tryd.func7, Tryd.ntmps7
  go_wp2_with fail
  generalize ((w.alloc (.cells #[.int .i64 m, .int .i64 c] 23)).alloc (.cells #[.int .i64 p, .int .i64 q] 23)) = W0 at *
  refine (HPA.out W0 HB0.out).mono ?_; rintro e w1 ⟨⟨rfl, lA⟩, k1⟩
  have B1 := k1
  obtain ⟨v0, v1, v2, v3⟩ := HK.out _ B1
  go_wp2_with fail
  refine (HPB.out w1 (HB0.out.trans (B1.mono HB0.out.size))).mono ?_; rintro e w2 ⟨⟨rfl, lB⟩, k2⟩
  have B2 := B1.trans (k2.mono B1.size)
  have HB2 := Lib.hid (HB0.out.trans (B2.mono HB0.out.size))
  clear k1 k2 v0 v1 v2 v3 B1
  obtain ⟨t1, t2⟩ := HL.out lA lB
  obtain ⟨v0, v1, v2, v3⟩ := HK.out _ B2
  clear lA lB HL
  generalize (tokT X (sumH X)) = SA at *
  generalize (tokT Y (sumH Y)) = SB at *
  generalize cmp2 m c p q = cm at *
  go_wp2_with fail
  refine (HC.out _).mono ?_; rintro e w3 ⟨rfl, k3⟩
  have HB3 := Lib.hid (HB2.out.trans (k3.mono HB2.out.size))
  clear k3 B2
  rcases Int.lt_trichotomy cm 0 with hcm | hcm | hcm
  all_goals
    have n1 : decide (cm < 0) = decide (cm < 0) := rfl
    go_wp2_with ((go_at_call 10; refine (tok_known _ (HT.out _ HB3.out)).mono ?_; rintro e w4 ⟨rfl, k4⟩; have HB4 := Lib.hid (HB3.out.trans (k4.mono HB3.out.size))))
    go_ret
    exact ⟨rfl, HB4.out⟩
end Go.Proofs.YtcmoglbmngmgnaaDoor
