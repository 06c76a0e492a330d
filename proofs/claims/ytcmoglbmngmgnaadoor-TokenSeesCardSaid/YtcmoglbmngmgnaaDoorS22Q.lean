/- Stage 22: TokenParses and TokenPrints: the laws' walks. -/
import Derived.Test.YtcmoglbmngmgnaaDoorTokRPar
import Derived.BigGuard
import Derived.BigGuardPart
import Derived.BigCall
set_option linter.unusedSimpArgs false
set_option linter.unusedVariables false
namespace Go.Proofs.YtcmoglbmngmgnaaDoor
open Go.RowKit Go.Sort Go.Op

theorem tokR_shape (s : ByteArray) : ∃ a b k : Int, tokR s = .returned (.tuple #[.agg #[.int .i64 a, .int .i64 b], .int .i64 k]) := by
  unfold tokR
  split
  · exact ⟨_, _, _, rfl⟩
  · exact ⟨_, _, _, rfl⟩
set_option maxRecDepth 100000 in
set_option maxHeartbeats 4000000 in
theorem parses_walk (s : ByteArray) (w : World) (ht : Tb2 w) (hv : EvAt w) (hs : 1 < w.heap.size) :
    Calls Tryd.prog 4 #[.string s] w fun e w' => e = .returned (.bool true) ∧ Below w.heap.size w w' := by
  by_cases hlong : 1000 < s.size
  · have h1 : (1000 : Int) < (s.size : Int) := by omega
    clear ht hv hs
    go_enter Tryd.func4, Tryd.ntmps4
    go_wp2
    go_ret
    exact ⟨rfl, Below.refl _ _⟩
  · have h1 : ¬ (1000 : Int) < (s.size : Int) := by omega
    have HT := Lib.hid (fun (W : World) (k : Below w.heap.size w W) => ht.below k)
    have HA := Lib.hid (tok_parse s w ht hv hs)
    have HC := Lib.hid (fun W => ref_parse s W)
    obtain ⟨a, b, k, hR⟩ := tokR_shape s
    rw [hR] at HA HC
    clear hR ht hv hs hlong
    go_enter Tryd.func4, Tryd.ntmps4
    go_wp2_with fail
    refine HA.out.mono ?_; rintro e w1 ⟨rfl, k1⟩
    have HB1 := Lib.hid k1
    have HB2 : Hid (Below w.heap.size w (w1.alloc (.cells #[.int .i64 a, .int .i64 b] 27))) := Lib.hid (k1.alloc k1.size _)
    have hz1 := k1.size
    clear k1 HA
    go_wp2_with fail
    refine (HC.out _).mono ?_; rintro e w2 ⟨rfl, k2⟩
    have HB3 := Lib.hid (HB2.out.trans (k2.mono HB2.out.size))
    obtain ⟨hc2, hf2⟩ := bcell k2
    have d0 : w2.cell? ⟨w1.heap.size, 0, none⟩ = some (.int .i64 a) := by rw [hc2 _ _ (by simp)]; simp
    have d1 : w2.cell? ⟨w1.heap.size, 1, none⟩ = some (.int .i64 b) := by rw [hc2 _ _ (by simp)]; simp
    have hz2 := k2.size
    simp only [World.size_alloc] at hz2
    have HB4 : Hid (Below w.heap.size w (w2.alloc (.cells #[.int .i64 a, .int .i64 b] 30))) := Lib.hid (HB3.out.alloc HB3.out.size _)
    have HKN := Lib.hid (tok_known _ (HT.out _ HB4.out))
    have hlt : w1.heap.size < w2.heap.size := by omega
    clear k2 hc2 hf2 HC HB1 HB2
    go_wp2_with fail
    refine HKN.out.mono ?_; rintro e w3 ⟨rfl, k3⟩
    have HB5 := Lib.hid (HB4.out.trans (k3.mono HB4.out.size))
    clear k3
    go_wp2
    go_ret
    exact ⟨rfl, HB5.out⟩
theorem tok_print_bad (m c : Int) (w : World) (h : isStampB m c = false) :
    Calls Tryd.prog 8 #[.agg #[.int .i64 m, .int .i64 c]] w fun e w' => e = .returned (.tuple #[.string ⟨#[]⟩, .int .i64 1]) ∧ Below w.heap.size w w' := by
  have HB0 : Hid (Below w.heap.size w (w.alloc (.cells #[.int .i64 m, .int .i64 c] 27))) := Lib.hid (by (repeat' (first | (with_reducible exact Below.refl _ _) | (with_reducible assumption) | (with_reducible refine Below.trans ?_ (Below.mono (by with_reducible assumption) ?_)) | (with_reducible refine Below.alloc ?_ ?_ _) | (with_reducible refine Below.setCell ?_ ?_ _) | (with_reducible refine below_drewN ?_ _) | (with_reducible refine Below.drew ?_) | go_size)))
  have HPK := Lib.hid (hlc_pack_no m c (w.alloc (.cells #[.int .i64 m, .int .i64 c] 27)) h)
  clear h
  go_enter Tryd.func8, Tryd.ntmps8
  go_wp2_with fail
  refine HPK.out.mono ?_; rintro e w1 ⟨rfl, k1⟩
  have HB1 := Lib.hid (HB0.out.trans (k1.mono HB0.out.size))
  clear k1 HPK HB0
  go_wp2
  go_ret2
  exact ⟨rfl, HB1.out⟩
set_option maxRecDepth 100000 in
set_option maxHeartbeats 4000000 in
theorem prints_no (m c : Int) (w : World) (ht : Tb2 w) (h : isStampB m c = false) :
    Calls Tryd.prog 3 #[.agg #[.int .i64 m, .int .i64 c]] w fun e w' => e = .returned (.bool true) ∧ Below w.heap.size w w' := by
  have HT := Lib.hid (fun (W : World) (k : Below w.heap.size w W) => ht.below k)
  have HB0 : Hid (Below w.heap.size w (w.alloc (.cells #[.int .i64 m, .int .i64 c] 23))) := Lib.hid (by (repeat' (first | (with_reducible exact Below.refl _ _) | (with_reducible assumption) | (with_reducible refine Below.trans ?_ (Below.mono (by with_reducible assumption) ?_)) | (with_reducible refine Below.alloc ?_ ?_ _) | (with_reducible refine Below.setCell ?_ ?_ _) | (with_reducible refine below_drewN ?_ _) | (with_reducible refine Below.drew ?_) | go_size)))
  have HA := Lib.hid (fun W => tok_print_bad m c W h)
  have HC := Lib.hid (fun W => ref_print_no m c W h)
  clear ht h
  go_enter Tryd.func3, Tryd.ntmps3
  go_wp2_with fail
  refine (HA.out _).mono ?_; rintro e w1 ⟨rfl, k1⟩
  have HB1 := Lib.hid (HB0.out.trans (k1.mono HB0.out.size))
  obtain ⟨hc1, _⟩ := bcell k1
  have a0 : w1.cell? ⟨w.heap.size, 0, none⟩ = some (.int .i64 m) := by rw [hc1 _ _ (by simp)]; simp
  have a1 : w1.cell? ⟨w.heap.size, 1, none⟩ = some (.int .i64 c) := by rw [hc1 _ _ (by simp)]; simp
  clear k1 hc1 HA HB0
  go_wp2_with fail
  refine (HC.out _).mono ?_; rintro e w2 ⟨rfl, k2⟩
  have HB2 := Lib.hid (HB1.out.trans (k2.mono HB1.out.size))
  have HKN := Lib.hid (tok_known w2 (HT.out _ HB2.out))
  clear k2 HC HB1 a0 a1
  go_wp2_with fail
  refine HKN.out.mono ?_; rintro e w3 ⟨rfl, k3⟩
  have HB3 := Lib.hid (HB2.out.trans (k3.mono HB2.out.size))
  clear k3 HKN
  go_wp2
  go_ret
  exact ⟨rfl, HB3.out⟩
set_option maxRecDepth 100000 in
set_option maxHeartbeats 4000000 in
theorem prints_yes (m c : Int) (w : World) (ht : Tb2 w) (hv : EvAt w) (hs : 1 < w.heap.size) (h : isStampB m c = true) :
    Calls Tryd.prog 3 #[.agg #[.int .i64 m, .int .i64 c]] w fun e w' => e = .returned (.bool true) ∧ Below w.heap.size w w' := by
  have HT := Lib.hid (fun (W : World) (k : Below w.heap.size w W) => ht.below k)
  have HV := Lib.hid (fun (W : World) (k : Below w.heap.size w W) => And.intro (hv.below k hs) (Nat.lt_of_lt_of_le hs k.size))
  have HB0 : Hid (Below w.heap.size w (w.alloc (.cells #[.int .i64 m, .int .i64 c] 23))) := Lib.hid (by (repeat' (first | (with_reducible exact Below.refl _ _) | (with_reducible assumption) | (with_reducible refine Below.trans ?_ (Below.mono (by with_reducible assumption) ?_)) | (with_reducible refine Below.alloc ?_ ?_ _) | (with_reducible refine Below.setCell ?_ ?_ _) | (with_reducible refine below_drewN ?_ _) | (with_reducible refine Below.drew ?_) | go_size)))
  obtain ⟨m0, m1, c0, c1⟩ := stamp_bd h
  obtain ⟨X, hX⟩ : ∃ X : Nat, m * 65536 + c = (X : Int) := ⟨(m * 65536 + c).toNat, by omega⟩
  have HA := Lib.hid (fun (W : World) (k : Below w.heap.size w W) => tok_print_val m c X W (ht.below k) h hX)
  have HC := Lib.hid (fun W => ref_print_val m c X W h hX)
  have hXb : X < 18446744073709551616 := by omega
  have hR := tokR_some (tokV_tokT X hXb)
  have e1 : (X : Int) / 65536 = m := by omega
  have e2 : (X : Int) % 65536 = c := by omega
  rw [e1, e2] at hR
  have HP := Lib.hid (fun (W : World) (k : Below w.heap.size w W) => tok_parse (tokT X (sumH X)) W (ht.below k) (HV.out W k).1 (HV.out W k).2)
  rw [hR] at HP
  clear ht h hv hs m0 m1 c0 c1 hX hXb hR e1 e2 HV
  generalize tokT X (sumH X) = T at *
  go_enter Tryd.func3, Tryd.ntmps3
  go_wp2_with fail
  refine (HA.out _ HB0.out).mono ?_; rintro e w1 ⟨⟨rfl, _⟩, k1⟩
  have HB1 := Lib.hid (HB0.out.trans (k1.mono HB0.out.size))
  obtain ⟨hc1, _⟩ := bcell k1
  have a0 : w1.cell? ⟨w.heap.size, 0, none⟩ = some (.int .i64 m) := by rw [hc1 _ _ (by simp)]; simp
  have a1 : w1.cell? ⟨w.heap.size, 1, none⟩ = some (.int .i64 c) := by rw [hc1 _ _ (by simp)]; simp
  have hz1 := k1.size
  simp only [World.size_alloc] at hz1
  clear k1 hc1 HA HB0
  go_wp2_with fail
  refine (HC.out _).mono ?_; rintro e w2 ⟨⟨rfl, _⟩, k2⟩
  have HB2 := Lib.hid (HB1.out.trans (k2.mono HB1.out.size))
  obtain ⟨hc2, _⟩ := bcell k2
  have b0 := (hc2 w.heap.size 0 (by omega)).trans a0
  have b1 := (hc2 w.heap.size 1 (by omega)).trans a1
  have hz2 := k2.size
  clear k2 hc2 HC HB1 a0 a1
  go_wp2_with fail
  refine (HP.out _ HB2.out).mono ?_; rintro e w3 ⟨rfl, k3⟩
  have HB3 := Lib.hid (HB2.out.trans (k3.mono HB2.out.size))
  obtain ⟨hc3, _⟩ := bcell k3
  have d0 := (hc3 w.heap.size 0 (by omega)).trans b0
  have d1 := (hc3 w.heap.size 1 (by omega)).trans b1
  have hz3 := k3.size
  have hlt : w.heap.size < w3.heap.size := by omega
  have HB4 : Hid (Below w.heap.size w (w3.alloc (.cells #[.int .i64 m, .int .i64 c] 27))) := Lib.hid (HB3.out.alloc HB3.out.size _)
  have HKN := Lib.hid (tok_known _ (HT.out _ HB4.out))
  clear k3 hc3 HP HB2 b0 b1
  go_wp2_with fail
  refine HKN.out.mono ?_; rintro e w4 ⟨rfl, k4⟩
  have HB5 := Lib.hid (HB4.out.trans (k4.mono HB4.out.size))
  clear k4 HKN
  go_wp2
  go_ret
  exact ⟨rfl, HB5.out⟩
end Go.Proofs.YtcmoglbmngmgnaaDoor
