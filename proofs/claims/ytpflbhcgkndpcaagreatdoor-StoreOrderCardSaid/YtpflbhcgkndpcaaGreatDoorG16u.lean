/- Is it a version: the reference's word for it (written by gen/ver.py). -/
import Derived.Test.YtpflbhcgkndpcaaGreatDoorHlcCmp
import Derived.Test.YtpflbhcgkndpcaaGreatDoorRecMath
/- The reference's Is of stamps. -/
set_option linter.unusedSimpArgs false
set_option linter.unusedVariables false
namespace Go.Proofs.YtpflbhcgkndpcaaGreatDoor
open Go.RowKit

set_option maxHeartbeats 1000000 in
theorem ref10_is (m c : Int) (w : World) : Calls Tryz.prog 53 #[.agg #[.int .i64 m, .int .i64 c]] w fun e w' => e = .returned (.bool (isStampB m c)) ∧ Below w.heap.size w w' := by
  unfold isStampB isMilliB
  by_cases h1 : 0 ≤ m
  · by_cases h2 : m ≤ 281474976710655
    · by_cases h3 : 0 ≤ c
      · go_enter Tryz.func53, Tryz.ntmps53
        go_wp2
        go_ret
        go_light
        exact ⟨by simp [h1, h2, h3], by (repeat' (first | (with_reducible exact Below.refl _ _) | (with_reducible assumption) | (with_reducible refine Below.trans ?_ (Below.mono (by with_reducible assumption) ?_)) | (with_reducible refine Below.alloc ?_ ?_ _) | (with_reducible refine Below.setCell ?_ ?_ _) | (with_reducible refine below_drewN ?_ _) | (with_reducible refine Below.drew ?_) | go_size))⟩
      · have h3' : decide (0 ≤ c) = false := by simpa using h3
        go_enter Tryz.func53, Tryz.ntmps53
        go_wp2
        go_ret
        go_light
        exact ⟨by simp [h3'], by (repeat' (first | (with_reducible exact Below.refl _ _) | (with_reducible assumption) | (with_reducible refine Below.trans ?_ (Below.mono (by with_reducible assumption) ?_)) | (with_reducible refine Below.alloc ?_ ?_ _) | (with_reducible refine Below.setCell ?_ ?_ _) | (with_reducible refine below_drewN ?_ _) | (with_reducible refine Below.drew ?_) | go_size))⟩
    · have h2' : decide (m ≤ 281474976710655) = false := by simpa using h2
      go_enter Tryz.func53, Tryz.ntmps53
      go_wp2
      go_ret
      go_light
      exact ⟨by simp [h2'], by (repeat' (first | (with_reducible exact Below.refl _ _) | (with_reducible assumption) | (with_reducible refine Below.trans ?_ (Below.mono (by with_reducible assumption) ?_)) | (with_reducible refine Below.alloc ?_ ?_ _) | (with_reducible refine Below.setCell ?_ ?_ _) | (with_reducible refine below_drewN ?_ _) | (with_reducible refine Below.drew ?_) | go_size))⟩
  · have h1' : decide (0 ≤ m) = false := by simpa using h1
    go_enter Tryz.func53, Tryz.ntmps53
    go_wp2
    go_ret
    go_light
    exact ⟨by simp [h1'], by (repeat' (first | (with_reducible exact Below.refl _ _) | (with_reducible assumption) | (with_reducible refine Below.trans ?_ (Below.mono (by with_reducible assumption) ?_)) | (with_reducible refine Below.alloc ?_ ?_ _) | (with_reducible refine Below.setCell ?_ ?_ _) | (with_reducible refine below_drewN ?_ _) | (with_reducible refine Below.drew ?_) | go_size))⟩
end Go.Proofs.YtpflbhcgkndpcaaGreatDoor

/- Is it a version: the reference's word for it (written by gen/ver.py). -/
namespace Go.Proofs.YtpflbhcgkndpcaaGreatDoor
open Go.RowKit

theorem isStB_eq (m c : Int) : isStB m c = isStampB m c := by simp [isStB, isStampB, isMilliB, Bool.and_assoc]
/-- A version's value; a record's. -/
abbrev verV (ml ct vo : Int) (A : Option Addr) (n c : Nat) (gone : Bool) (tt : Int) : Value := .agg #[.int .i64 ml, .int .i64 ct, .int .i64 vo, .slice A n c, .bool gone, .int .i64 tt]
abbrev verO (ml ct vo : Int) (A : Option Addr) (n c : Nat) (gone : Bool) (tt : Int) : Obj := .cells #[.int .i64 ml, .int .i64 ct, .int .i64 vo, .slice A n c, .bool gone, .int .i64 tt] 44
set_option maxHeartbeats 2000000 in
theorem ref_version (ml ct vo : Int) (A : Option Addr) (n c : Nat) (gone : Bool) (tt : Int) (w : World) :
    Calls Tryz.prog 26 #[verV ml ct vo A n c gone tt] w fun e w' => e = .returned (.bool (okV ml ct vo n gone tt)) ∧ Below w.heap.size w w' := by
  cases q0 : isStampB ml ct
  · skip
    have HE : Hid (okV ml ct vo n gone tt = false) := Lib.hid (by simp [okV, isStB_eq, q0]; try omega)
    go_enter Tryz.func26, Tryz.ntmps26
    go_wp2_with (go_at_call 53; refine (ref10_is ml ct _).mono ?_; rintro e w1 ⟨rfl, hb1⟩; obtain ⟨hc1, hf1⟩ := bcell hb1; have hz1 := hb1.size; (try simp only [World.size_alloc, World.size_setCell, World.heap_drewN] at hb1 hc1 hf1 hz1); (try have ha01 : w.heap.size < w1.heap.size := by omega); (try have ha11 : w.heap.size + 1 < w1.heap.size := by omega); (try have ha21 : w.heap.size + 2 < w1.heap.size := by omega); (try have hal1 : w.heap.size ≤ w1.heap.size := by omega); (try have ham1 : w.heap.size < w1.heap.size + 2 := by omega))
    go_ret
    go_light
    exact ⟨by rw [HE.out]; rfl, by (repeat' (first | (with_reducible exact Below.refl _ _) | (with_reducible assumption) | (with_reducible refine Below.trans ?_ (Below.mono (by with_reducible assumption) ?_)) | (with_reducible refine Below.alloc ?_ ?_ _) | (with_reducible refine Below.setCell ?_ ?_ _) | (with_reducible refine below_drewN ?_ _) | (with_reducible refine Below.drew ?_) | go_size))⟩
  · skip
    by_cases q1 : vo < (0 : Int)
    · skip
      have q1a : decide (vo < (0 : Int)) = true := by simp; omega
      have q1b : decide ((0 : Int) ≤ vo) = false := by simp; omega
      have HE : Hid (okV ml ct vo n gone tt = false) := Lib.hid (by simp [okV, isStB_eq, q0, q1]; try omega)
      go_enter Tryz.func26, Tryz.ntmps26
      go_wp2_with (go_at_call 53; refine (ref10_is ml ct _).mono ?_; rintro e w1 ⟨rfl, hb1⟩; obtain ⟨hc1, hf1⟩ := bcell hb1; have hz1 := hb1.size; (try simp only [World.size_alloc, World.size_setCell, World.heap_drewN] at hb1 hc1 hf1 hz1); (try have ha01 : w.heap.size < w1.heap.size := by omega); (try have ha11 : w.heap.size + 1 < w1.heap.size := by omega); (try have ha21 : w.heap.size + 2 < w1.heap.size := by omega); (try have hal1 : w.heap.size ≤ w1.heap.size := by omega); (try have ham1 : w.heap.size < w1.heap.size + 2 := by omega))
      go_ret
      go_light
      exact ⟨by rw [HE.out]; rfl, by (repeat' (first | (with_reducible exact Below.refl _ _) | (with_reducible assumption) | (with_reducible refine Below.trans ?_ (Below.mono (by with_reducible assumption) ?_)) | (with_reducible refine Below.alloc ?_ ?_ _) | (with_reducible refine Below.setCell ?_ ?_ _) | (with_reducible refine below_drewN ?_ _) | (with_reducible refine Below.drew ?_) | go_size))⟩
    · skip
      have q1a : decide (vo < (0 : Int)) = false := by simp; omega
      have q1b : decide ((0 : Int) ≤ vo) = true := by simp; omega
      by_cases q2 : (5 : Int) ≤ vo
      · skip
        have q2a : decide ((5 : Int) ≤ vo) = true := by simp; omega
        have q2b : decide (vo < (5 : Int)) = false := by simp; omega
        have HE : Hid (okV ml ct vo n gone tt = false) := Lib.hid (by simp [okV, isStB_eq, q0, q1, q2]; try omega)
        go_enter Tryz.func26, Tryz.ntmps26
        go_wp2_with (go_at_call 53; refine (ref10_is ml ct _).mono ?_; rintro e w1 ⟨rfl, hb1⟩; obtain ⟨hc1, hf1⟩ := bcell hb1; have hz1 := hb1.size; (try simp only [World.size_alloc, World.size_setCell, World.heap_drewN] at hb1 hc1 hf1 hz1); (try have ha01 : w.heap.size < w1.heap.size := by omega); (try have ha11 : w.heap.size + 1 < w1.heap.size := by omega); (try have ha21 : w.heap.size + 2 < w1.heap.size := by omega); (try have hal1 : w.heap.size ≤ w1.heap.size := by omega); (try have ham1 : w.heap.size < w1.heap.size + 2 := by omega))
        go_ret
        go_light
        exact ⟨by rw [HE.out]; rfl, by (repeat' (first | (with_reducible exact Below.refl _ _) | (with_reducible assumption) | (with_reducible refine Below.trans ?_ (Below.mono (by with_reducible assumption) ?_)) | (with_reducible refine Below.alloc ?_ ?_ _) | (with_reducible refine Below.setCell ?_ ?_ _) | (with_reducible refine below_drewN ?_ _) | (with_reducible refine Below.drew ?_) | go_size))⟩
      · skip
        have q2a : decide ((5 : Int) ≤ vo) = false := by simp; omega
        have q2b : decide (vo < (5 : Int)) = true := by simp; omega
        by_cases q3 : (1024 : Int) < (n : Int)
        · skip
          have q3a : decide ((1024 : Int) < (n : Int)) = true := by simp; omega
          have q3b : decide ((n : Int) ≤ (1024 : Int)) = false := by simp; omega
          have HE : Hid (okV ml ct vo n gone tt = false) := Lib.hid (by simp [okV, isStB_eq, q0, q1, q2, q3]; try omega)
          go_enter Tryz.func26, Tryz.ntmps26
          go_wp2_with (go_at_call 53; refine (ref10_is ml ct _).mono ?_; rintro e w1 ⟨rfl, hb1⟩; obtain ⟨hc1, hf1⟩ := bcell hb1; have hz1 := hb1.size; (try simp only [World.size_alloc, World.size_setCell, World.heap_drewN] at hb1 hc1 hf1 hz1); (try have ha01 : w.heap.size < w1.heap.size := by omega); (try have ha11 : w.heap.size + 1 < w1.heap.size := by omega); (try have ha21 : w.heap.size + 2 < w1.heap.size := by omega); (try have hal1 : w.heap.size ≤ w1.heap.size := by omega); (try have ham1 : w.heap.size < w1.heap.size + 2 := by omega))
          go_ret
          go_light
          exact ⟨by rw [HE.out]; rfl, by (repeat' (first | (with_reducible exact Below.refl _ _) | (with_reducible assumption) | (with_reducible refine Below.trans ?_ (Below.mono (by with_reducible assumption) ?_)) | (with_reducible refine Below.alloc ?_ ?_ _) | (with_reducible refine Below.setCell ?_ ?_ _) | (with_reducible refine below_drewN ?_ _) | (with_reducible refine Below.drew ?_) | go_size))⟩
        · skip
          have q3a : decide ((1024 : Int) < (n : Int)) = false := by simp; omega
          have q3b : decide ((n : Int) ≤ (1024 : Int)) = true := by simp; omega
          by_cases q4 : tt < (0 : Int)
          · skip
            have q4a : decide (tt < (0 : Int)) = true := by simp; omega
            have q4b : decide ((0 : Int) ≤ tt) = false := by simp; omega
            have HE : Hid (okV ml ct vo n gone tt = false) := Lib.hid (by simp [okV, isStB_eq, q0, q1, q2, q3, q4]; try omega)
            go_enter Tryz.func26, Tryz.ntmps26
            go_wp2_with (go_at_call 53; refine (ref10_is ml ct _).mono ?_; rintro e w1 ⟨rfl, hb1⟩; obtain ⟨hc1, hf1⟩ := bcell hb1; have hz1 := hb1.size; (try simp only [World.size_alloc, World.size_setCell, World.heap_drewN] at hb1 hc1 hf1 hz1); (try have ha01 : w.heap.size < w1.heap.size := by omega); (try have ha11 : w.heap.size + 1 < w1.heap.size := by omega); (try have ha21 : w.heap.size + 2 < w1.heap.size := by omega); (try have hal1 : w.heap.size ≤ w1.heap.size := by omega); (try have ham1 : w.heap.size < w1.heap.size + 2 := by omega))
            go_ret
            go_light
            exact ⟨by rw [HE.out]; rfl, by (repeat' (first | (with_reducible exact Below.refl _ _) | (with_reducible assumption) | (with_reducible refine Below.trans ?_ (Below.mono (by with_reducible assumption) ?_)) | (with_reducible refine Below.alloc ?_ ?_ _) | (with_reducible refine Below.setCell ?_ ?_ _) | (with_reducible refine below_drewN ?_ _) | (with_reducible refine Below.drew ?_) | go_size))⟩
          · skip
            have q4a : decide (tt < (0 : Int)) = false := by simp; omega
            have q4b : decide ((0 : Int) ≤ tt) = true := by simp; omega
            by_cases q5 : (281474976710655 : Int) < tt
            · skip
              have q5a : decide ((281474976710655 : Int) < tt) = true := by simp; omega
              have q5b : decide (tt ≤ (281474976710655 : Int)) = false := by simp; omega
              have HE : Hid (okV ml ct vo n gone tt = false) := Lib.hid (by simp [okV, isStB_eq, q0, q1, q2, q3, q4, q5]; try omega)
              go_enter Tryz.func26, Tryz.ntmps26
              go_wp2_with (go_at_call 53; refine (ref10_is ml ct _).mono ?_; rintro e w1 ⟨rfl, hb1⟩; obtain ⟨hc1, hf1⟩ := bcell hb1; have hz1 := hb1.size; (try simp only [World.size_alloc, World.size_setCell, World.heap_drewN] at hb1 hc1 hf1 hz1); (try have ha01 : w.heap.size < w1.heap.size := by omega); (try have ha11 : w.heap.size + 1 < w1.heap.size := by omega); (try have ha21 : w.heap.size + 2 < w1.heap.size := by omega); (try have hal1 : w.heap.size ≤ w1.heap.size := by omega); (try have ham1 : w.heap.size < w1.heap.size + 2 := by omega))
              go_ret
              go_light
              exact ⟨by rw [HE.out]; rfl, by (repeat' (first | (with_reducible exact Below.refl _ _) | (with_reducible assumption) | (with_reducible refine Below.trans ?_ (Below.mono (by with_reducible assumption) ?_)) | (with_reducible refine Below.alloc ?_ ?_ _) | (with_reducible refine Below.setCell ?_ ?_ _) | (with_reducible refine below_drewN ?_ _) | (with_reducible refine Below.drew ?_) | go_size))⟩
            · skip
              have q5a : decide ((281474976710655 : Int) < tt) = false := by simp; omega
              have q5b : decide (tt ≤ (281474976710655 : Int)) = true := by simp; omega
              cases gone
              · skip
                have HE : Hid (okV ml ct vo n false tt = true) := Lib.hid (by simp [okV, isStB_eq, q0, q1, q2, q3, q4, q5]; try omega)
                go_enter Tryz.func26, Tryz.ntmps26
                go_wp2_with (go_at_call 53; refine (ref10_is ml ct _).mono ?_; rintro e w1 ⟨rfl, hb1⟩; obtain ⟨hc1, hf1⟩ := bcell hb1; have hz1 := hb1.size; (try simp only [World.size_alloc, World.size_setCell, World.heap_drewN] at hb1 hc1 hf1 hz1); (try have ha01 : w.heap.size < w1.heap.size := by omega); (try have ha11 : w.heap.size + 1 < w1.heap.size := by omega); (try have ha21 : w.heap.size + 2 < w1.heap.size := by omega); (try have hal1 : w.heap.size ≤ w1.heap.size := by omega); (try have ham1 : w.heap.size < w1.heap.size + 2 := by omega))
                go_ret
                go_light
                exact ⟨by rw [HE.out]; rfl, by (repeat' (first | (with_reducible exact Below.refl _ _) | (with_reducible assumption) | (with_reducible refine Below.trans ?_ (Below.mono (by with_reducible assumption) ?_)) | (with_reducible refine Below.alloc ?_ ?_ _) | (with_reducible refine Below.setCell ?_ ?_ _) | (with_reducible refine below_drewN ?_ _) | (with_reducible refine Below.drew ?_) | go_size))⟩
              · skip
                by_cases q7 : (n : Int) = (0 : Int)
                · skip
                  have q7a : (((n : Int)) == (0 : Int)) = true := by simp; omega
                  have q7b : (((n : Int)) != (0 : Int)) = false := by simp; omega
                  by_cases q8 : tt = (0 : Int)
                  · skip
                    have q8a : ((tt) == (0 : Int)) = true := by simp; omega
                    have q8b : ((tt) != (0 : Int)) = false := by simp; omega
                    have HE : Hid (okV ml ct vo n true tt = true) := Lib.hid (by simp [okV, isStB_eq, q0, q1, q2, q3, q4, q5, q7, q8]; try omega)
                    go_enter Tryz.func26, Tryz.ntmps26
                    go_wp2_with (go_at_call 53; refine (ref10_is ml ct _).mono ?_; rintro e w1 ⟨rfl, hb1⟩; obtain ⟨hc1, hf1⟩ := bcell hb1; have hz1 := hb1.size; (try simp only [World.size_alloc, World.size_setCell, World.heap_drewN] at hb1 hc1 hf1 hz1); (try have ha01 : w.heap.size < w1.heap.size := by omega); (try have ha11 : w.heap.size + 1 < w1.heap.size := by omega); (try have ha21 : w.heap.size + 2 < w1.heap.size := by omega); (try have hal1 : w.heap.size ≤ w1.heap.size := by omega); (try have ham1 : w.heap.size < w1.heap.size + 2 := by omega))
                    go_ret
                    go_light
                    exact ⟨by rw [HE.out]; rfl, by (repeat' (first | (with_reducible exact Below.refl _ _) | (with_reducible assumption) | (with_reducible refine Below.trans ?_ (Below.mono (by with_reducible assumption) ?_)) | (with_reducible refine Below.alloc ?_ ?_ _) | (with_reducible refine Below.setCell ?_ ?_ _) | (with_reducible refine below_drewN ?_ _) | (with_reducible refine Below.drew ?_) | go_size))⟩
                  · skip
                    have q8a : ((tt) == (0 : Int)) = false := by simp; omega
                    have q8b : ((tt) != (0 : Int)) = true := by simp; omega
                    have HE : Hid (okV ml ct vo n true tt = false) := Lib.hid (by simp [okV, isStB_eq, q0, q1, q2, q3, q4, q5, q7, q8]; try omega)
                    go_enter Tryz.func26, Tryz.ntmps26
                    go_wp2_with (go_at_call 53; refine (ref10_is ml ct _).mono ?_; rintro e w1 ⟨rfl, hb1⟩; obtain ⟨hc1, hf1⟩ := bcell hb1; have hz1 := hb1.size; (try simp only [World.size_alloc, World.size_setCell, World.heap_drewN] at hb1 hc1 hf1 hz1); (try have ha01 : w.heap.size < w1.heap.size := by omega); (try have ha11 : w.heap.size + 1 < w1.heap.size := by omega); (try have ha21 : w.heap.size + 2 < w1.heap.size := by omega); (try have hal1 : w.heap.size ≤ w1.heap.size := by omega); (try have ham1 : w.heap.size < w1.heap.size + 2 := by omega))
                    go_ret
                    go_light
                    exact ⟨by rw [HE.out]; rfl, by (repeat' (first | (with_reducible exact Below.refl _ _) | (with_reducible assumption) | (with_reducible refine Below.trans ?_ (Below.mono (by with_reducible assumption) ?_)) | (with_reducible refine Below.alloc ?_ ?_ _) | (with_reducible refine Below.setCell ?_ ?_ _) | (with_reducible refine below_drewN ?_ _) | (with_reducible refine Below.drew ?_) | go_size))⟩
                · skip
                  have q7a : (((n : Int)) == (0 : Int)) = false := by simp; omega
                  have q7b : (((n : Int)) != (0 : Int)) = true := by simp; omega
                  have HE : Hid (okV ml ct vo n true tt = false) := Lib.hid (by simp [okV, isStB_eq, q0, q1, q2, q3, q4, q5, q7]; try omega)
                  go_enter Tryz.func26, Tryz.ntmps26
                  go_wp2_with (go_at_call 53; refine (ref10_is ml ct _).mono ?_; rintro e w1 ⟨rfl, hb1⟩; obtain ⟨hc1, hf1⟩ := bcell hb1; have hz1 := hb1.size; (try simp only [World.size_alloc, World.size_setCell, World.heap_drewN] at hb1 hc1 hf1 hz1); (try have ha01 : w.heap.size < w1.heap.size := by omega); (try have ha11 : w.heap.size + 1 < w1.heap.size := by omega); (try have ha21 : w.heap.size + 2 < w1.heap.size := by omega); (try have hal1 : w.heap.size ≤ w1.heap.size := by omega); (try have ham1 : w.heap.size < w1.heap.size + 2 := by omega))
                  go_ret
                  go_light
                  exact ⟨by rw [HE.out]; rfl, by (repeat' (first | (with_reducible exact Below.refl _ _) | (with_reducible assumption) | (with_reducible refine Below.trans ?_ (Below.mono (by with_reducible assumption) ?_)) | (with_reducible refine Below.alloc ?_ ?_ _) | (with_reducible refine Below.setCell ?_ ?_ _) | (with_reducible refine below_drewN ?_ _) | (with_reducible refine Below.drew ?_) | go_size))⟩
end Go.Proofs.YtpflbhcgkndpcaaGreatDoor

