/- Stage 10: HlcStill. -/
import Derived.Test.YtmbopdabbegbiaaS10C
set_option linter.unusedSimpArgs false
set_option linter.unusedVariables false
namespace Go.Proofs.Ytmbopdabbegbiaa
open Go.RowKit

theorem still_out (bd n m c : Int) (w : World) (h : isMilliB bd = false) : Calls Try.prog 13 #[.int .i64 bd, .int .i64 n, .agg #[.int .i64 m, .int .i64 c]] w fun e w' => e = .returned (.bool true) ∧ Below w.heap.size w w' := by
  by_cases h0 : 0 ≤ bd
  · have h1 : 281474976710655 < bd := by simp [isMilliB, h0] at h; omega
    go_enter Try.func13, Try.ntmps13
    go_wp2_with (go_at_call 16; refine (known10 _).mono ?_; rintro e w5 ⟨rfl, hb5⟩; obtain ⟨hc5, hf5⟩ := bcell hb5; have hz5 := hb5.size; (try simp only [World.size_alloc, World.size_setCell, World.heap_drewN] at hb5 hc5 hf5 hz5); (try have ha05 : w.heap.size < w5.heap.size := by omega); (try have ha15 : w.heap.size + 1 < w5.heap.size := by omega); (try have ha25 : w.heap.size + 2 < w5.heap.size := by omega); (try have hal5 : w.heap.size ≤ w5.heap.size := by omega); (try have ham5 : w.heap.size < w5.heap.size + 2 := by omega))
    go_ret
    go_light
    exact ⟨rfl, by (repeat' (first | (with_reducible exact Below.refl _ _) | (with_reducible assumption) | (with_reducible refine Below.trans ?_ (Below.mono (by with_reducible assumption) ?_)) | (with_reducible refine Below.alloc ?_ ?_ _) | (with_reducible refine Below.setCell ?_ ?_ _) | (with_reducible refine below_drewN ?_ _) | (with_reducible refine Below.drew ?_) | go_size))⟩
  · have h1 : bd < 0 := by omega
    go_enter Try.func13, Try.ntmps13
    go_wp2_with (go_at_call 16; refine (known10 _).mono ?_; rintro e w5 ⟨rfl, hb5⟩; obtain ⟨hc5, hf5⟩ := bcell hb5; have hz5 := hb5.size; (try simp only [World.size_alloc, World.size_setCell, World.heap_drewN] at hb5 hc5 hf5 hz5); (try have ha05 : w.heap.size < w5.heap.size := by omega); (try have ha15 : w.heap.size + 1 < w5.heap.size := by omega); (try have ha25 : w.heap.size + 2 < w5.heap.size := by omega); (try have hal5 : w.heap.size ≤ w5.heap.size := by omega); (try have ham5 : w.heap.size < w5.heap.size + 2 := by omega))
    go_ret
    go_light
    exact ⟨rfl, by (repeat' (first | (with_reducible exact Below.refl _ _) | (with_reducible assumption) | (with_reducible refine Below.trans ?_ (Below.mono (by with_reducible assumption) ?_)) | (with_reducible refine Below.alloc ?_ ?_ _) | (with_reducible refine Below.setCell ?_ ?_ _) | (with_reducible refine below_drewN ?_ _) | (with_reducible refine Below.drew ?_) | go_size))⟩
/-- A clock that has given nothing yet gives nothing. -/
theorem still_send (bd n : Int) (hb : 0 ≤ bd ∧ bd ≤ 281474976710655) : ∃ k : Int, k ≠ 0 ∧ ∀ (b : Nat) (w : World), Ints3 w b bd 0 bd → Calls Try.prog 17 #[.pointer (some ⟨b, 0, none⟩), .int .i64 n] w fun e w' => e = .returned (.tuple #[.agg #[.int .i64 0, .int .i64 0], .int .i64 k]) ∧ Below w.heap.size w w' := by
  cases hn : isMilliB n
  · exact ⟨1, by decide, fun b w _ => hlc_send_arg b n w hn⟩
  · by_cases h : n ≤ bd
    · exact ⟨18, by decide, fun b w k => hlc_send_behind1 b bd 0 bd n w k hn h (by omega) (by omega)⟩
    · exact ⟨18, by decide, fun b w k => hlc_send_behind2 b bd 0 bd n w k hn (by omega) (by omega)⟩
/-- What Hear of one stamp does to such a clock: an error and nothing, or no error. -/
theorem still_hear (bd n m c : Int) : (∃ r : Int, r ≠ 0 ∧ ∀ (b B : Nat) (w : World), Ints3 w b bd 0 bd → w.cell? ⟨B, 0, none⟩ = some (.int .i64 m) → w.cell? ⟨B, 1, none⟩ = some (.int .i64 c) → B < w.heap.size → B ≠ b → Calls Try.prog 19 #[.pointer (some ⟨b, 0, none⟩), .int .i64 n, .slice (some ⟨B, 0, none⟩) 1 1] w fun e w' => e = .returned (.int .i64 r) ∧ Below w.heap.size w w')
    ∨ (∃ z x y : Int, (z != 0) = false ∧ ∀ (b B : Nat) (w : World), Ints3 w b bd 0 bd → w.cell? ⟨B, 0, none⟩ = some (.int .i64 m) → w.cell? ⟨B, 1, none⟩ = some (.int .i64 c) → B < w.heap.size → B ≠ b → Calls Try.prog 19 #[.pointer (some ⟨b, 0, none⟩), .int .i64 n, .slice (some ⟨B, 0, none⟩) 1 1] w fun e w' => e = .returned (.int .i64 z) ∧ Only b w w' ∧ Ints3 w' b x y bd) := by
  cases hn : isMilliB n
  · exact .inl ⟨1, by decide, fun b B w _ _ _ _ _ => (hlc_hear_arg b n _ w hn).mono fun e w' ⟨he, hw⟩ => by subst hw; exact ⟨he, Below.refl _ _⟩⟩
  · cases hs : isStampB m c
    · exact .inl ⟨1, by decide, fun b B w _ h0 h1 _ _ => hlc_hear1_bad b B n m c w hn hs h0 h1⟩
    · by_cases hd : m ≤ n + 60000
      · exact .inr ⟨0, _, _, rfl, fun b B w k h0 h1 h2 h3 => hlc_hear1_ok b B bd 0 bd n m c w k hn hs hd h0 h1 h2 h3⟩
      · exact .inl ⟨16, by decide, fun b B w _ h0 h1 h2 _ => hlc_hear1_far b B n m c w hn hs (by omega) h0 h1 h2⟩
set_option maxHeartbeats 2000000 in
theorem still_in (bd n m c : Int) (w : World) (hb : 0 ≤ bd) (hb' : bd ≤ 281474976710655) : Calls Try.prog 13 #[.int .i64 bd, .int .i64 n, .agg #[.int .i64 m, .int .i64 c]] w fun e w' => e = .returned (.bool true) ∧ Below w.heap.size w w' := by
  have hh := still_hear bd n m c
  obtain ⟨k, k0, hsend⟩ := still_send bd n ⟨hb, hb'⟩
  have HM : Hid (isMilliB bd = true) := by show _ = _; simp [isMilliB, hb, hb']
  have kk : (k == 0) = false := by simpa using k0
  have HS := Lib.hid hsend
  clear hsend k0
  go_enter Try.func13, Try.ntmps13
  go_wp2_with fail
  refine (hlc_new_ok bd _ HM.out).mono ?_; rintro e w' ⟨rfl, rfl⟩
  have K0 := Ints3.new (w.alloc (.cells #[.int .i64 m, .int .i64 c] 32)) bd 0 bd 73
  have hsz0 : (w.alloc (.cells #[.int .i64 m, .int .i64 c] 32)).heap.size = w.heap.size + 1 := World.size_alloc _ _
  rw [hsz0] at K0
  go_wp2_with fail
  refine (hlc_last _ bd 0 bd _ K0).mono ?_; rintro e w1 ⟨rfl, hb1⟩
  have K1 := K0.below hb1 (by simp)
  have z1 : w.heap.size + 1 + 1 ≤ w1.heap.size := by have := hb1.size; simpa using this
  have S0 : w1.cell? ⟨w.heap.size, 0, none⟩ = some (.int .i64 m) := (hb1.cell (p := ⟨w.heap.size, 0, none⟩) (by simp; omega)).trans (by simp [go_sem])
  have S1 : w1.cell? ⟨w.heap.size, 1, none⟩ = some (.int .i64 c) := (hb1.cell (p := ⟨w.heap.size, 1, none⟩) (by simp; omega)).trans (by simp [go_sem])
  go_wp2_with (go_at_call 24; refine (hlc_bound _ bd 0 bd _ K1).mono ?_; rintro e w' ⟨rfl, rfl⟩)
  refine (HS.out _ _ (K1.alloc _)).mono ?_; rintro e w2 ⟨rfl, hb2⟩
  have K2 := (K1.alloc (.cells #[.int .i64 bd, .int .i64 0] 32)).below hb2 (by simp; omega)
  go_wp2_with fail
  have KA := K2.alloc (.cells #[.int .i64 0, .int .i64 0] 32)
  have A0 : w2.cell? ⟨w1.heap.size, 0, none⟩ = some (.int .i64 bd) := (hb2.cell (p := ⟨w1.heap.size, 0, none⟩) (by simp)).trans (by simp [go_sem])
  have A1 : w2.cell? ⟨w1.heap.size, 1, none⟩ = some (.int .i64 0) := (hb2.cell (p := ⟨w1.heap.size, 1, none⟩) (by simp)).trans (by simp [go_sem])
  have z2 : w1.heap.size + 1 ≤ w2.heap.size := by have := hb2.size; simpa using this
  have x2 : w1.heap.size < w2.heap.size + 1 := by omega
  have x3 : w1.heap.size ≠ w2.heap.size := by omega
  have D0 : (w2.alloc (.cells #[.int .i64 0, .int .i64 0] 32)).cell? ⟨w1.heap.size, 0, none⟩ = some (.int .i64 bd) := (((Below.refl w2.heap.size w2).alloc (Nat.le_refl _) _).cell (p := ⟨w1.heap.size, 0, none⟩) (by show w1.heap.size < w2.heap.size; omega)).trans A0
  have D1 : (w2.alloc (.cells #[.int .i64 0, .int .i64 0] 32)).cell? ⟨w1.heap.size, 1, none⟩ = some (.int .i64 0) := (((Below.refl w2.heap.size w2).alloc (Nat.le_refl _) _).cell (p := ⟨w1.heap.size, 1, none⟩) (by show w1.heap.size < w2.heap.size; omega)).trans A1
  have ZA : (w2.alloc (.cells #[.int .i64 0, .int .i64 0] 32)).heap.size = w2.heap.size + 1 := World.size_alloc _ _
  have zl : w1.heap.size < (w2.alloc (.cells #[.int .i64 0, .int .i64 0] 32)).heap.size := by rw [ZA]; omega
  go_region_held3 (fun w' => w'.cell? ⟨w1.heap.size, 0, none⟩ = some (.int .i64 bd) ∧ w'.cell? ⟨w1.heap.size, 1, none⟩ = some (.int .i64 0)) (first | exact ⟨D0, D1⟩ | exact ⟨y0, y1⟩)
    (first
      | (go_at_call 23; (first | (refine (hlc_last _ bd 0 bd _ KA).mono ?_; have KB := KA) | (refine (hlc_last _ bd 0 bd _ KA.drew).mono ?_; have KB := KA.drew) | (refine (hlc_last _ bd 0 bd _ KA.drew.drew).mono ?_; have KB := KA.drew.drew)); rintro e w3 ⟨rfl, hb3⟩; have K3 := KB.below hb3 KB.lt; have z3 : w2.heap.size + 1 ≤ w3.heap.size := Nat.le_trans (Nat.le_of_eq ZA.symm) hb3.size; have y0 : w3.cell? ⟨w1.heap.size, 0, none⟩ = some (.int .i64 bd) := (hb3.cell (p := ⟨w1.heap.size, 0, none⟩) zl).trans D0; have y1 : w3.cell? ⟨w1.heap.size, 1, none⟩ = some (.int .i64 0) := (hb3.cell (p := ⟨w1.heap.size, 1, none⟩) zl).trans D1)
      | (go_at_call 24; first | (refine (hlc_bound _ bd 0 bd _ K3).mono ?_; rintro e w' ⟨rfl, rfl⟩) | (refine (hlc_bound _ bd 0 bd _ K3.drew).mono ?_; rintro e w' ⟨rfl, rfl⟩) | (refine (hlc_bound _ bd 0 bd _ K3.drew.drew).mono ?_; rintro e w' ⟨rfl, rfl⟩)))
  clear HS
  have l1 : w1.heap.size < w3.heap.size := by omega
  have l0 : w.heap.size < w3.heap.size := by omega
  have E0 : w2.cell? ⟨w.heap.size, 0, none⟩ = some (.int .i64 m) := (hb2.cell (p := ⟨w.heap.size, 0, none⟩) (by simp; omega)).trans ((((Below.refl w1.heap.size w1).alloc (Nat.le_refl _) _).cell (p := ⟨w.heap.size, 0, none⟩) (by show w.heap.size < w1.heap.size; omega)).trans S0)
  have E1 : w2.cell? ⟨w.heap.size, 1, none⟩ = some (.int .i64 c) := (hb2.cell (p := ⟨w.heap.size, 1, none⟩) (by simp; omega)).trans ((((Below.refl w1.heap.size w1).alloc (Nat.le_refl _) _).cell (p := ⟨w.heap.size, 1, none⟩) (by show w.heap.size < w1.heap.size; omega)).trans S1)
  have zk : w.heap.size < (w2.alloc (.cells #[.int .i64 0, .int .i64 0] 32)).heap.size := by rw [ZA]; omega
  have t0 : w3.cell? ⟨w.heap.size, 0, none⟩ = some (.int .i64 m) := (hb3.cell (p := ⟨w.heap.size, 0, none⟩) zk).trans ((((Below.refl w2.heap.size w2).alloc (Nat.le_refl _) _).cell (p := ⟨w.heap.size, 0, none⟩) (by show w.heap.size < w2.heap.size; omega)).trans E0)
  have t1 : w3.cell? ⟨w.heap.size, 1, none⟩ = some (.int .i64 c) := (hb3.cell (p := ⟨w.heap.size, 1, none⟩) zk).trans ((((Below.refl w2.heap.size w2).alloc (Nat.le_refl _) _).cell (p := ⟨w.heap.size, 1, none⟩) (by show w.heap.size < w2.heap.size; omega)).trans E1)
  have H3 : Below w.heap.size w w3 := by (repeat' (first | (with_reducible exact Below.refl _ _) | (with_reducible assumption) | (with_reducible refine Below.trans ?_ (Below.mono (by with_reducible assumption) ?_)) | (with_reducible refine Below.alloc ?_ ?_ _) | (with_reducible refine Below.setCell ?_ ?_ _) | (with_reducible refine below_drewN ?_ _) | (with_reducible refine Below.drew ?_) | go_size))
  clear hb1 hb2 hb3 S0 S1 E0 E1 A0 A1 D0 D1 K0 K1 K2 KA KB
  go_wp2_with fail
  have al : ∀ o, (((w3.alloc o).cell? ⟨w.heap.size, 0, none⟩ = some (.int .i64 m) ∧ (w3.alloc o).cell? ⟨w.heap.size, 1, none⟩ = some (.int .i64 c)) ∧ (w3.alloc o).cell? ⟨w1.heap.size, 0, none⟩ = some (.int .i64 bd) ∧ (w3.alloc o).cell? ⟨w1.heap.size, 1, none⟩ = some (.int .i64 0)) := fun o => ⟨⟨(((Below.refl w3.heap.size w3).alloc (Nat.le_refl _) o).cell (p := ⟨w.heap.size, 0, none⟩) l0).trans t0, (((Below.refl w3.heap.size w3).alloc (Nat.le_refl _) o).cell (p := ⟨w.heap.size, 1, none⟩) l0).trans t1⟩, (((Below.refl w3.heap.size w3).alloc (Nat.le_refl _) o).cell (p := ⟨w1.heap.size, 0, none⟩) l1).trans y0, (((Below.refl w3.heap.size w3).alloc (Nat.le_refl _) o).cell (p := ⟨w1.heap.size, 1, none⟩) l1).trans y1⟩
  have al1 : ∀ o, (((w3.drew.alloc o).cell? ⟨w.heap.size, 0, none⟩ = some (.int .i64 m) ∧ (w3.drew.alloc o).cell? ⟨w.heap.size, 1, none⟩ = some (.int .i64 c)) ∧ (w3.drew.alloc o).cell? ⟨w1.heap.size, 0, none⟩ = some (.int .i64 bd) ∧ (w3.drew.alloc o).cell? ⟨w1.heap.size, 1, none⟩ = some (.int .i64 0)) := fun o => ⟨⟨(((Below.refl w3.heap.size w3.drew).alloc (Nat.le_refl _) o).cell (p := ⟨w.heap.size, 0, none⟩) l0).trans t0, (((Below.refl w3.heap.size w3.drew).alloc (Nat.le_refl _) o).cell (p := ⟨w.heap.size, 1, none⟩) l0).trans t1⟩, (((Below.refl w3.heap.size w3.drew).alloc (Nat.le_refl _) o).cell (p := ⟨w1.heap.size, 0, none⟩) l1).trans y0, (((Below.refl w3.heap.size w3.drew).alloc (Nat.le_refl _) o).cell (p := ⟨w1.heap.size, 1, none⟩) l1).trans y1⟩
  have al2 : ∀ o, (((w3.drew.drew.alloc o).cell? ⟨w.heap.size, 0, none⟩ = some (.int .i64 m) ∧ (w3.drew.drew.alloc o).cell? ⟨w.heap.size, 1, none⟩ = some (.int .i64 c)) ∧ (w3.drew.drew.alloc o).cell? ⟨w1.heap.size, 0, none⟩ = some (.int .i64 bd) ∧ (w3.drew.drew.alloc o).cell? ⟨w1.heap.size, 1, none⟩ = some (.int .i64 0)) := fun o => ⟨⟨(((Below.refl w3.heap.size w3.drew.drew).alloc (Nat.le_refl _) o).cell (p := ⟨w.heap.size, 0, none⟩) l0).trans t0, (((Below.refl w3.heap.size w3.drew.drew).alloc (Nat.le_refl _) o).cell (p := ⟨w.heap.size, 1, none⟩) l0).trans t1⟩, (((Below.refl w3.heap.size w3.drew.drew).alloc (Nat.le_refl _) o).cell (p := ⟨w1.heap.size, 0, none⟩) l1).trans y0, (((Below.refl w3.heap.size w3.drew.drew).alloc (Nat.le_refl _) o).cell (p := ⟨w1.heap.size, 1, none⟩) l1).trans y1⟩
  rcases hh with ⟨r, r0, hear⟩ | ⟨z, x, y, rr, hear⟩
  · have rr : (r != 0) = true := by simpa using r0
    have HH := Lib.hid hear
    clear hear r0
    go_region_held3 (fun w' => (w'.cell? ⟨w.heap.size, 0, none⟩ = some (.int .i64 m) ∧ w'.cell? ⟨w.heap.size, 1, none⟩ = some (.int .i64 c)) ∧ w'.cell? ⟨w1.heap.size, 0, none⟩ = some (.int .i64 bd) ∧ w'.cell? ⟨w1.heap.size, 1, none⟩ = some (.int .i64 0)) (first | exact ⟨⟨t0, t1⟩, y0, y1⟩ | exact al _ | exact al1 _ | exact al2 _ | exact ⟨⟨p0, p1⟩, p2, p3⟩ | exact ⟨⟨q0, q1⟩, q2, q3⟩)
      (first
        | (go_at_call 19; go_loud (refine (HH.out _ _ _ (by first | exact K3.alloc _ | exact K3.drew.alloc _ | exact K3.drew.drew.alloc _ | exact (K3.drewN _).alloc _) (by simp [go_sem]) (by simp [go_sem]) (by simp [go_sem]) (by simp [go_sem] <;> omega)).mono ?_; rintro e w4 ⟨rfl, hb4⟩; have hw4 : Below w3.heap.size w3 w4 := Below.trans (by (repeat' (first | (with_reducible exact Below.refl _ _) | (with_reducible assumption) | (with_reducible refine Below.trans ?_ (Below.mono (by with_reducible assumption) ?_)) | (with_reducible refine Below.alloc ?_ ?_ _) | (with_reducible refine Below.setCell ?_ ?_ _) | (with_reducible refine below_drewN ?_ _) | (with_reducible refine Below.drew ?_) | go_size))) (hb4.mono (by simp [go_sem] <;> omega)); have K4 := K3.below hw4 K3.lt; have p0 := (hw4.cell (p := ⟨w.heap.size, 0, none⟩) l0).trans t0; have p1 := (hw4.cell (p := ⟨w.heap.size, 1, none⟩) l0).trans t1; have p2 := (hw4.cell (p := ⟨w1.heap.size, 0, none⟩) l1).trans y0; have p3 := (hw4.cell (p := ⟨w1.heap.size, 1, none⟩) l1).trans y1))
        | (go_at_call 23; (first | (refine (hlc_last _ bd 0 bd _ K4).mono ?_) | (refine (hlc_last _ bd 0 bd _ K4.drew).mono ?_) | (refine (hlc_last _ bd 0 bd _ K4.drew.drew).mono ?_)); rintro e w5 ⟨rfl, hb5⟩; have hw5 : Below w3.heap.size w3 w5 := Below.trans (by (repeat' (first | (with_reducible exact Below.refl _ _) | (with_reducible assumption) | (with_reducible refine Below.trans ?_ (Below.mono (by with_reducible assumption) ?_)) | (with_reducible refine Below.alloc ?_ ?_ _) | (with_reducible refine Below.setCell ?_ ?_ _) | (with_reducible refine below_drewN ?_ _) | (with_reducible refine Below.drew ?_) | go_size))) (hb5.mono hw4.size); have K5 := K3.below hw5 K3.lt; have q0 := (hw5.cell (p := ⟨w.heap.size, 0, none⟩) l0).trans t0; have q1 := (hw5.cell (p := ⟨w.heap.size, 1, none⟩) l0).trans t1; have q2 := (hw5.cell (p := ⟨w1.heap.size, 0, none⟩) l1).trans y0; have q3 := (hw5.cell (p := ⟨w1.heap.size, 1, none⟩) l1).trans y1))
    have H5 : Below w.heap.size w w5 := H3.trans (hw5.mono (Nat.le_of_lt l0))
    go_wp2_with (first | (go_at_call 21; refine (hlc_raise_low _ bd 0 bd _ _ K5 (by omega)).mono ?_; rintro e w' ⟨rfl, rfl⟩) | (go_at_call 24; refine (hlc_bound _ bd 0 bd _ K5).mono ?_; rintro e w' ⟨rfl, rfl⟩) | (go_at_call 16; refine (known10 _).mono ?_; rintro e w6 ⟨rfl, hb6⟩; obtain ⟨hc6, hf6⟩ := bcell hb6; have hz6 := hb6.size; (try simp only [World.size_alloc, World.size_setCell, World.heap_drewN] at hb6 hc6 hf6 hz6); (try have ha06 : w.heap.size < w6.heap.size := by omega); (try have ha16 : w.heap.size + 1 < w6.heap.size := by omega); (try have ha26 : w.heap.size + 2 < w6.heap.size := by omega); (try have hal6 : w.heap.size ≤ w6.heap.size := by omega); (try have ham6 : w.heap.size < w6.heap.size + 2 := by omega)))
    go_ret
    go_light
    exact ⟨rfl, H5.trans (hb6.mono H5.size)⟩
  · have HH := Lib.hid hear
    clear hear
    first
      | (go_region_with
            (first
              | (go_at_call 19; refine (HH.out _ _ _ (by first | exact K3.alloc _ | exact K3.drew.alloc _ | exact K3.drew.drew.alloc _ | exact (K3.drewN _).alloc _) (by simp [go_sem]) (by simp [go_sem]) (by simp [go_sem]) (by simp [go_sem] <;> omega)).mono ?_; rintro e w4 ⟨rfl, ho4, K4⟩; have H4 : Below w.heap.size w w4 := Below.trans (by (repeat' (first | (with_reducible exact Below.refl _ _) | (with_reducible assumption) | (with_reducible refine Below.trans ?_ (Below.mono (by with_reducible assumption) ?_)) | (with_reducible refine Below.alloc ?_ ?_ _) | (with_reducible refine Below.setCell ?_ ?_ _) | (with_reducible refine below_drewN ?_ _) | (with_reducible refine Below.drew ?_) | go_size))) (ho4.below (Nat.le_succ _) (by simp [go_sem] <;> omega)); have hx4 : Only (w.heap.size + 1) w3 w4 := Only.trans (Only.of_below (by (repeat' (first | (with_reducible exact Below.refl _ _) | (with_reducible assumption) | (with_reducible refine Below.trans ?_ (Below.mono (by with_reducible assumption) ?_)) | (with_reducible refine Below.alloc ?_ ?_ _) | (with_reducible refine Below.setCell ?_ ?_ _) | (with_reducible refine below_drewN ?_ _) | (with_reducible refine Below.drew ?_) | go_size)))) ho4; have p0 := (hx4.cell w.heap.size 0 l0 (by omega)).trans t0; have p1 := (hx4.cell w.heap.size 1 l0 (by omega)).trans t1; have p2 := (hx4.cell w1.heap.size 0 l1 (by omega)).trans y0; have p3 := (hx4.cell w1.heap.size 1 l1 (by omega)).trans y1)))
      | fail
    all_goals
      (go_wp2_with (first | (go_at_call 21; refine (hlc_raise_low _ x y bd _ _ K4 (by omega)).mono ?_; rintro e w' ⟨rfl, rfl⟩) | (go_at_call 24; refine (hlc_bound _ x y bd _ K4).mono ?_; rintro e w' ⟨rfl, rfl⟩) | (go_at_call 16; refine (known10 _).mono ?_; rintro e w6 ⟨rfl, hb6⟩; obtain ⟨hc6, hf6⟩ := bcell hb6; have hz6 := hb6.size; (try simp only [World.size_alloc, World.size_setCell, World.heap_drewN] at hb6 hc6 hf6 hz6); (try have ha06 : w.heap.size < w6.heap.size := by omega); (try have ha16 : w.heap.size + 1 < w6.heap.size := by omega); (try have ha26 : w.heap.size + 2 < w6.heap.size := by omega); (try have hal6 : w.heap.size ≤ w6.heap.size := by omega); (try have ham6 : w.heap.size < w6.heap.size + 2 := by omega)))
       go_ret
       go_light
       exact ⟨rfl, H4.trans (hb6.mono H4.size)⟩)
end Go.Proofs.Ytmbopdabbegbiaa
