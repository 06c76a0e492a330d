/- The contracts of era.Near and meridianref5.Near. -/
import Derived.Test.YtdnogninikenlaaEraStamp
set_option linter.unusedSimpArgs false
set_option linter.unusedVariables false
namespace Go.Proofs.Ytdnogninikenlaa
open Go.RowKit

/-- The second that a stamp tells near a day. -/
def nearT (s day : Int) : Int :=
  if (s / 4294967296 - (day + 25567) * 86400) % 4294967296 < 2147483648 then (day + 25567) * 86400 + (s / 4294967296 - (day + 25567) * 86400) % 4294967296
  else (day + 25567) * 86400 + (s / 4294967296 - (day + 25567) * 86400) % 4294967296 - 4294967296
def nearN (s : Int) : Int := if (s % 4294967296 * 1000000000 + 4294967295) / 4294967296 ≤ 999999999 then (s % 4294967296 * 1000000000 + 4294967295) / 4294967296 else 999999999
def nearDay (s day : Int) : Int := nearT s day / 86400 - 25567
def nearNano (s day : Int) : Int := nearT s day % 86400 * 1000000000 + nearN s
theorem low32 (s : Int) (h0 : 0 ≤ s) (h1 : s < 18446744073709551616) : bits .and .u64 s 4294967295 = s % 4294967296 := by
  obtain ⟨x, rfl⟩ := Int.eq_ofNat_of_zero_le h0
  rw [show (4294967295 : Int) = ((4294967295 : Nat) : Int) from rfl, u64_and_nat _ _ (by omega) (by omega)]
  have e3 : x &&& 4294967295 = x % 4294967296 := Nat.and_two_pow_sub_one_eq_mod x 32
  rw [e3]; omega
theorem exact_tdiv (x : Int) : (x - x % 86400).tdiv 86400 = x / 86400 := by
  have h : x - x % 86400 = 86400 * (x / 86400) := by omega
  rw [h, Int.mul_tdiv_cancel_left _ (by decide)]
theorem ret_utc {a b c d k : Int} (h1 : a = c) (h2 : b = d) : Ending.returned (.tuple #[.agg #[.int .i64 a, .int .i64 b], .int .i64 k]) = .returned (.tuple #[.agg #[.int .i64 c, .int .i64 d], .int .i64 k]) := by rw [h1, h2]
set_option maxHeartbeats 400000 in
theorem era_near_no (s day : Int) (w : World) (h : dayB day = false) : Calls Try.prog 12 #[.int .u64 s, .int .i64 day] w fun e w' => e = .returned (.tuple #[.agg #[.int .i64 0, .int .i64 0], .int .i64 1]) ∧ Below w.heap.size w w' := by
  go_enter Try.func12, Try.ntmps12
  go_wp2_with (go_at_call 14; refine (era_isDay day _).mono ?_; rintro e w1 ⟨rfl, hb1⟩; obtain ⟨hc1, hf1⟩ := bcell hb1; have hz1 := hb1.size; (try simp only [World.size_alloc, World.size_setCell, World.heap_drewN] at hb1 hc1 hf1 hz1); (try have ha01 : w.heap.size < w1.heap.size := by omega); (try have ha11 : w.heap.size + 1 < w1.heap.size := by omega); (try have ha21 : w.heap.size + 2 < w1.heap.size := by omega); (try have hal1 : w.heap.size ≤ w1.heap.size := by omega); (try have ham1 : w.heap.size < w1.heap.size + 2 := by omega))
  have z0 : w1.cell? ⟨w.heap.size, 0, none⟩ = some (.int .i64 0) := by rw [hc1 _ _ (by omega)]; simp
  have z1 : w1.cell? ⟨w.heap.size, 1, none⟩ = some (.int .i64 0) := by rw [hc1 _ _ (by omega)]; simp
  refine bodyPost_ret (v := .tuple #[.agg #[.int .i64 0, .int .i64 0], .int .i64 1]) (by simp [results, Try.results12, go_sem, z0, z1]) rfl ⟨rfl, ?_⟩
  go_light
  (repeat' (first | (with_reducible exact Below.refl _ _) | (with_reducible assumption) | (with_reducible refine Below.trans ?_ (Below.mono (by with_reducible assumption) ?_)) | (with_reducible refine Below.alloc ?_ ?_ _) | (with_reducible refine Below.setCell ?_ ?_ _) | (with_reducible refine below_drewN ?_ _) | (with_reducible refine Below.drew ?_) | go_size))
set_option maxHeartbeats 1000000 in
theorem era_near_Ax (s day : Int) (w : World) (h : dayB day = true) (s0 : 0 ≤ s) (s1 : s < 18446744073709551616) (hs : (s / 4294967296 - (day + 25567) * 86400) % 4294967296 < 2147483648) (hn : dayB (nearDay s day) = false)  : Calls Try.prog 12 #[.int .u64 s, .int .i64 day] w fun e w' => e = .returned (.tuple #[.agg #[.int .i64 0, .int .i64 0], .int .i64 11]) ∧ Below w.heap.size w w' := by
  obtain ⟨d0, d1⟩ := dayB_yes h
  have hT : (day + 25567) * 86400 + (s / 4294967296 - (day + 25567) * 86400) % 4294967296 = nearT s day := by unfold nearT; rw [if_pos hs]
  have hR : (s / 4294967296 - (day + 25567) * 86400) % 4294967296 % 86400 = ((day + 25567) * 86400 + (s / 4294967296 - (day + 25567) * 86400) % 4294967296) % 86400 := by omega
  have e1 : ((day + 25567) * 86400 + (s / 4294967296 - (day + 25567) * 86400) % 4294967296 - (s / 4294967296 - (day + 25567) * 86400) % 4294967296 % 86400).tdiv 86400 = ((day + 25567) * 86400 + (s / 4294967296 - (day + 25567) * 86400) % 4294967296) / 86400 := by rw [hR]; exact exact_tdiv _
  have h1 : ((day + 25567) * 86400 + (s / 4294967296 - (day + 25567) * 86400) % 4294967296) / 86400 - 25567 = nearDay s day := by rw [hT]; rfl
  have H1 := Lib.hid h1
  rw [← h1] at hn
  clear h1 hT hR
  go_enter Try.func12, Try.ntmps12
  go_wp2_with fail
  refine (era_isDay _ _).mono ?_; rintro e w1 ⟨rfl, hb1⟩; obtain ⟨hc1, hf1⟩ := bcell hb1; have hz1 := hb1.size; (try simp only [World.size_alloc, World.size_setCell, World.heap_drewN] at hb1 hc1 hf1 hz1); (try have ha01 : w.heap.size < w1.heap.size := by omega); (try have ha11 : w.heap.size + 1 < w1.heap.size := by omega); (try have ha21 : w.heap.size + 2 < w1.heap.size := by omega); (try have hal1 : w.heap.size ≤ w1.heap.size := by omega); (try have ham1 : w.heap.size < w1.heap.size + 2 := by omega)
  rw [h]
  go_wp2_with (first | (go_at_call 16; refine (era_begins _ _ (by omega) (by omega)).mono ?_; rintro e w' ⟨rfl, rfl⟩) | (go_at_call 15; refine (era_modulo _ _ _ (by omega) (by omega)).mono ?_; rintro e w' ⟨rfl, rfl⟩))
  refine (era_isDay _ _).mono ?_; rintro e w2 ⟨rfl, hb2⟩; obtain ⟨hc2, hf2⟩ := bcell hb2; have hz2 := hb2.size; (try simp only [World.size_alloc, World.size_setCell, World.heap_drewN] at hb2 hc2 hf2 hz2); (try have ha02 : w.heap.size < w2.heap.size := by omega); (try have ha12 : w.heap.size + 1 < w2.heap.size := by omega); (try have ha22 : w.heap.size + 2 < w2.heap.size := by omega); (try have hal2 : w.heap.size ≤ w2.heap.size := by omega); (try have ham2 : w.heap.size < w2.heap.size + 2 := by omega); (try have hb02 : w1.heap.size < w2.heap.size := by omega); (try have hb12 : w1.heap.size + 1 < w2.heap.size := by omega); (try have hb22 : w1.heap.size + 2 < w2.heap.size := by omega); (try have hbl2 : w1.heap.size ≤ w2.heap.size := by omega); (try have hbm2 : w1.heap.size < w2.heap.size + 2 := by omega)
  rw [hn]
  have y0 : w1.cell? ⟨w.heap.size, 0, none⟩ = some (.int .i64 0) := by rw [hc1 _ _ (by omega)]; simp
  have z0 : w2.cell? ⟨w.heap.size, 0, none⟩ = some (.int .i64 0) := by rw [hc2 _ _ (by omega), World.cell?_alloc_past _ _ _ ha01]; exact y0
  have y1 : w1.cell? ⟨w.heap.size, 1, none⟩ = some (.int .i64 0) := by rw [hc1 _ _ (by omega)]; simp
  have z1 : w2.cell? ⟨w.heap.size, 1, none⟩ = some (.int .i64 0) := by rw [hc2 _ _ (by omega), World.cell?_alloc_past _ _ _ ha01]; exact y1
  go_wp2_with fail
  refine bodyPost_ret (v := .tuple #[.agg #[.int .i64 0, .int .i64 0], .int .i64 11]) (by simp [results, Try.results12, go_sem, z0, z1]) rfl ⟨rfl, ?_⟩
  go_light
  (repeat' (first | (with_reducible exact Below.refl _ _) | (with_reducible assumption) | (with_reducible refine Below.trans ?_ (Below.mono (by with_reducible assumption) ?_)) | (with_reducible refine Below.alloc ?_ ?_ _) | (with_reducible refine Below.setCell ?_ ?_ _) | (with_reducible refine below_drewN ?_ _) | (with_reducible refine Below.drew ?_) | go_size))
set_option maxHeartbeats 1000000 in
theorem era_near_A1 (s day : Int) (w : World) (h : dayB day = true) (s0 : 0 ≤ s) (s1 : s < 18446744073709551616) (hs : (s / 4294967296 - (day + 25567) * 86400) % 4294967296 < 2147483648) (hn : dayB (nearDay s day) = true) (hp : (s % 4294967296 * 1000000000 + 4294967296 - 1) / 4294967296 ≤ 999999999) : Calls Try.prog 12 #[.int .u64 s, .int .i64 day] w fun e w' => e = .returned (.tuple #[.agg #[.int .i64 (nearDay s day), .int .i64 (nearNano s day)], .int .i64 0]) ∧ Below w.heap.size w w' := by
  obtain ⟨d0, d1⟩ := dayB_yes h
  have hT : (day + 25567) * 86400 + (s / 4294967296 - (day + 25567) * 86400) % 4294967296 = nearT s day := by unfold nearT; rw [if_pos hs]
  have hR : (s / 4294967296 - (day + 25567) * 86400) % 4294967296 % 86400 = ((day + 25567) * 86400 + (s / 4294967296 - (day + 25567) * 86400) % 4294967296) % 86400 := by omega
  have e1 : ((day + 25567) * 86400 + (s / 4294967296 - (day + 25567) * 86400) % 4294967296 - (s / 4294967296 - (day + 25567) * 86400) % 4294967296 % 86400).tdiv 86400 = ((day + 25567) * 86400 + (s / 4294967296 - (day + 25567) * 86400) % 4294967296) / 86400 := by rw [hR]; exact exact_tdiv _
  have h1 : ((day + 25567) * 86400 + (s / 4294967296 - (day + 25567) * 86400) % 4294967296) / 86400 - 25567 = nearDay s day := by rw [hT]; rfl
  have H1 := Lib.hid h1
  rw [← h1] at hn
  have h2 : (s / 4294967296 - (day + 25567) * 86400) % 4294967296 % 86400 * 1000000000 + (s % 4294967296 * 1000000000 + 4294967296 - 1) / 4294967296 = nearNano s day := by rw [hR, hT]; unfold nearNano nearN; rw [if_pos (by omega)]; omega
  have H2 := Lib.hid h2
  have e2 := low32 s s0 s1
  clear h2
  clear h1 hT hR
  go_enter Try.func12, Try.ntmps12
  go_wp2_with fail
  refine (era_isDay _ _).mono ?_; rintro e w1 ⟨rfl, hb1⟩; obtain ⟨hc1, hf1⟩ := bcell hb1; have hz1 := hb1.size; (try simp only [World.size_alloc, World.size_setCell, World.heap_drewN] at hb1 hc1 hf1 hz1); (try have ha01 : w.heap.size < w1.heap.size := by omega); (try have ha11 : w.heap.size + 1 < w1.heap.size := by omega); (try have ha21 : w.heap.size + 2 < w1.heap.size := by omega); (try have hal1 : w.heap.size ≤ w1.heap.size := by omega); (try have ham1 : w.heap.size < w1.heap.size + 2 := by omega)
  rw [h]
  go_wp2_with (first | (go_at_call 16; refine (era_begins _ _ (by omega) (by omega)).mono ?_; rintro e w' ⟨rfl, rfl⟩) | (go_at_call 15; refine (era_modulo _ _ _ (by omega) (by omega)).mono ?_; rintro e w' ⟨rfl, rfl⟩))
  refine (era_isDay _ _).mono ?_; rintro e w2 ⟨rfl, hb2⟩; obtain ⟨hc2, hf2⟩ := bcell hb2; have hz2 := hb2.size; (try simp only [World.size_alloc, World.size_setCell, World.heap_drewN] at hb2 hc2 hf2 hz2); (try have ha02 : w.heap.size < w2.heap.size := by omega); (try have ha12 : w.heap.size + 1 < w2.heap.size := by omega); (try have ha22 : w.heap.size + 2 < w2.heap.size := by omega); (try have hal2 : w.heap.size ≤ w2.heap.size := by omega); (try have ham2 : w.heap.size < w2.heap.size + 2 := by omega); (try have hb02 : w1.heap.size < w2.heap.size := by omega); (try have hb12 : w1.heap.size + 1 < w2.heap.size := by omega); (try have hb22 : w1.heap.size + 2 < w2.heap.size := by omega); (try have hbl2 : w1.heap.size ≤ w2.heap.size := by omega); (try have hbm2 : w1.heap.size < w2.heap.size + 2 := by omega)
  rw [hn]
  have y0 : w1.cell? ⟨w.heap.size, 0, none⟩ = some (.int .i64 0) := by rw [hc1 _ _ (by omega)]; simp
  have z0 : w2.cell? ⟨w.heap.size, 0, none⟩ = some (.int .i64 0) := by rw [hc2 _ _ (by omega), World.cell?_alloc_past _ _ _ ha01]; exact y0
  have y1 : w1.cell? ⟨w.heap.size, 1, none⟩ = some (.int .i64 0) := by rw [hc1 _ _ (by omega)]; simp
  have z1 : w2.cell? ⟨w.heap.size, 1, none⟩ = some (.int .i64 0) := by rw [hc2 _ _ (by omega), World.cell?_alloc_past _ _ _ ha01]; exact y1
  go_wp2_with fail
  refine bodyPost_ret (v := .tuple #[.agg #[.int .i64 (((day + 25567) * 86400 + (s / 4294967296 - (day + 25567) * 86400) % 4294967296) / 86400 - 25567), .int .i64 ((s / 4294967296 - (day + 25567) * 86400) % 4294967296 % 86400 * 1000000000 + (s % 4294967296 * 1000000000 + 4294967296 - 1) / 4294967296)], .int .i64 0]) (by simp [results, Try.results12, go_sem, z0, z1]) rfl ⟨ret_utc H1.out H2.out, ?_⟩
  go_light
  (repeat' (first | (with_reducible exact Below.refl _ _) | (with_reducible assumption) | (with_reducible refine Below.trans ?_ (Below.mono (by with_reducible assumption) ?_)) | (with_reducible refine Below.alloc ?_ ?_ _) | (with_reducible refine Below.setCell ?_ ?_ _) | (with_reducible refine below_drewN ?_ _) | (with_reducible refine Below.drew ?_) | go_size))
set_option maxHeartbeats 1000000 in
theorem era_near_A2 (s day : Int) (w : World) (h : dayB day = true) (s0 : 0 ≤ s) (s1 : s < 18446744073709551616) (hs : (s / 4294967296 - (day + 25567) * 86400) % 4294967296 < 2147483648) (hn : dayB (nearDay s day) = true) (hp : 999999999 < (s % 4294967296 * 1000000000 + 4294967296 - 1) / 4294967296) : Calls Try.prog 12 #[.int .u64 s, .int .i64 day] w fun e w' => e = .returned (.tuple #[.agg #[.int .i64 (nearDay s day), .int .i64 (nearNano s day)], .int .i64 0]) ∧ Below w.heap.size w w' := by
  obtain ⟨d0, d1⟩ := dayB_yes h
  have hT : (day + 25567) * 86400 + (s / 4294967296 - (day + 25567) * 86400) % 4294967296 = nearT s day := by unfold nearT; rw [if_pos hs]
  have hR : (s / 4294967296 - (day + 25567) * 86400) % 4294967296 % 86400 = ((day + 25567) * 86400 + (s / 4294967296 - (day + 25567) * 86400) % 4294967296) % 86400 := by omega
  have e1 : ((day + 25567) * 86400 + (s / 4294967296 - (day + 25567) * 86400) % 4294967296 - (s / 4294967296 - (day + 25567) * 86400) % 4294967296 % 86400).tdiv 86400 = ((day + 25567) * 86400 + (s / 4294967296 - (day + 25567) * 86400) % 4294967296) / 86400 := by rw [hR]; exact exact_tdiv _
  have h1 : ((day + 25567) * 86400 + (s / 4294967296 - (day + 25567) * 86400) % 4294967296) / 86400 - 25567 = nearDay s day := by rw [hT]; rfl
  have H1 := Lib.hid h1
  rw [← h1] at hn
  have h2 : (s / 4294967296 - (day + 25567) * 86400) % 4294967296 % 86400 * 1000000000 + 999999999 = nearNano s day := by rw [hR, hT]; unfold nearNano nearN; rw [if_neg (by omega)]
  have H2 := Lib.hid h2
  have e2 := low32 s s0 s1
  clear h2
  clear h1 hT hR
  go_enter Try.func12, Try.ntmps12
  go_wp2_with fail
  refine (era_isDay _ _).mono ?_; rintro e w1 ⟨rfl, hb1⟩; obtain ⟨hc1, hf1⟩ := bcell hb1; have hz1 := hb1.size; (try simp only [World.size_alloc, World.size_setCell, World.heap_drewN] at hb1 hc1 hf1 hz1); (try have ha01 : w.heap.size < w1.heap.size := by omega); (try have ha11 : w.heap.size + 1 < w1.heap.size := by omega); (try have ha21 : w.heap.size + 2 < w1.heap.size := by omega); (try have hal1 : w.heap.size ≤ w1.heap.size := by omega); (try have ham1 : w.heap.size < w1.heap.size + 2 := by omega)
  rw [h]
  go_wp2_with (first | (go_at_call 16; refine (era_begins _ _ (by omega) (by omega)).mono ?_; rintro e w' ⟨rfl, rfl⟩) | (go_at_call 15; refine (era_modulo _ _ _ (by omega) (by omega)).mono ?_; rintro e w' ⟨rfl, rfl⟩))
  refine (era_isDay _ _).mono ?_; rintro e w2 ⟨rfl, hb2⟩; obtain ⟨hc2, hf2⟩ := bcell hb2; have hz2 := hb2.size; (try simp only [World.size_alloc, World.size_setCell, World.heap_drewN] at hb2 hc2 hf2 hz2); (try have ha02 : w.heap.size < w2.heap.size := by omega); (try have ha12 : w.heap.size + 1 < w2.heap.size := by omega); (try have ha22 : w.heap.size + 2 < w2.heap.size := by omega); (try have hal2 : w.heap.size ≤ w2.heap.size := by omega); (try have ham2 : w.heap.size < w2.heap.size + 2 := by omega); (try have hb02 : w1.heap.size < w2.heap.size := by omega); (try have hb12 : w1.heap.size + 1 < w2.heap.size := by omega); (try have hb22 : w1.heap.size + 2 < w2.heap.size := by omega); (try have hbl2 : w1.heap.size ≤ w2.heap.size := by omega); (try have hbm2 : w1.heap.size < w2.heap.size + 2 := by omega)
  rw [hn]
  have y0 : w1.cell? ⟨w.heap.size, 0, none⟩ = some (.int .i64 0) := by rw [hc1 _ _ (by omega)]; simp
  have z0 : w2.cell? ⟨w.heap.size, 0, none⟩ = some (.int .i64 0) := by rw [hc2 _ _ (by omega), World.cell?_alloc_past _ _ _ ha01]; exact y0
  have y1 : w1.cell? ⟨w.heap.size, 1, none⟩ = some (.int .i64 0) := by rw [hc1 _ _ (by omega)]; simp
  have z1 : w2.cell? ⟨w.heap.size, 1, none⟩ = some (.int .i64 0) := by rw [hc2 _ _ (by omega), World.cell?_alloc_past _ _ _ ha01]; exact y1
  go_wp2_with fail
  refine bodyPost_ret (v := .tuple #[.agg #[.int .i64 (((day + 25567) * 86400 + (s / 4294967296 - (day + 25567) * 86400) % 4294967296) / 86400 - 25567), .int .i64 ((s / 4294967296 - (day + 25567) * 86400) % 4294967296 % 86400 * 1000000000 + 999999999)], .int .i64 0]) (by simp [results, Try.results12, go_sem, z0, z1]) rfl ⟨ret_utc H1.out H2.out, ?_⟩
  go_light
  (repeat' (first | (with_reducible exact Below.refl _ _) | (with_reducible assumption) | (with_reducible refine Below.trans ?_ (Below.mono (by with_reducible assumption) ?_)) | (with_reducible refine Below.alloc ?_ ?_ _) | (with_reducible refine Below.setCell ?_ ?_ _) | (with_reducible refine below_drewN ?_ _) | (with_reducible refine Below.drew ?_) | go_size))
set_option maxHeartbeats 1000000 in
theorem era_near_Bx (s day : Int) (w : World) (h : dayB day = true) (s0 : 0 ≤ s) (s1 : s < 18446744073709551616) (hs : 2147483648 ≤ (s / 4294967296 - (day + 25567) * 86400) % 4294967296) (hn : dayB (nearDay s day) = false)  : Calls Try.prog 12 #[.int .u64 s, .int .i64 day] w fun e w' => e = .returned (.tuple #[.agg #[.int .i64 0, .int .i64 0], .int .i64 11]) ∧ Below w.heap.size w w' := by
  obtain ⟨d0, d1⟩ := dayB_yes h
  have hT : (day + 25567) * 86400 + ((s / 4294967296 - (day + 25567) * 86400) % 4294967296 - 4294967296) = nearT s day := by unfold nearT; rw [if_neg (by omega)]; omega
  have hR : ((s / 4294967296 - (day + 25567) * 86400) % 4294967296 - 4294967296) % 86400 = ((day + 25567) * 86400 + ((s / 4294967296 - (day + 25567) * 86400) % 4294967296 - 4294967296)) % 86400 := by omega
  have e1 : ((day + 25567) * 86400 + ((s / 4294967296 - (day + 25567) * 86400) % 4294967296 - 4294967296) - ((s / 4294967296 - (day + 25567) * 86400) % 4294967296 - 4294967296) % 86400).tdiv 86400 = ((day + 25567) * 86400 + ((s / 4294967296 - (day + 25567) * 86400) % 4294967296 - 4294967296)) / 86400 := by rw [hR]; exact exact_tdiv _
  have h1 : ((day + 25567) * 86400 + ((s / 4294967296 - (day + 25567) * 86400) % 4294967296 - 4294967296)) / 86400 - 25567 = nearDay s day := by rw [hT]; rfl
  have H1 := Lib.hid h1
  rw [← h1] at hn
  clear h1 hT hR
  go_enter Try.func12, Try.ntmps12
  go_wp2_with fail
  refine (era_isDay _ _).mono ?_; rintro e w1 ⟨rfl, hb1⟩; obtain ⟨hc1, hf1⟩ := bcell hb1; have hz1 := hb1.size; (try simp only [World.size_alloc, World.size_setCell, World.heap_drewN] at hb1 hc1 hf1 hz1); (try have ha01 : w.heap.size < w1.heap.size := by omega); (try have ha11 : w.heap.size + 1 < w1.heap.size := by omega); (try have ha21 : w.heap.size + 2 < w1.heap.size := by omega); (try have hal1 : w.heap.size ≤ w1.heap.size := by omega); (try have ham1 : w.heap.size < w1.heap.size + 2 := by omega)
  rw [h]
  go_wp2_with (first | (go_at_call 16; refine (era_begins _ _ (by omega) (by omega)).mono ?_; rintro e w' ⟨rfl, rfl⟩) | (go_at_call 15; refine (era_modulo _ _ _ (by omega) (by omega)).mono ?_; rintro e w' ⟨rfl, rfl⟩))
  refine (era_isDay _ _).mono ?_; rintro e w2 ⟨rfl, hb2⟩; obtain ⟨hc2, hf2⟩ := bcell hb2; have hz2 := hb2.size; (try simp only [World.size_alloc, World.size_setCell, World.heap_drewN] at hb2 hc2 hf2 hz2); (try have ha02 : w.heap.size < w2.heap.size := by omega); (try have ha12 : w.heap.size + 1 < w2.heap.size := by omega); (try have ha22 : w.heap.size + 2 < w2.heap.size := by omega); (try have hal2 : w.heap.size ≤ w2.heap.size := by omega); (try have ham2 : w.heap.size < w2.heap.size + 2 := by omega); (try have hb02 : w1.heap.size < w2.heap.size := by omega); (try have hb12 : w1.heap.size + 1 < w2.heap.size := by omega); (try have hb22 : w1.heap.size + 2 < w2.heap.size := by omega); (try have hbl2 : w1.heap.size ≤ w2.heap.size := by omega); (try have hbm2 : w1.heap.size < w2.heap.size + 2 := by omega)
  rw [hn]
  have y0 : w1.cell? ⟨w.heap.size, 0, none⟩ = some (.int .i64 0) := by rw [hc1 _ _ (by omega)]; simp
  have z0 : w2.cell? ⟨w.heap.size, 0, none⟩ = some (.int .i64 0) := by rw [hc2 _ _ (by omega), World.cell?_alloc_past _ _ _ ha01]; exact y0
  have y1 : w1.cell? ⟨w.heap.size, 1, none⟩ = some (.int .i64 0) := by rw [hc1 _ _ (by omega)]; simp
  have z1 : w2.cell? ⟨w.heap.size, 1, none⟩ = some (.int .i64 0) := by rw [hc2 _ _ (by omega), World.cell?_alloc_past _ _ _ ha01]; exact y1
  go_wp2_with fail
  refine bodyPost_ret (v := .tuple #[.agg #[.int .i64 0, .int .i64 0], .int .i64 11]) (by simp [results, Try.results12, go_sem, z0, z1]) rfl ⟨rfl, ?_⟩
  go_light
  (repeat' (first | (with_reducible exact Below.refl _ _) | (with_reducible assumption) | (with_reducible refine Below.trans ?_ (Below.mono (by with_reducible assumption) ?_)) | (with_reducible refine Below.alloc ?_ ?_ _) | (with_reducible refine Below.setCell ?_ ?_ _) | (with_reducible refine below_drewN ?_ _) | (with_reducible refine Below.drew ?_) | go_size))
set_option maxHeartbeats 1000000 in
theorem era_near_B1 (s day : Int) (w : World) (h : dayB day = true) (s0 : 0 ≤ s) (s1 : s < 18446744073709551616) (hs : 2147483648 ≤ (s / 4294967296 - (day + 25567) * 86400) % 4294967296) (hn : dayB (nearDay s day) = true) (hp : (s % 4294967296 * 1000000000 + 4294967296 - 1) / 4294967296 ≤ 999999999) : Calls Try.prog 12 #[.int .u64 s, .int .i64 day] w fun e w' => e = .returned (.tuple #[.agg #[.int .i64 (nearDay s day), .int .i64 (nearNano s day)], .int .i64 0]) ∧ Below w.heap.size w w' := by
  obtain ⟨d0, d1⟩ := dayB_yes h
  have hT : (day + 25567) * 86400 + ((s / 4294967296 - (day + 25567) * 86400) % 4294967296 - 4294967296) = nearT s day := by unfold nearT; rw [if_neg (by omega)]; omega
  have hR : ((s / 4294967296 - (day + 25567) * 86400) % 4294967296 - 4294967296) % 86400 = ((day + 25567) * 86400 + ((s / 4294967296 - (day + 25567) * 86400) % 4294967296 - 4294967296)) % 86400 := by omega
  have e1 : ((day + 25567) * 86400 + ((s / 4294967296 - (day + 25567) * 86400) % 4294967296 - 4294967296) - ((s / 4294967296 - (day + 25567) * 86400) % 4294967296 - 4294967296) % 86400).tdiv 86400 = ((day + 25567) * 86400 + ((s / 4294967296 - (day + 25567) * 86400) % 4294967296 - 4294967296)) / 86400 := by rw [hR]; exact exact_tdiv _
  have h1 : ((day + 25567) * 86400 + ((s / 4294967296 - (day + 25567) * 86400) % 4294967296 - 4294967296)) / 86400 - 25567 = nearDay s day := by rw [hT]; rfl
  have H1 := Lib.hid h1
  rw [← h1] at hn
  have h2 : ((s / 4294967296 - (day + 25567) * 86400) % 4294967296 - 4294967296) % 86400 * 1000000000 + (s % 4294967296 * 1000000000 + 4294967296 - 1) / 4294967296 = nearNano s day := by rw [hR, hT]; unfold nearNano nearN; rw [if_pos (by omega)]; omega
  have H2 := Lib.hid h2
  have e2 := low32 s s0 s1
  clear h2
  clear h1 hT hR
  go_enter Try.func12, Try.ntmps12
  go_wp2_with fail
  refine (era_isDay _ _).mono ?_; rintro e w1 ⟨rfl, hb1⟩; obtain ⟨hc1, hf1⟩ := bcell hb1; have hz1 := hb1.size; (try simp only [World.size_alloc, World.size_setCell, World.heap_drewN] at hb1 hc1 hf1 hz1); (try have ha01 : w.heap.size < w1.heap.size := by omega); (try have ha11 : w.heap.size + 1 < w1.heap.size := by omega); (try have ha21 : w.heap.size + 2 < w1.heap.size := by omega); (try have hal1 : w.heap.size ≤ w1.heap.size := by omega); (try have ham1 : w.heap.size < w1.heap.size + 2 := by omega)
  rw [h]
  go_wp2_with (first | (go_at_call 16; refine (era_begins _ _ (by omega) (by omega)).mono ?_; rintro e w' ⟨rfl, rfl⟩) | (go_at_call 15; refine (era_modulo _ _ _ (by omega) (by omega)).mono ?_; rintro e w' ⟨rfl, rfl⟩))
  refine (era_isDay _ _).mono ?_; rintro e w2 ⟨rfl, hb2⟩; obtain ⟨hc2, hf2⟩ := bcell hb2; have hz2 := hb2.size; (try simp only [World.size_alloc, World.size_setCell, World.heap_drewN] at hb2 hc2 hf2 hz2); (try have ha02 : w.heap.size < w2.heap.size := by omega); (try have ha12 : w.heap.size + 1 < w2.heap.size := by omega); (try have ha22 : w.heap.size + 2 < w2.heap.size := by omega); (try have hal2 : w.heap.size ≤ w2.heap.size := by omega); (try have ham2 : w.heap.size < w2.heap.size + 2 := by omega); (try have hb02 : w1.heap.size < w2.heap.size := by omega); (try have hb12 : w1.heap.size + 1 < w2.heap.size := by omega); (try have hb22 : w1.heap.size + 2 < w2.heap.size := by omega); (try have hbl2 : w1.heap.size ≤ w2.heap.size := by omega); (try have hbm2 : w1.heap.size < w2.heap.size + 2 := by omega)
  rw [hn]
  have y0 : w1.cell? ⟨w.heap.size, 0, none⟩ = some (.int .i64 0) := by rw [hc1 _ _ (by omega)]; simp
  have z0 : w2.cell? ⟨w.heap.size, 0, none⟩ = some (.int .i64 0) := by rw [hc2 _ _ (by omega), World.cell?_alloc_past _ _ _ ha01]; exact y0
  have y1 : w1.cell? ⟨w.heap.size, 1, none⟩ = some (.int .i64 0) := by rw [hc1 _ _ (by omega)]; simp
  have z1 : w2.cell? ⟨w.heap.size, 1, none⟩ = some (.int .i64 0) := by rw [hc2 _ _ (by omega), World.cell?_alloc_past _ _ _ ha01]; exact y1
  go_wp2_with fail
  refine bodyPost_ret (v := .tuple #[.agg #[.int .i64 (((day + 25567) * 86400 + ((s / 4294967296 - (day + 25567) * 86400) % 4294967296 - 4294967296)) / 86400 - 25567), .int .i64 (((s / 4294967296 - (day + 25567) * 86400) % 4294967296 - 4294967296) % 86400 * 1000000000 + (s % 4294967296 * 1000000000 + 4294967296 - 1) / 4294967296)], .int .i64 0]) (by simp [results, Try.results12, go_sem, z0, z1]) rfl ⟨ret_utc H1.out H2.out, ?_⟩
  go_light
  (repeat' (first | (with_reducible exact Below.refl _ _) | (with_reducible assumption) | (with_reducible refine Below.trans ?_ (Below.mono (by with_reducible assumption) ?_)) | (with_reducible refine Below.alloc ?_ ?_ _) | (with_reducible refine Below.setCell ?_ ?_ _) | (with_reducible refine below_drewN ?_ _) | (with_reducible refine Below.drew ?_) | go_size))
set_option maxHeartbeats 1000000 in
theorem era_near_B2 (s day : Int) (w : World) (h : dayB day = true) (s0 : 0 ≤ s) (s1 : s < 18446744073709551616) (hs : 2147483648 ≤ (s / 4294967296 - (day + 25567) * 86400) % 4294967296) (hn : dayB (nearDay s day) = true) (hp : 999999999 < (s % 4294967296 * 1000000000 + 4294967296 - 1) / 4294967296) : Calls Try.prog 12 #[.int .u64 s, .int .i64 day] w fun e w' => e = .returned (.tuple #[.agg #[.int .i64 (nearDay s day), .int .i64 (nearNano s day)], .int .i64 0]) ∧ Below w.heap.size w w' := by
  obtain ⟨d0, d1⟩ := dayB_yes h
  have hT : (day + 25567) * 86400 + ((s / 4294967296 - (day + 25567) * 86400) % 4294967296 - 4294967296) = nearT s day := by unfold nearT; rw [if_neg (by omega)]; omega
  have hR : ((s / 4294967296 - (day + 25567) * 86400) % 4294967296 - 4294967296) % 86400 = ((day + 25567) * 86400 + ((s / 4294967296 - (day + 25567) * 86400) % 4294967296 - 4294967296)) % 86400 := by omega
  have e1 : ((day + 25567) * 86400 + ((s / 4294967296 - (day + 25567) * 86400) % 4294967296 - 4294967296) - ((s / 4294967296 - (day + 25567) * 86400) % 4294967296 - 4294967296) % 86400).tdiv 86400 = ((day + 25567) * 86400 + ((s / 4294967296 - (day + 25567) * 86400) % 4294967296 - 4294967296)) / 86400 := by rw [hR]; exact exact_tdiv _
  have h1 : ((day + 25567) * 86400 + ((s / 4294967296 - (day + 25567) * 86400) % 4294967296 - 4294967296)) / 86400 - 25567 = nearDay s day := by rw [hT]; rfl
  have H1 := Lib.hid h1
  rw [← h1] at hn
  have h2 : ((s / 4294967296 - (day + 25567) * 86400) % 4294967296 - 4294967296) % 86400 * 1000000000 + 999999999 = nearNano s day := by rw [hR, hT]; unfold nearNano nearN; rw [if_neg (by omega)]
  have H2 := Lib.hid h2
  have e2 := low32 s s0 s1
  clear h2
  clear h1 hT hR
  go_enter Try.func12, Try.ntmps12
  go_wp2_with fail
  refine (era_isDay _ _).mono ?_; rintro e w1 ⟨rfl, hb1⟩; obtain ⟨hc1, hf1⟩ := bcell hb1; have hz1 := hb1.size; (try simp only [World.size_alloc, World.size_setCell, World.heap_drewN] at hb1 hc1 hf1 hz1); (try have ha01 : w.heap.size < w1.heap.size := by omega); (try have ha11 : w.heap.size + 1 < w1.heap.size := by omega); (try have ha21 : w.heap.size + 2 < w1.heap.size := by omega); (try have hal1 : w.heap.size ≤ w1.heap.size := by omega); (try have ham1 : w.heap.size < w1.heap.size + 2 := by omega)
  rw [h]
  go_wp2_with (first | (go_at_call 16; refine (era_begins _ _ (by omega) (by omega)).mono ?_; rintro e w' ⟨rfl, rfl⟩) | (go_at_call 15; refine (era_modulo _ _ _ (by omega) (by omega)).mono ?_; rintro e w' ⟨rfl, rfl⟩))
  refine (era_isDay _ _).mono ?_; rintro e w2 ⟨rfl, hb2⟩; obtain ⟨hc2, hf2⟩ := bcell hb2; have hz2 := hb2.size; (try simp only [World.size_alloc, World.size_setCell, World.heap_drewN] at hb2 hc2 hf2 hz2); (try have ha02 : w.heap.size < w2.heap.size := by omega); (try have ha12 : w.heap.size + 1 < w2.heap.size := by omega); (try have ha22 : w.heap.size + 2 < w2.heap.size := by omega); (try have hal2 : w.heap.size ≤ w2.heap.size := by omega); (try have ham2 : w.heap.size < w2.heap.size + 2 := by omega); (try have hb02 : w1.heap.size < w2.heap.size := by omega); (try have hb12 : w1.heap.size + 1 < w2.heap.size := by omega); (try have hb22 : w1.heap.size + 2 < w2.heap.size := by omega); (try have hbl2 : w1.heap.size ≤ w2.heap.size := by omega); (try have hbm2 : w1.heap.size < w2.heap.size + 2 := by omega)
  rw [hn]
  have y0 : w1.cell? ⟨w.heap.size, 0, none⟩ = some (.int .i64 0) := by rw [hc1 _ _ (by omega)]; simp
  have z0 : w2.cell? ⟨w.heap.size, 0, none⟩ = some (.int .i64 0) := by rw [hc2 _ _ (by omega), World.cell?_alloc_past _ _ _ ha01]; exact y0
  have y1 : w1.cell? ⟨w.heap.size, 1, none⟩ = some (.int .i64 0) := by rw [hc1 _ _ (by omega)]; simp
  have z1 : w2.cell? ⟨w.heap.size, 1, none⟩ = some (.int .i64 0) := by rw [hc2 _ _ (by omega), World.cell?_alloc_past _ _ _ ha01]; exact y1
  go_wp2_with fail
  refine bodyPost_ret (v := .tuple #[.agg #[.int .i64 (((day + 25567) * 86400 + ((s / 4294967296 - (day + 25567) * 86400) % 4294967296 - 4294967296)) / 86400 - 25567), .int .i64 (((s / 4294967296 - (day + 25567) * 86400) % 4294967296 - 4294967296) % 86400 * 1000000000 + 999999999)], .int .i64 0]) (by simp [results, Try.results12, go_sem, z0, z1]) rfl ⟨ret_utc H1.out H2.out, ?_⟩
  go_light
  (repeat' (first | (with_reducible exact Below.refl _ _) | (with_reducible assumption) | (with_reducible refine Below.trans ?_ (Below.mono (by with_reducible assumption) ?_)) | (with_reducible refine Below.alloc ?_ ?_ _) | (with_reducible refine Below.setCell ?_ ?_ _) | (with_reducible refine below_drewN ?_ _) | (with_reducible refine Below.drew ?_) | go_size))
theorem ref4_floor (a b : Int) (w : World) (h0 : 1 ≤ b) (h1 : b ≤ 4294967296) (a0 : -9000000000000000000 ≤ a) (a1 : a ≤ 9000000000000000000) : Calls Try.prog 19 #[.int .i64 a, .int .i64 b] w fun e w' => e = .returned (.int .i64 (a / b)) ∧ w = w' := by
  have hb0 : (b == 0) = false := by simp; omega
  have q := Int.tdiv_eq_ediv (a := a) (b := b)
  have r := Int.tmod_eq_emod (a := a) (b := b)
  have m0 := Int.emod_nonneg a (show b ≠ 0 by omega)
  have m1 := Int.emod_lt_of_pos a (show 0 < b by omega)
  have dm := Int.mul_ediv_add_emod a b
  have sg : b.sign = 1 := Int.sign_eq_one_of_pos (by omega)
  have bd1 : -9000000000000000000 ≤ a / b := by
    rcases (show 0 ≤ a ∨ a < 0 from by omega) with h | h
    · have := Int.ediv_nonneg h (show 0 ≤ b by omega); omega
    · have := Int.le_ediv_of_mul_le (c := b) (a := a) (b := a) (by omega) (by have := Int.mul_le_mul_of_nonpos_left (show a ≤ 0 by omega) (show 1 ≤ b by omega); omega); omega
  have bd2 : a / b ≤ 9000000000000000000 := by
    rcases (show 0 ≤ a ∨ a < 0 from by omega) with h | h
    · have := Int.ediv_le_self b h; omega
    · have := Int.ediv_neg_of_neg_of_pos h (show 0 < b by omega); omega
  by_cases hc : 0 ≤ a ∨ b ∣ a
  · rw [if_pos hc] at q r
    have q1 : a.tdiv b = a / b := by omega
    have hr : decide (a.tmod b < 0) = false := by simp; omega
    have HQ := Lib.hid q1
    have b1 : -9000000000000000000 ≤ a.tdiv b ∧ a.tdiv b ≤ 9000000000000000000 := by omega
    clear q r dm q1 hc
    go_enter Try.func19, Try.ntmps19
    go_wp2
    go_ret
    exact ⟨ret_int HQ.out, rfl⟩
  · rw [if_neg hc] at q r
    have hd : a % b ≠ 0 := fun h => hc (.inr (Int.dvd_of_emod_eq_zero h))
    have q1 : a.tdiv b - 1 = a / b := by rw [sg] at q; omega
    have hr : a.tmod b < 0 := by
      have : (b.natAbs : Int) = b := by omega
      omega
    have HQ := Lib.hid q1
    have b1 : -9000000000000000000 ≤ a.tdiv b - 1 ∧ a.tdiv b - 1 ≤ 9000000000000000000 := by omega
    clear q r dm q1 hc
    go_enter Try.func19, Try.ntmps19
    go_wp2
    go_ret
    exact ⟨ret_int HQ.out, rfl⟩
set_option maxHeartbeats 400000 in
theorem ref5_near_no (s day : Int) (w : World) (h : dayB day = false) : Calls Try.prog 13 #[.int .u64 s, .int .i64 day] w fun e w' => e = .returned (.tuple #[.agg #[.int .i64 0, .int .i64 0], .int .i64 1]) ∧ Below w.heap.size w w' := by
  go_enter Try.func13, Try.ntmps13
  go_wp2_with (go_at_call 17; refine (ref2_in_dayB day _).mono ?_; rintro e w' ⟨rfl, rfl⟩)
  refine bodyPost_ret (v := .tuple #[.agg #[.int .i64 0, .int .i64 0], .int .i64 1]) (by simp [results, Try.results13, go_sem]) rfl ⟨rfl, ?_⟩
  go_light
  (repeat' (first | (with_reducible exact Below.refl _ _) | (with_reducible assumption) | (with_reducible refine Below.trans ?_ (Below.mono (by with_reducible assumption) ?_)) | (with_reducible refine Below.alloc ?_ ?_ _) | (with_reducible refine Below.setCell ?_ ?_ _) | (with_reducible refine below_drewN ?_ _) | (with_reducible refine Below.drew ?_) | go_size))
set_option maxHeartbeats 1000000 in
theorem ref5_near_Ax1 (s day : Int) (w : World) (h : dayB day = true) (s0 : 0 ≤ s) (s1 : s < 18446744073709551616) (hs : (day + 25567) * 86400 - (s / 4294967296 + ((day + 25567) * 86400 - s / 4294967296) / 4294967296 * 4294967296) ≤ s / 4294967296 + ((day + 25567) * 86400 - s / 4294967296) / 4294967296 * 4294967296 + 4294967296 - (day + 25567) * 86400) (hn : dayB (nearDay s day) = false) (hp : (s % 4294967296 * 1000000000 + 4294967296 - 1) / 4294967296 ≤ 999999999) : Calls Try.prog 13 #[.int .u64 s, .int .i64 day] w fun e w' => e = .returned (.tuple #[.agg #[.int .i64 0, .int .i64 0], .int .i64 11]) ∧ Below w.heap.size w w' := by
  obtain ⟨d0, d1⟩ := dayB_yes h
  have hT : s / 4294967296 + ((day + 25567) * 86400 - s / 4294967296) / 4294967296 * 4294967296 = nearT s day := by unfold nearT; split <;> omega
  have h1 : (s / 4294967296 + ((day + 25567) * 86400 - s / 4294967296) / 4294967296 * 4294967296) / 86400 - 25567 = nearDay s day := by rw [hT]; rfl
  have H1 := Lib.hid h1
  rw [← h1] at hn
  have e2 := low32 s s0 s1
  clear h1 hT
  go_enter Try.func13, Try.ntmps13
  go_wp2_with fail
  refine (ref2_in_dayB _ _).mono ?_; rintro e w' ⟨rfl, rfl⟩
  rw [h]
  go_wp2_with (go_at_call 19; refine (ref4_floor _ _ _ (by omega) (by omega) (by omega) (by omega)).mono ?_; rintro e w' ⟨rfl, rfl⟩)
  refine (ref2_in_dayB _ _).mono ?_; rintro e w' ⟨rfl, rfl⟩
  rw [hn]
  go_wp2_with fail
  refine bodyPost_ret (v := .tuple #[.agg #[.int .i64 0, .int .i64 0], .int .i64 11]) (by simp [results, Try.results13, go_sem]) rfl ⟨rfl, ?_⟩
  go_light
  (repeat' (first | (with_reducible exact Below.refl _ _) | (with_reducible assumption) | (with_reducible refine Below.trans ?_ (Below.mono (by with_reducible assumption) ?_)) | (with_reducible refine Below.alloc ?_ ?_ _) | (with_reducible refine Below.setCell ?_ ?_ _) | (with_reducible refine below_drewN ?_ _) | (with_reducible refine Below.drew ?_) | go_size))
set_option maxHeartbeats 1000000 in
theorem ref5_near_Ax2 (s day : Int) (w : World) (h : dayB day = true) (s0 : 0 ≤ s) (s1 : s < 18446744073709551616) (hs : (day + 25567) * 86400 - (s / 4294967296 + ((day + 25567) * 86400 - s / 4294967296) / 4294967296 * 4294967296) ≤ s / 4294967296 + ((day + 25567) * 86400 - s / 4294967296) / 4294967296 * 4294967296 + 4294967296 - (day + 25567) * 86400) (hn : dayB (nearDay s day) = false) (hp : 999999999 < (s % 4294967296 * 1000000000 + 4294967296 - 1) / 4294967296) : Calls Try.prog 13 #[.int .u64 s, .int .i64 day] w fun e w' => e = .returned (.tuple #[.agg #[.int .i64 0, .int .i64 0], .int .i64 11]) ∧ Below w.heap.size w w' := by
  obtain ⟨d0, d1⟩ := dayB_yes h
  have hT : s / 4294967296 + ((day + 25567) * 86400 - s / 4294967296) / 4294967296 * 4294967296 = nearT s day := by unfold nearT; split <;> omega
  have h1 : (s / 4294967296 + ((day + 25567) * 86400 - s / 4294967296) / 4294967296 * 4294967296) / 86400 - 25567 = nearDay s day := by rw [hT]; rfl
  have H1 := Lib.hid h1
  rw [← h1] at hn
  have e2 := low32 s s0 s1
  clear h1 hT
  go_enter Try.func13, Try.ntmps13
  go_wp2_with fail
  refine (ref2_in_dayB _ _).mono ?_; rintro e w' ⟨rfl, rfl⟩
  rw [h]
  go_wp2_with (go_at_call 19; refine (ref4_floor _ _ _ (by omega) (by omega) (by omega) (by omega)).mono ?_; rintro e w' ⟨rfl, rfl⟩)
  refine (ref2_in_dayB _ _).mono ?_; rintro e w' ⟨rfl, rfl⟩
  rw [hn]
  go_wp2_with fail
  refine bodyPost_ret (v := .tuple #[.agg #[.int .i64 0, .int .i64 0], .int .i64 11]) (by simp [results, Try.results13, go_sem]) rfl ⟨rfl, ?_⟩
  go_light
  (repeat' (first | (with_reducible exact Below.refl _ _) | (with_reducible assumption) | (with_reducible refine Below.trans ?_ (Below.mono (by with_reducible assumption) ?_)) | (with_reducible refine Below.alloc ?_ ?_ _) | (with_reducible refine Below.setCell ?_ ?_ _) | (with_reducible refine below_drewN ?_ _) | (with_reducible refine Below.drew ?_) | go_size))
set_option maxHeartbeats 1000000 in
theorem ref5_near_A1 (s day : Int) (w : World) (h : dayB day = true) (s0 : 0 ≤ s) (s1 : s < 18446744073709551616) (hs : (day + 25567) * 86400 - (s / 4294967296 + ((day + 25567) * 86400 - s / 4294967296) / 4294967296 * 4294967296) ≤ s / 4294967296 + ((day + 25567) * 86400 - s / 4294967296) / 4294967296 * 4294967296 + 4294967296 - (day + 25567) * 86400) (hn : dayB (nearDay s day) = true) (hp : (s % 4294967296 * 1000000000 + 4294967296 - 1) / 4294967296 ≤ 999999999) : Calls Try.prog 13 #[.int .u64 s, .int .i64 day] w fun e w' => e = .returned (.tuple #[.agg #[.int .i64 (nearDay s day), .int .i64 (nearNano s day)], .int .i64 0]) ∧ Below w.heap.size w w' := by
  obtain ⟨d0, d1⟩ := dayB_yes h
  have hT : s / 4294967296 + ((day + 25567) * 86400 - s / 4294967296) / 4294967296 * 4294967296 = nearT s day := by unfold nearT; split <;> omega
  have h1 : (s / 4294967296 + ((day + 25567) * 86400 - s / 4294967296) / 4294967296 * 4294967296) / 86400 - 25567 = nearDay s day := by rw [hT]; rfl
  have H1 := Lib.hid h1
  rw [← h1] at hn
  have e2 := low32 s s0 s1
  have h2 : (s / 4294967296 + ((day + 25567) * 86400 - s / 4294967296) / 4294967296 * 4294967296 - (s / 4294967296 + ((day + 25567) * 86400 - s / 4294967296) / 4294967296 * 4294967296) / 86400 * 86400) * 1000000000 + (s % 4294967296 * 1000000000 + 4294967296 - 1) / 4294967296 = nearNano s day := by rw [hT]; unfold nearNano nearN; rw [if_pos (by omega)]; omega
  have H2 := Lib.hid h2
  clear h2
  clear h1 hT
  go_enter Try.func13, Try.ntmps13
  go_wp2_with fail
  refine (ref2_in_dayB _ _).mono ?_; rintro e w' ⟨rfl, rfl⟩
  rw [h]
  go_wp2_with (go_at_call 19; refine (ref4_floor _ _ _ (by omega) (by omega) (by omega) (by omega)).mono ?_; rintro e w' ⟨rfl, rfl⟩)
  refine (ref2_in_dayB _ _).mono ?_; rintro e w' ⟨rfl, rfl⟩
  rw [hn]
  go_wp2_with fail
  refine bodyPost_ret (v := .tuple #[.agg #[.int .i64 ((s / 4294967296 + ((day + 25567) * 86400 - s / 4294967296) / 4294967296 * 4294967296) / 86400 - 25567), .int .i64 ((s / 4294967296 + ((day + 25567) * 86400 - s / 4294967296) / 4294967296 * 4294967296 - (s / 4294967296 + ((day + 25567) * 86400 - s / 4294967296) / 4294967296 * 4294967296) / 86400 * 86400) * 1000000000 + (s % 4294967296 * 1000000000 + 4294967296 - 1) / 4294967296)], .int .i64 0]) (by simp [results, Try.results13, go_sem]) rfl ⟨ret_utc H1.out H2.out, ?_⟩
  go_light
  (repeat' (first | (with_reducible exact Below.refl _ _) | (with_reducible assumption) | (with_reducible refine Below.trans ?_ (Below.mono (by with_reducible assumption) ?_)) | (with_reducible refine Below.alloc ?_ ?_ _) | (with_reducible refine Below.setCell ?_ ?_ _) | (with_reducible refine below_drewN ?_ _) | (with_reducible refine Below.drew ?_) | go_size))
set_option maxHeartbeats 1000000 in
theorem ref5_near_A2 (s day : Int) (w : World) (h : dayB day = true) (s0 : 0 ≤ s) (s1 : s < 18446744073709551616) (hs : (day + 25567) * 86400 - (s / 4294967296 + ((day + 25567) * 86400 - s / 4294967296) / 4294967296 * 4294967296) ≤ s / 4294967296 + ((day + 25567) * 86400 - s / 4294967296) / 4294967296 * 4294967296 + 4294967296 - (day + 25567) * 86400) (hn : dayB (nearDay s day) = true) (hp : 999999999 < (s % 4294967296 * 1000000000 + 4294967296 - 1) / 4294967296) : Calls Try.prog 13 #[.int .u64 s, .int .i64 day] w fun e w' => e = .returned (.tuple #[.agg #[.int .i64 (nearDay s day), .int .i64 (nearNano s day)], .int .i64 0]) ∧ Below w.heap.size w w' := by
  obtain ⟨d0, d1⟩ := dayB_yes h
  have hT : s / 4294967296 + ((day + 25567) * 86400 - s / 4294967296) / 4294967296 * 4294967296 = nearT s day := by unfold nearT; split <;> omega
  have h1 : (s / 4294967296 + ((day + 25567) * 86400 - s / 4294967296) / 4294967296 * 4294967296) / 86400 - 25567 = nearDay s day := by rw [hT]; rfl
  have H1 := Lib.hid h1
  rw [← h1] at hn
  have e2 := low32 s s0 s1
  have h2 : (s / 4294967296 + ((day + 25567) * 86400 - s / 4294967296) / 4294967296 * 4294967296 - (s / 4294967296 + ((day + 25567) * 86400 - s / 4294967296) / 4294967296 * 4294967296) / 86400 * 86400) * 1000000000 + 999999999 = nearNano s day := by rw [hT]; unfold nearNano nearN; rw [if_neg (by omega)]; omega
  have H2 := Lib.hid h2
  clear h2
  clear h1 hT
  go_enter Try.func13, Try.ntmps13
  go_wp2_with fail
  refine (ref2_in_dayB _ _).mono ?_; rintro e w' ⟨rfl, rfl⟩
  rw [h]
  go_wp2_with (go_at_call 19; refine (ref4_floor _ _ _ (by omega) (by omega) (by omega) (by omega)).mono ?_; rintro e w' ⟨rfl, rfl⟩)
  refine (ref2_in_dayB _ _).mono ?_; rintro e w' ⟨rfl, rfl⟩
  rw [hn]
  go_wp2_with fail
  refine bodyPost_ret (v := .tuple #[.agg #[.int .i64 ((s / 4294967296 + ((day + 25567) * 86400 - s / 4294967296) / 4294967296 * 4294967296) / 86400 - 25567), .int .i64 ((s / 4294967296 + ((day + 25567) * 86400 - s / 4294967296) / 4294967296 * 4294967296 - (s / 4294967296 + ((day + 25567) * 86400 - s / 4294967296) / 4294967296 * 4294967296) / 86400 * 86400) * 1000000000 + 999999999)], .int .i64 0]) (by simp [results, Try.results13, go_sem]) rfl ⟨ret_utc H1.out H2.out, ?_⟩
  go_light
  (repeat' (first | (with_reducible exact Below.refl _ _) | (with_reducible assumption) | (with_reducible refine Below.trans ?_ (Below.mono (by with_reducible assumption) ?_)) | (with_reducible refine Below.alloc ?_ ?_ _) | (with_reducible refine Below.setCell ?_ ?_ _) | (with_reducible refine below_drewN ?_ _) | (with_reducible refine Below.drew ?_) | go_size))
set_option maxHeartbeats 1000000 in
theorem ref5_near_Bx1 (s day : Int) (w : World) (h : dayB day = true) (s0 : 0 ≤ s) (s1 : s < 18446744073709551616) (hs : s / 4294967296 + ((day + 25567) * 86400 - s / 4294967296) / 4294967296 * 4294967296 + 4294967296 - (day + 25567) * 86400 < (day + 25567) * 86400 - (s / 4294967296 + ((day + 25567) * 86400 - s / 4294967296) / 4294967296 * 4294967296)) (hn : dayB (nearDay s day) = false) (hp : (s % 4294967296 * 1000000000 + 4294967296 - 1) / 4294967296 ≤ 999999999) : Calls Try.prog 13 #[.int .u64 s, .int .i64 day] w fun e w' => e = .returned (.tuple #[.agg #[.int .i64 0, .int .i64 0], .int .i64 11]) ∧ Below w.heap.size w w' := by
  obtain ⟨d0, d1⟩ := dayB_yes h
  have hT : s / 4294967296 + ((day + 25567) * 86400 - s / 4294967296) / 4294967296 * 4294967296 + 4294967296 = nearT s day := by unfold nearT; split <;> omega
  have h1 : (s / 4294967296 + ((day + 25567) * 86400 - s / 4294967296) / 4294967296 * 4294967296 + 4294967296) / 86400 - 25567 = nearDay s day := by rw [hT]; rfl
  have H1 := Lib.hid h1
  rw [← h1] at hn
  have e2 := low32 s s0 s1
  clear h1 hT
  go_enter Try.func13, Try.ntmps13
  go_wp2_with fail
  refine (ref2_in_dayB _ _).mono ?_; rintro e w' ⟨rfl, rfl⟩
  rw [h]
  go_wp2_with (go_at_call 19; refine (ref4_floor _ _ _ (by omega) (by omega) (by omega) (by omega)).mono ?_; rintro e w' ⟨rfl, rfl⟩)
  refine (ref2_in_dayB _ _).mono ?_; rintro e w' ⟨rfl, rfl⟩
  rw [hn]
  go_wp2_with fail
  refine bodyPost_ret (v := .tuple #[.agg #[.int .i64 0, .int .i64 0], .int .i64 11]) (by simp [results, Try.results13, go_sem]) rfl ⟨rfl, ?_⟩
  go_light
  (repeat' (first | (with_reducible exact Below.refl _ _) | (with_reducible assumption) | (with_reducible refine Below.trans ?_ (Below.mono (by with_reducible assumption) ?_)) | (with_reducible refine Below.alloc ?_ ?_ _) | (with_reducible refine Below.setCell ?_ ?_ _) | (with_reducible refine below_drewN ?_ _) | (with_reducible refine Below.drew ?_) | go_size))
set_option maxHeartbeats 1000000 in
theorem ref5_near_Bx2 (s day : Int) (w : World) (h : dayB day = true) (s0 : 0 ≤ s) (s1 : s < 18446744073709551616) (hs : s / 4294967296 + ((day + 25567) * 86400 - s / 4294967296) / 4294967296 * 4294967296 + 4294967296 - (day + 25567) * 86400 < (day + 25567) * 86400 - (s / 4294967296 + ((day + 25567) * 86400 - s / 4294967296) / 4294967296 * 4294967296)) (hn : dayB (nearDay s day) = false) (hp : 999999999 < (s % 4294967296 * 1000000000 + 4294967296 - 1) / 4294967296) : Calls Try.prog 13 #[.int .u64 s, .int .i64 day] w fun e w' => e = .returned (.tuple #[.agg #[.int .i64 0, .int .i64 0], .int .i64 11]) ∧ Below w.heap.size w w' := by
  obtain ⟨d0, d1⟩ := dayB_yes h
  have hT : s / 4294967296 + ((day + 25567) * 86400 - s / 4294967296) / 4294967296 * 4294967296 + 4294967296 = nearT s day := by unfold nearT; split <;> omega
  have h1 : (s / 4294967296 + ((day + 25567) * 86400 - s / 4294967296) / 4294967296 * 4294967296 + 4294967296) / 86400 - 25567 = nearDay s day := by rw [hT]; rfl
  have H1 := Lib.hid h1
  rw [← h1] at hn
  have e2 := low32 s s0 s1
  clear h1 hT
  go_enter Try.func13, Try.ntmps13
  go_wp2_with fail
  refine (ref2_in_dayB _ _).mono ?_; rintro e w' ⟨rfl, rfl⟩
  rw [h]
  go_wp2_with (go_at_call 19; refine (ref4_floor _ _ _ (by omega) (by omega) (by omega) (by omega)).mono ?_; rintro e w' ⟨rfl, rfl⟩)
  refine (ref2_in_dayB _ _).mono ?_; rintro e w' ⟨rfl, rfl⟩
  rw [hn]
  go_wp2_with fail
  refine bodyPost_ret (v := .tuple #[.agg #[.int .i64 0, .int .i64 0], .int .i64 11]) (by simp [results, Try.results13, go_sem]) rfl ⟨rfl, ?_⟩
  go_light
  (repeat' (first | (with_reducible exact Below.refl _ _) | (with_reducible assumption) | (with_reducible refine Below.trans ?_ (Below.mono (by with_reducible assumption) ?_)) | (with_reducible refine Below.alloc ?_ ?_ _) | (with_reducible refine Below.setCell ?_ ?_ _) | (with_reducible refine below_drewN ?_ _) | (with_reducible refine Below.drew ?_) | go_size))
set_option maxHeartbeats 1000000 in
theorem ref5_near_B1 (s day : Int) (w : World) (h : dayB day = true) (s0 : 0 ≤ s) (s1 : s < 18446744073709551616) (hs : s / 4294967296 + ((day + 25567) * 86400 - s / 4294967296) / 4294967296 * 4294967296 + 4294967296 - (day + 25567) * 86400 < (day + 25567) * 86400 - (s / 4294967296 + ((day + 25567) * 86400 - s / 4294967296) / 4294967296 * 4294967296)) (hn : dayB (nearDay s day) = true) (hp : (s % 4294967296 * 1000000000 + 4294967296 - 1) / 4294967296 ≤ 999999999) : Calls Try.prog 13 #[.int .u64 s, .int .i64 day] w fun e w' => e = .returned (.tuple #[.agg #[.int .i64 (nearDay s day), .int .i64 (nearNano s day)], .int .i64 0]) ∧ Below w.heap.size w w' := by
  obtain ⟨d0, d1⟩ := dayB_yes h
  have hT : s / 4294967296 + ((day + 25567) * 86400 - s / 4294967296) / 4294967296 * 4294967296 + 4294967296 = nearT s day := by unfold nearT; split <;> omega
  have h1 : (s / 4294967296 + ((day + 25567) * 86400 - s / 4294967296) / 4294967296 * 4294967296 + 4294967296) / 86400 - 25567 = nearDay s day := by rw [hT]; rfl
  have H1 := Lib.hid h1
  rw [← h1] at hn
  have e2 := low32 s s0 s1
  have h2 : (s / 4294967296 + ((day + 25567) * 86400 - s / 4294967296) / 4294967296 * 4294967296 + 4294967296 - (s / 4294967296 + ((day + 25567) * 86400 - s / 4294967296) / 4294967296 * 4294967296 + 4294967296) / 86400 * 86400) * 1000000000 + (s % 4294967296 * 1000000000 + 4294967296 - 1) / 4294967296 = nearNano s day := by rw [hT]; unfold nearNano nearN; rw [if_pos (by omega)]; omega
  have H2 := Lib.hid h2
  clear h2
  clear h1 hT
  go_enter Try.func13, Try.ntmps13
  go_wp2_with fail
  refine (ref2_in_dayB _ _).mono ?_; rintro e w' ⟨rfl, rfl⟩
  rw [h]
  go_wp2_with (go_at_call 19; refine (ref4_floor _ _ _ (by omega) (by omega) (by omega) (by omega)).mono ?_; rintro e w' ⟨rfl, rfl⟩)
  refine (ref2_in_dayB _ _).mono ?_; rintro e w' ⟨rfl, rfl⟩
  rw [hn]
  go_wp2_with fail
  refine bodyPost_ret (v := .tuple #[.agg #[.int .i64 ((s / 4294967296 + ((day + 25567) * 86400 - s / 4294967296) / 4294967296 * 4294967296 + 4294967296) / 86400 - 25567), .int .i64 ((s / 4294967296 + ((day + 25567) * 86400 - s / 4294967296) / 4294967296 * 4294967296 + 4294967296 - (s / 4294967296 + ((day + 25567) * 86400 - s / 4294967296) / 4294967296 * 4294967296 + 4294967296) / 86400 * 86400) * 1000000000 + (s % 4294967296 * 1000000000 + 4294967296 - 1) / 4294967296)], .int .i64 0]) (by simp [results, Try.results13, go_sem]) rfl ⟨ret_utc H1.out H2.out, ?_⟩
  go_light
  (repeat' (first | (with_reducible exact Below.refl _ _) | (with_reducible assumption) | (with_reducible refine Below.trans ?_ (Below.mono (by with_reducible assumption) ?_)) | (with_reducible refine Below.alloc ?_ ?_ _) | (with_reducible refine Below.setCell ?_ ?_ _) | (with_reducible refine below_drewN ?_ _) | (with_reducible refine Below.drew ?_) | go_size))
set_option maxHeartbeats 1000000 in
theorem ref5_near_B2 (s day : Int) (w : World) (h : dayB day = true) (s0 : 0 ≤ s) (s1 : s < 18446744073709551616) (hs : s / 4294967296 + ((day + 25567) * 86400 - s / 4294967296) / 4294967296 * 4294967296 + 4294967296 - (day + 25567) * 86400 < (day + 25567) * 86400 - (s / 4294967296 + ((day + 25567) * 86400 - s / 4294967296) / 4294967296 * 4294967296)) (hn : dayB (nearDay s day) = true) (hp : 999999999 < (s % 4294967296 * 1000000000 + 4294967296 - 1) / 4294967296) : Calls Try.prog 13 #[.int .u64 s, .int .i64 day] w fun e w' => e = .returned (.tuple #[.agg #[.int .i64 (nearDay s day), .int .i64 (nearNano s day)], .int .i64 0]) ∧ Below w.heap.size w w' := by
  obtain ⟨d0, d1⟩ := dayB_yes h
  have hT : s / 4294967296 + ((day + 25567) * 86400 - s / 4294967296) / 4294967296 * 4294967296 + 4294967296 = nearT s day := by unfold nearT; split <;> omega
  have h1 : (s / 4294967296 + ((day + 25567) * 86400 - s / 4294967296) / 4294967296 * 4294967296 + 4294967296) / 86400 - 25567 = nearDay s day := by rw [hT]; rfl
  have H1 := Lib.hid h1
  rw [← h1] at hn
  have e2 := low32 s s0 s1
  have h2 : (s / 4294967296 + ((day + 25567) * 86400 - s / 4294967296) / 4294967296 * 4294967296 + 4294967296 - (s / 4294967296 + ((day + 25567) * 86400 - s / 4294967296) / 4294967296 * 4294967296 + 4294967296) / 86400 * 86400) * 1000000000 + 999999999 = nearNano s day := by rw [hT]; unfold nearNano nearN; rw [if_neg (by omega)]; omega
  have H2 := Lib.hid h2
  clear h2
  clear h1 hT
  go_enter Try.func13, Try.ntmps13
  go_wp2_with fail
  refine (ref2_in_dayB _ _).mono ?_; rintro e w' ⟨rfl, rfl⟩
  rw [h]
  go_wp2_with (go_at_call 19; refine (ref4_floor _ _ _ (by omega) (by omega) (by omega) (by omega)).mono ?_; rintro e w' ⟨rfl, rfl⟩)
  refine (ref2_in_dayB _ _).mono ?_; rintro e w' ⟨rfl, rfl⟩
  rw [hn]
  go_wp2_with fail
  refine bodyPost_ret (v := .tuple #[.agg #[.int .i64 ((s / 4294967296 + ((day + 25567) * 86400 - s / 4294967296) / 4294967296 * 4294967296 + 4294967296) / 86400 - 25567), .int .i64 ((s / 4294967296 + ((day + 25567) * 86400 - s / 4294967296) / 4294967296 * 4294967296 + 4294967296 - (s / 4294967296 + ((day + 25567) * 86400 - s / 4294967296) / 4294967296 * 4294967296 + 4294967296) / 86400 * 86400) * 1000000000 + 999999999)], .int .i64 0]) (by simp [results, Try.results13, go_sem]) rfl ⟨ret_utc H1.out H2.out, ?_⟩
  go_light
  (repeat' (first | (with_reducible exact Below.refl _ _) | (with_reducible assumption) | (with_reducible refine Below.trans ?_ (Below.mono (by with_reducible assumption) ?_)) | (with_reducible refine Below.alloc ?_ ?_ _) | (with_reducible refine Below.setCell ?_ ?_ _) | (with_reducible refine below_drewN ?_ _) | (with_reducible refine Below.drew ?_) | go_size))
/-- Both, in one: what a stamp tells near a day. -/
def nearR (s day : Int) : Value := if dayB day then (if dayB (nearDay s day) then .tuple #[.agg #[.int .i64 (nearDay s day), .int .i64 (nearNano s day)], .int .i64 0] else .tuple #[.agg #[.int .i64 0, .int .i64 0], .int .i64 11]) else .tuple #[.agg #[.int .i64 0, .int .i64 0], .int .i64 1]
theorem era_near (s day : Int) (w : World) (s0 : 0 ≤ s) (s1 : s < 18446744073709551616) : Calls Try.prog 12 #[.int .u64 s, .int .i64 day] w fun e w' => e = .returned (nearR s day) ∧ Below w.heap.size w w' := by
  unfold nearR
  cases h : dayB day
  · exact era_near_no s day w h
  · cases hn : dayB (nearDay s day)
    · rcases (show (s / 4294967296 - (day + 25567) * 86400) % 4294967296 < 2147483648 ∨ 2147483648 ≤ (s / 4294967296 - (day + 25567) * 86400) % 4294967296 from by omega) with hs | hs
      · exact era_near_Ax s day w h s0 s1 hs hn
      · exact era_near_Bx s day w h s0 s1 hs hn
    · rcases (show (s % 4294967296 * 1000000000 + 4294967296 - 1) / 4294967296 ≤ 999999999 ∨ 999999999 < (s % 4294967296 * 1000000000 + 4294967296 - 1) / 4294967296 from by omega) with hp | hp <;>
      rcases (show (s / 4294967296 - (day + 25567) * 86400) % 4294967296 < 2147483648 ∨ 2147483648 ≤ (s / 4294967296 - (day + 25567) * 86400) % 4294967296 from by omega) with hs | hs
      · exact era_near_A1 s day w h s0 s1 hs hn hp
      · exact era_near_B1 s day w h s0 s1 hs hn hp
      · exact era_near_A2 s day w h s0 s1 hs hn hp
      · exact era_near_B2 s day w h s0 s1 hs hn hp
theorem ref5_near (s day : Int) (w : World) (s0 : 0 ≤ s) (s1 : s < 18446744073709551616) : Calls Try.prog 13 #[.int .u64 s, .int .i64 day] w fun e w' => e = .returned (nearR s day) ∧ Below w.heap.size w w' := by
  unfold nearR
  cases h : dayB day
  · exact ref5_near_no s day w h
  · rcases (show (s % 4294967296 * 1000000000 + 4294967296 - 1) / 4294967296 ≤ 999999999 ∨ 999999999 < (s % 4294967296 * 1000000000 + 4294967296 - 1) / 4294967296 from by omega) with hp | hp <;>
    rcases (show (day + 25567) * 86400 - (s / 4294967296 + ((day + 25567) * 86400 - s / 4294967296) / 4294967296 * 4294967296) ≤ s / 4294967296 + ((day + 25567) * 86400 - s / 4294967296) / 4294967296 * 4294967296 + 4294967296 - (day + 25567) * 86400 ∨ s / 4294967296 + ((day + 25567) * 86400 - s / 4294967296) / 4294967296 * 4294967296 + 4294967296 - (day + 25567) * 86400 < (day + 25567) * 86400 - (s / 4294967296 + ((day + 25567) * 86400 - s / 4294967296) / 4294967296 * 4294967296) from by omega) with hs | hs <;>
    cases hn : dayB (nearDay s day)
    · exact ref5_near_Ax1 s day w h s0 s1 hs hn hp
    · exact ref5_near_A1 s day w h s0 s1 hs hn hp
    · exact ref5_near_Bx1 s day w h s0 s1 hs hn hp
    · exact ref5_near_B1 s day w h s0 s1 hs hn hp
    · exact ref5_near_Ax2 s day w h s0 s1 hs hn hp
    · exact ref5_near_A2 s day w h s0 s1 hs hn hp
    · exact ref5_near_Bx2 s day w h s0 s1 hs hn hp
    · exact ref5_near_B2 s day w h s0 s1 hs hn hp
end Go.Proofs.Ytdnogninikenlaa
