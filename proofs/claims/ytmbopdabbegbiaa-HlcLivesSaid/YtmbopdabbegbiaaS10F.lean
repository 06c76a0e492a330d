/- Stage 10: HlcFull. -/
import Derived.Test.YtmbopdabbegbiaaS10A
set_option linter.unusedSimpArgs false
set_option linter.unusedVariables false
namespace Go.Proofs.Ytmbopdabbegbiaa
open Go.RowKit

theorem hlc_send_next (b : Nat) (m c c' bd t : Int) (w : World) (k : Ints3 w b m c bd) (h : isMilliB t = true) (ht : t ≤ m) (hc : 0 ≤ c ∧ c < 65535) (hb : m < bd) (e : c + 1 = c') : Calls Try.prog 17 #[.pointer (some ⟨b, 0, none⟩), .int .i64 t] w fun e w' => e = .returned (.tuple #[.agg #[.int .i64 m, .int .i64 c'], .int .i64 0]) ∧ Only b w w' ∧ Ints3 w' b m c' bd := by
  subst e
  exact hlc_send_ok1 b m c bd t w k h ht hc hb
theorem isMilli_of {n : Int} (h0 : 0 ≤ n) (h1 : n ≤ 281474976710655) : isMilliB n = true := by simp [isMilliB, h0, h1]
theorem full_max (m c : Int) (h0 : 0 ≤ m) (h1 : 0 ≤ c) : mx1 0 0 m c = m ∧ mx2 0 0 m c = c := by
  unfold mx1 mx2 gt2 cmp2 or2 cmp1
  rcases (show m = 0 ∨ 0 < m from by omega) with rfl | h
  · rcases (show c = 0 ∨ 0 < c from by omega) with rfl | h
    · decide
    · have : ¬ c < 0 := by omega
      simp [h, this]
  · have : ¬ m < 0 := by omega
    simp [h, this]
set_option maxHeartbeats 1000000 in
theorem full_out (m f n : Int) (w : World) (h : m < 0 ∨ (0 ≤ m ∧ 1099511627776 < m) ∨ (0 ≤ m ∧ m ≤ 1099511627776 ∧ f < 0) ∨ (0 ≤ m ∧ m ≤ 1099511627776 ∧ 0 ≤ f ∧ 65535 < f) ∨ (0 ≤ m ∧ m ≤ 1099511627776 ∧ 0 ≤ f ∧ f ≤ 65535 ∧ n < 1) ∨ (0 ≤ m ∧ m ≤ 1099511627776 ∧ 0 ≤ f ∧ f ≤ 65535 ∧ 1 ≤ n ∧ 100 < n)) :
    Calls Try.prog 9 #[.int .i64 m, .int .i64 f, .int .i64 n] w fun e w' => e = .returned (.bool true) ∧ Below w.heap.size w w' := by
  rcases h with h | ⟨h0, h⟩ | ⟨h0, h1, h⟩ | ⟨h0, h1, h2, h⟩ | ⟨h0, h1, h2, h3, h⟩ | ⟨h0, h1, h2, h3, h4, h⟩
  all_goals
    go_enter Try.func9, Try.ntmps9
    go_wp2_with (go_at_call 16; refine (known10 _).mono ?_; rintro e w5 ⟨rfl, hb5⟩; obtain ⟨hc5, hf5⟩ := bcell hb5; have hz5 := hb5.size; (try simp only [World.size_alloc, World.size_setCell, World.heap_drewN] at hb5 hc5 hf5 hz5); (try have ha05 : w.heap.size < w5.heap.size := by omega); (try have ha15 : w.heap.size + 1 < w5.heap.size := by omega); (try have ha25 : w.heap.size + 2 < w5.heap.size := by omega); (try have hal5 : w.heap.size ≤ w5.heap.size := by omega); (try have ham5 : w.heap.size < w5.heap.size + 2 := by omega))
    go_ret
    go_light
    exact ⟨rfl, by (repeat' (first | (with_reducible exact Below.refl _ _) | (with_reducible assumption) | (with_reducible refine Below.trans ?_ (Below.mono (by with_reducible assumption) ?_)) | (with_reducible refine Below.alloc ?_ ?_ _) | (with_reducible refine Below.setCell ?_ ?_ _) | (with_reducible refine below_drewN ?_ _) | (with_reducible refine Below.drew ?_) | go_size))⟩
set_option maxHeartbeats 4000000 in
theorem full_in (m f n : Int) (w : World) (h0 : 0 ≤ m) (h1 : m ≤ 1099511627776) (h2 : 0 ≤ f) (h3 : f ≤ 65535) (h4 : 1 ≤ n) (h5 : n ≤ 100) :
    Calls Try.prog 9 #[.int .i64 m, .int .i64 f, .int .i64 n] w fun e w' => e = .returned (.bool true) ∧ Below w.heap.size w w' := by
  have FM := Lib.hid (full_max m f h0 h2)
  have MM := Lib.hid (isMilli_of (n := m) h0 (by omega))
  have MM1 := Lib.hid (isMilli_of (n := m + 1) (by omega) (by omega))
  have MS : Hid (isStampB m f = true) := Lib.hid (by unfold isStampB; rw [MM.out]; simp [h2, h3])
  go_enter Try.func9, Try.ntmps9
  go_wp2_with fail
  refine (hlc_new_ok 0 _ (by decide)).mono ?_; rintro e w' ⟨rfl, rfl⟩
  have k0 := Ints3.new w 0 0 0 73
  have HB0 : Below w.heap.size w (w.alloc (.cells #[.int .i64 0, .int .i64 0, .int .i64 0] 73)) := by (repeat' (first | (with_reducible exact Below.refl _ _) | (with_reducible assumption) | (with_reducible refine Below.trans ?_ (Below.mono (by with_reducible assumption) ?_)) | (with_reducible refine Below.alloc ?_ ?_ _) | (with_reducible refine Below.setCell ?_ ?_ _) | (with_reducible refine below_drewN ?_ _) | (with_reducible refine Below.drew ?_) | go_size))
  go_wp2_with fail
  refine (hlc_raise_ok _ 0 0 0 2199023255552 _ k0 (by decide) (by decide)).mono ?_; rintro e w1 ⟨rfl, ho1, k1⟩
  have HB1 : Below w.heap.size w w1 := HB0.trans (ho1.below (Nat.le_refl _) HB0.size)
  have l1 := k1.lt
  have z1 : w.heap.size < w1.heap.size := l1
  clear ho1 k0 HB0
  go_wp2_with fail
  refine (hlc_hear1_ok _ w1.heap.size 0 0 2199023255552 m m f _ (k1.alloc _) MM.out MS.out (by omega) (by simp [go_sem]) (by simp [go_sem]) (by simp) (by omega)).mono ?_; rintro e w2 ⟨rfl, ho2, k2⟩
  rw [FM.out.1, FM.out.2] at k2
  have HB2 : Below w.heap.size w w2 := (HB1.alloc HB1.size _).trans (ho2.below (Nat.le_refl _) (by have := HB1.size; simp; omega))
  have K2 := Lib.hid k2
  clear ho2 k1 HB1 k2
  go_wp2_with fail
  go_loopw [9] (fun i wr => ∃ k : Int, 1 ≤ k ∧ k ≤ n + 1 ∧ f + k ≤ 65536 ∧ i = .int .i64 k ∧ Ints3 wr w.heap.size m (f + k - 1) 2199023255552 ∧ Below w.heap.size w wr) (fun i _ => (n + 1 - intOf i).toNat)
  case atStart => exact ⟨1, by omega, by omega, by omega, rfl, by rw [show f + 1 - 1 = f from by omega]; exact K2.out, HB2⟩
  case round =>
    obtain ⟨k, k1, k2, k3, rfl, KI, HB⟩ := hrel
    clear K2 HB2
    have lr := KI.lt
    have l0 : w.heap.size < wr.heap.size := lr
    by_cases hlt : k ≤ n
    · by_cases hf : f + k ≤ 65535
      · go_wp2_with fail
        refine (hlc_send_next _ m (f + k - 1) (f + k) 2199023255552 m _ KI MM.out (by omega) (by omega) (by omega) (by omega)).mono ?_; rintro e w3 ⟨rfl, ho3, k3'⟩
        have HB3 : Below w.heap.size w w3 := HB.trans (ho3.below (Nat.le_refl _) HB.size)
        have K3 := Lib.hid k3'
        have l3 := k3'.lt
        clear k3'
        go_wp2
        go_roundw
        case rel => exact ⟨k + 1, by omega, by omega, by omega, rfl, by rw [show f + (k + 1) - 1 = f + k from by omega]; exact K3.out.alloc _, HB3.alloc HB3.size _⟩
        case measure => simp [intOf]; omega
      · have e65 : f + k - 1 = 65535 := by omega
        have E65 := Lib.hid e65
        rw [e65] at KI
        clear e65
        go_wp2_with fail
        refine (hlc_send_full _ m 65535 2199023255552 m _ KI MM.out (by omega) rfl).mono ?_; rintro e w3 ⟨rfl, hb3⟩
        have HB3 : Below w.heap.size w w3 := HB.trans (hb3.mono HB.size)
        have K3 := KI.below hb3 lr
        have l3 := K3.lt
        have z3 := HB3.size
        clear KI
        go_wp2_with fail
        refine (hlc_send_ok2 _ m 65535 2199023255552 (m + 1) _ (K3.alloc _) MM1.out (by omega) (by omega)).mono ?_; rintro e w4 ⟨rfl, ho4, k4⟩
        have HB4 : Below w.heap.size w w4 := (HB3.alloc HB3.size _).trans (ho4.below (Nat.le_refl _) (by simp; omega))
        have A0 : w4.cell? ⟨w3.heap.size, 0, none⟩ = some (.int .i64 0) := (ho4.cell _ _ (by simp) (by omega)).trans (by simp [go_sem])
        have A1 : w4.cell? ⟨w3.heap.size, 1, none⟩ = some (.int .i64 0) := (ho4.cell _ _ (by simp) (by omega)).trans (by simp [go_sem])
        have z4 : w3.heap.size + 1 ≤ w4.heap.size := by have := ho4.size; simpa using this
        have z5 : w3.heap.size < w4.heap.size := by omega
        have z6 := HB4.size
        clear ho4
        go_wp2_with (go_at_call 16; refine (known10 _).mono ?_; rintro e w5 ⟨rfl, hb5⟩; obtain ⟨hc5, hf5⟩ := bcell hb5; have hz5 := hb5.size; (try simp only [World.size_alloc, World.size_setCell, World.heap_drewN] at hb5 hc5 hf5 hz5); (try have ha05 : w.heap.size < w5.heap.size := by omega); (try have ha15 : w.heap.size + 1 < w5.heap.size := by omega); (try have ha25 : w.heap.size + 2 < w5.heap.size := by omega); (try have hal5 : w.heap.size ≤ w5.heap.size := by omega); (try have ham5 : w.heap.size < w5.heap.size + 2 := by omega))
        go_ret
        go_light
        exact ⟨rfl, by (repeat' (first | (with_reducible exact Below.refl _ _) | (with_reducible assumption) | (with_reducible refine Below.trans ?_ (Below.mono (by with_reducible assumption) ?_)) | (with_reducible refine Below.alloc ?_ ?_ _) | (with_reducible refine Below.setCell ?_ ?_ _) | (with_reducible refine below_drewN ?_ _) | (with_reducible refine Below.drew ?_) | go_size))⟩
    · obtain rfl : k = n + 1 := by omega
      clear KI
      have z2 := HB.size
      go_wp2_with (go_at_call 16; refine (known10 _).mono ?_; rintro e w5 ⟨rfl, hb5⟩; obtain ⟨hc5, hf5⟩ := bcell hb5; have hz5 := hb5.size; (try simp only [World.size_alloc, World.size_setCell, World.heap_drewN] at hb5 hc5 hf5 hz5); (try have ha05 : w.heap.size < w5.heap.size := by omega); (try have ha15 : w.heap.size + 1 < w5.heap.size := by omega); (try have ha25 : w.heap.size + 2 < w5.heap.size := by omega); (try have hal5 : w.heap.size ≤ w5.heap.size := by omega); (try have ham5 : w.heap.size < w5.heap.size + 2 := by omega))
      go_ret
      go_light
      exact ⟨rfl, by (repeat' (first | (with_reducible exact Below.refl _ _) | (with_reducible assumption) | (with_reducible refine Below.trans ?_ (Below.mono (by with_reducible assumption) ?_)) | (with_reducible refine Below.alloc ?_ ?_ _) | (with_reducible refine Below.setCell ?_ ?_ _) | (with_reducible refine below_drewN ?_ _) | (with_reducible refine Below.drew ?_) | go_size))⟩
end Go.Proofs.Ytmbopdabbegbiaa
