/- Stage 8: SlewRises. -/
import Derived.Test.YtblkmakfgehghaaRef8
import Derived.Test.YtblkmakfgehghaaArgFlat
set_option linter.unusedSimpArgs false
set_option linter.unusedVariables false
namespace Go.Proofs.Ytblkmakfgehghaa
open Go.ChangeShapes Go.WideShapes Go.ChangeAt Go.RowKit Go.Joins

/-- Turn, whatever it is told. -/
theorem slew_turn_some (c t l n m : Int) (h : Ok3 c t l) (hn : n ≤ 9223372036854775807) : ∃ (v : Value) (c' t' l' : Int), Ok3 c' t' l' ∧ t ≤ t' ∧ ∀ (b : Nat) (w : World), Ints3 w b c t l → Calls Try.prog 16 #[.pointer (some ⟨b, 0, none⟩), .int .i64 n, .int .i64 m] w fun e w' => e = .returned v ∧ Only b w w' ∧ Ints3 w' b c' t' l' := by
  by_cases hm : -4611686018427387904 ≤ m ∧ m ≤ 4611686018427387904
  · obtain ⟨o1, u1⟩ := ok_read h hn
    obtain ⟨o2, u2⟩ := ok_turn o1 hm
    exact ⟨_, _, _, _, o2, by omega, fun b w k => slew_turn_all b c t l n m w k h hn hm.1 hm.2⟩
  · exact ⟨_, c, t, l, h, by omega, fun b w k => (slew_turn_bad b n m w (by omega)).mono fun e w' ⟨he, hw⟩ => by subst hw; exact ⟨he, Only.refl _ _, k⟩⟩
set_option maxHeartbeats 1000000 in
theorem rises_bad (a t : Int) (A : Option Addr) (n c : Nat) (w : World) (h : a < 0 ∨ (0 ≤ a ∧ t < 0) ∨ (0 ≤ a ∧ 0 ≤ t ∧ 4611686018427387904 < t)) :
    Calls Try.prog 4 #[.int .i64 a, .int .i64 t, .slice A n c] w fun e w' => e = .returned (.bool true) ∧ Below w.heap.size w w' := by
  have H := Lib.hid h
  clear h
  go_enter Try.func4, Try.ntmps4
  go_wp2_with (first | (go_at_call 10; refine (slew_new_no a t _ H.out).mono ?_; rintro e w' ⟨rfl, rfl⟩) | (go_at_call 11; refine (ref8_new_no a t _ H.out).mono ?_; rintro e w' ⟨rfl, rfl⟩) | (go_at_call 12; refine (known8 _).mono ?_; rintro e w5 ⟨rfl, hb5⟩; obtain ⟨hc5, hf5⟩ := bcell hb5; have hz5 := hb5.size; (try simp only [World.size_alloc, World.size_setCell, World.heap_drewN] at hb5 hc5 hf5 hz5); (try have ha05 : w.heap.size < w5.heap.size := by omega); (try have ha15 : w.heap.size + 1 < w5.heap.size := by omega); (try have ha25 : w.heap.size + 2 < w5.heap.size := by omega); (try have hal5 : w.heap.size ≤ w5.heap.size := by omega); (try have ham5 : w.heap.size < w5.heap.size + 2 := by omega)))
  go_ret
  go_light
  exact ⟨rfl, by (repeat' (first | (with_reducible exact Below.refl _ _) | (with_reducible assumption) | (with_reducible refine Below.trans ?_ (Below.mono (by with_reducible assumption) ?_)) | (with_reducible refine Below.alloc ?_ ?_ _) | (with_reducible refine Below.setCell ?_ ?_ _) | (with_reducible refine below_drewN ?_ _) | (with_reducible refine Below.drew ?_) | go_size))⟩
set_option maxHeartbeats 4000000 in
theorem rises_in (a t0 : Int) (A : Option Addr) (n c : Nat) (z : Nat → Int) (w : World) (hz : FlatAt w A 3 n z) (hn : n ≤ maxLen) (ha : 0 ≤ a) (ha' : a ≤ 9223372036854775807) (h1 : 0 ≤ t0) (h2 : t0 ≤ 4611686018427387904) :
    Calls Try.prog 4 #[.int .i64 a, .int .i64 t0, .slice A n c] w fun e w' => e = .returned (.bool true) ∧ Below w.heap.size w w' := by
  unfold maxLen at hn
  have HZ := Lib.hid hz
  clear hz
  go_enter Try.func4, Try.ntmps4
  go_wp2_with fail
  refine (slew_new_ok a t0 _ ha h1 h2).mono ?_; rintro e w' ⟨rfl, rfl⟩
  go_wp2_with fail
  refine (ref8_new_ok a t0 _ ha h1 h2).mono ?_; rintro e w' ⟨rfl, rfl⟩
  have k0 := (Ints3.new w a t0 0 49).alloc (.cells #[.int .i64 a, .int .i64 t0, .int .i64 0] 35)
  have K0 := Lib.hid k0
  have HB0 : Below w.heap.size w ((w.alloc (.cells #[.int .i64 a, .int .i64 t0, .int .i64 0] 49)).alloc (.cells #[.int .i64 a, .int .i64 t0, .int .i64 0] 35)) := by (repeat' (first | (with_reducible exact Below.refl _ _) | (with_reducible assumption) | (with_reducible refine Below.trans ?_ (Below.mono (by with_reducible assumption) ?_)) | (with_reducible refine Below.alloc ?_ ?_ _) | (with_reducible refine Below.setCell ?_ ?_ _) | (with_reducible refine below_drewN ?_ _) | (with_reducible refine Below.drew ?_) | go_size))
  clear k0
  go_wp2_with fail
  go_loopw [11, 12] (fun s i wr => ∃ (k : Nat) (c t l x : Int), k ≤ n ∧ i = .int .i64 k ∧ s = .int .i64 x ∧ x ≤ t ∧ Ok3 c t l ∧ Ints3 wr w.heap.size c t l ∧ Below w.heap.size w wr) (fun _ i _ => n - (intOf i).toNat)
  case atStart => exact ⟨0, a, t0, 0, t0, Nat.zero_le _, rfl, rfl, by omega, ⟨by omega, by omega, by omega, by omega, by omega, by omega⟩, K0.out, HB0⟩
  case round =>
    obtain ⟨k, cc, t, l, x, k1, rfl, rfl, hx, ho, KI, HB⟩ := hrel
    have HO := Lib.hid ho
    clear K0 HB0 ho
    have lr := KI.lt
    by_cases hlt : k < n ∧ k < 200
    · obtain ⟨hlt, h200⟩ := hlt
      have h2' : (k : Int) < 200 := by omega
      have hk : (k : Int) < (n : Int) := by omega
      obtain ⟨B, O, rfl, hB, hcells⟩ := HZ.out (by omega)
      have lB : B < wr.heap.size := by omega
      have hc : ∀ j, j < 3 → wr.cell? ⟨B, O + (k * 3 + j), none⟩ = some (.int .i64 (z (k * 3 + j))) := fun j hj => (HB.cell (p := ⟨B, O + (k * 3 + j), none⟩) hB).trans (hcells (k * 3 + j) (by omega)).1
      have x0 : wr.cell? ⟨B, O + k * 3, none⟩ = some (.int .i64 (z (k * 3))) := hc 0 (by omega)
      have x1 : wr.cell? ⟨B, O + k * 3 + 1, none⟩ = some (.int .i64 (z (k * 3 + 1))) := hc 1 (by omega)
      have x2 : wr.cell? ⟨B, O + k * 3 + 2, none⟩ = some (.int .i64 (z (k * 3 + 2))) := hc 2 (by omega)
      have xb := (hcells (k * 3 + 1) (by omega)).2
      clear hc hcells
      generalize z (k * 3) = a0 at *
      generalize z (k * 3 + 1) = a1 at *
      generalize z (k * 3 + 2) = a2 at *
      cases hb : (bits .and .i64 a0 1 == 0)
      · have r := fun (w' : World) (kk : Ints3 w' w.heap.size cc t l) => slew_read_all w.heap.size cc t l a1 w' kk HO.out xb.2
        obtain ⟨o2, u2⟩ := ok_read HO.out xb.2
        generalize rc cc a1 = C2 at *
        generalize rt cc t l a1 = T2 at *
        generalize rl cc l a1 = L2 at *
        have R := Lib.hid r
        have O2 := Lib.hid o2
        have t1 : decide (T2 < x) = false := by simp; omega
        clear r o2
        go_wp2_with fail
        refine (R.out _ KI).mono ?_; rintro e w2 ⟨rfl, ho2, k2⟩
        have HB2 : Below w.heap.size w w2 := HB.trans (ho2.below (Nat.le_refl _) HB.size)
        clear ho2
        go_wp2
        go_roundw
        case rel => exact ⟨k + 1, C2, T2, L2, T2, by omega, by go_num, rfl, by omega, O2.out, k2, HB2⟩
        case measure => simp [intOf]; omega
      · obtain ⟨v, c', t', l', o1, u1, hr⟩ := slew_turn_some cc t l a1 a2 HO.out xb.2
        have r := fun (w' : World) (kk : Ints3 w' w.heap.size c' t' l') => slew_read_all w.heap.size c' t' l' a1 w' kk o1 xb.2
        obtain ⟨o2, u2⟩ := ok_read o1 xb.2
        generalize rc c' a1 = C2 at *
        generalize rt c' t' l' a1 = T2 at *
        generalize rl c' l' a1 = L2 at *
        have R := Lib.hid r
        have O2 := Lib.hid o2
        have t1 : decide (T2 < x) = false := by simp; omega
        have HR := Lib.hid hr
        clear hr o1 r o2
        go_wp2_with fail
        go_region_with (go_at_call 16; refine (HR.out _ _ (by first | exact KI | exact KI.drew | exact KI.drew.drew | exact KI.drewN _)).mono ?_; rintro e w2 ⟨rfl, ho2, k2⟩; have q1 : w2.cell? ⟨B, O + k * 3 + 1, none⟩ = some (.int .i64 a1) := (ho2.cell B (O + k * 3 + 1) lB (by omega)).trans x1)
        all_goals
          have HB2 : Below w.heap.size w w2 := HB.trans (Below.trans (by (repeat' (first | (with_reducible exact Below.refl _ _) | (with_reducible assumption) | (with_reducible refine Below.trans ?_ (Below.mono (by with_reducible assumption) ?_)) | (with_reducible refine Below.alloc ?_ ?_ _) | (with_reducible refine Below.setCell ?_ ?_ _) | (with_reducible refine below_drewN ?_ _) | (with_reducible refine Below.drew ?_) | go_size))) (ho2.below (Nat.le_refl _) HB.size))
          clear ho2
          go_wp2_with fail
          refine (R.out _ k2).mono ?_; rintro e w3 ⟨rfl, ho3, k3⟩
          have HB3 : Below w.heap.size w w3 := HB2.trans (ho3.below (Nat.le_refl _) HB2.size)
          clear ho3
          go_wp2
          go_roundw
          case rel => exact ⟨k + 1, C2, T2, L2, T2, by omega, by go_num, rfl, by omega, O2.out, k3, HB3⟩
          case measure => simp [intOf]; omega
    · have z2 := HB.size
      by_cases hkn : k = n
      · subst hkn
        clear hlt KI
        go_wp2_with (go_at_call 12; refine (known8 _).mono ?_; rintro e w5 ⟨rfl, hb5⟩; obtain ⟨hc5, hf5⟩ := bcell hb5; have hz5 := hb5.size; (try simp only [World.size_alloc, World.size_setCell, World.heap_drewN] at hb5 hc5 hf5 hz5); (try have ha05 : w.heap.size < w5.heap.size := by omega); (try have ha15 : w.heap.size + 1 < w5.heap.size := by omega); (try have ha25 : w.heap.size + 2 < w5.heap.size := by omega); (try have hal5 : w.heap.size ≤ w5.heap.size := by omega); (try have ham5 : w.heap.size < w5.heap.size + 2 := by omega))
        go_ret
        go_light
        exact ⟨rfl, by (repeat' (first | (with_reducible exact Below.refl _ _) | (with_reducible assumption) | (with_reducible refine Below.trans ?_ (Below.mono (by with_reducible assumption) ?_)) | (with_reducible refine Below.alloc ?_ ?_ _) | (with_reducible refine Below.setCell ?_ ?_ _) | (with_reducible refine below_drewN ?_ _) | (with_reducible refine Below.drew ?_) | go_size))⟩
      · have hk : (k : Int) < (n : Int) := by omega
        have h2' : (200 : Int) ≤ (k : Int) := by omega
        clear hlt KI hkn HZ HO hx
        set_option maxRecDepth 10000 in go_wp2_with (go_at_call 12; refine (known8 _).mono ?_; rintro e w5 ⟨rfl, hb5⟩; obtain ⟨hc5, hf5⟩ := bcell hb5; have hz5 := hb5.size; (try simp only [World.size_alloc, World.size_setCell, World.heap_drewN] at hb5 hc5 hf5 hz5); (try have ha05 : w.heap.size < w5.heap.size := by omega); (try have ha15 : w.heap.size + 1 < w5.heap.size := by omega); (try have ha25 : w.heap.size + 2 < w5.heap.size := by omega); (try have hal5 : w.heap.size ≤ w5.heap.size := by omega); (try have ham5 : w.heap.size < w5.heap.size + 2 := by omega))
        go_ret
        go_light
        exact ⟨rfl, by (repeat' (first | (with_reducible exact Below.refl _ _) | (with_reducible assumption) | (with_reducible refine Below.trans ?_ (Below.mono (by with_reducible assumption) ?_)) | (with_reducible refine Below.alloc ?_ ?_ _) | (with_reducible refine Below.setCell ?_ ?_ _) | (with_reducible refine below_drewN ?_ _) | (with_reducible refine Below.drew ?_) | go_size))⟩

set_option maxRecDepth 100000 in
theorem slewRises_lifted (os : Os) (started : os.Started) (H : Type) (enc : TypeId × Value → H) :
    ReturnsInHanded {} Try.checked os 4 .any (Rows.slewRisesSpec.pre6 enc Try.prog Try.f4 Rows.slewRisesRow.domain false) (Rows.slewRisesSpec.post enc Try.prog Try.f4 false true false false) := by
  refine returnsInHanded_of_change_sized (C := Try.checked) law_own started (by kernel_rfl) Try.func4
    (ChangeSpec.witness6 (enc := enc) (C := Try.checked) false ⟨#[], #[.int .i64 0, .int .i64 0, .slice none 0 0], []⟩ 8 (by kernel_rfl) (by kernel_rfl) (by kernel_rfl) (by kernel_rfl)) ?_
  intro W base args ds gs before hval0 hW hcnd hsz0 _
  have hval : ∀ (j : Nat) t v, Try.f4.params[j]? = some t → args[j]? = some v → Value.okWide Try.prog W .any base t v := hval0
  have hsz : (DataW.weightsEach Try.prog (Try.f4.params.toList ++ Rows.slewRisesSpec.plain.varTypes Try.prog) (ds ++ gs)).all (· ≤ reachBytes) = true := hsz0
  have hW' := hW
  obtain ⟨p, q, hA0, hV, rfl, hfz, hnd⟩ := hW
  have hA : DataW.TrodAll enc Try.prog W 0 (fun _ => true) true Try.f4.params.toList args.toList ds p := hA0
  rw [Try.params4] at hA hval hsz
  have hsame : (Rows.slewRisesSpec.fn H (ds ++ gs)).results = [.lit (.bool true)] ∧ (Rows.slewRisesSpec.fn H (ds ++ gs)).args = ds ∧ (Rows.slewRisesSpec.fn H (ds ++ gs)).vars = [] → ∀ W', Below W.heap.size W W' → Rows.slewRisesSpec.post enc Try.prog Try.f4 false true false false W args (.bool true) W' :=
    fun h W' hb => law_post (tb := 4) hW' law_laid (by kernel_rfl) rfl Try.underlying4 h.1 h.2.1 rfl h.2.2 hb
  obtain ⟨v0, vs0, d0, ds0, p0, q0, hargs, rfl, rfl, h0, r0⟩ := trodAll_cons hA
  obtain ⟨v1, vs1, d1, ds1, p1, q1, rfl, rfl, rfl, h1, r1⟩ := trodAll_cons r0
  obtain ⟨v2, vs2, d2, ds2, p2, q2, rfl, rfl, rfl, h2, r2⟩ := trodAll_cons r1
  obtain ⟨rfl, rfl, rfl⟩ := trodAll_nil r2
  obtain rfl : args = #[v0, v1, v2] := by cases args; simp_all
  obtain ⟨rfl, rfl⟩ := trodVars_none hV
  have hpost := hsame ⟨rfl, rfl, rfl⟩
  clear hsame hA0 hval0 hsz0
  obtain ⟨a0, rfl, rfl, rfl, wf0⟩ := open_int Try.underlying3 (hval 0 3 v0 rfl rfl) h0
  obtain ⟨a1, rfl, rfl, rfl, wf1⟩ := open_int Try.underlying3 (hval 1 3 v1 rfl rfl) h1
  obtain ⟨A, n, c, z, rfl, hn, hz⟩ := open_flat_slice (m := 3) Try.underlying22 (by kernel_rfl) (by kernel_rfl) (by omega) (hval 2 22 v2 rfl rfl) h2
  by_cases h : a0 < 0 ∨ (0 ≤ a0 ∧ a1 < 0) ∨ (0 ≤ a0 ∧ 0 ≤ a1 ∧ 4611686018427387904 < a1)
  · exact (rises_bad a0 a1 A n c W h).mono fun e W' ⟨he, hb⟩ => ⟨_, he, hpost W' hb⟩
  · exact (rises_in a0 a1 A n c z W hz hn (by omega) (wf_bd wf0).2 (by omega) (by omega)).mono fun e W' ⟨he, hb⟩ => ⟨_, he, hpost W' hb⟩
theorem slewRises_holds : Rows.SlewRisesSaid :=
  OpenClaim.holds_of_wide 4 Try.f4 rfl rfl rfl rfl rfl rfl rfl ⟨rfl, rfl, rfl, rfl, rfl⟩ rfl rfl rfl rfl rfl (by kernel_rfl) Try.func4 (by kernel_rfl)
    (of_decide_eq_true (by kernel_rfl)) (by unfold Func.isWrapper; first | (rw [if_pos (by decide +kernel)]; kernel_rfl) | (rw [if_neg (by decide +kernel)]; exact ⟨rfl, rfl⟩))
    (fun os started H enc _ => slewRises_lifted os started H enc)
end Go.Proofs.Ytblkmakfgehghaa
