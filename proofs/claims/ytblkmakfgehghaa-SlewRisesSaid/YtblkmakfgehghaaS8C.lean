/- Stage 8: SlewPlain. -/
import Derived.Test.YtblkmakfgehghaaSlewTurn
import Derived.Test.YtblkmakfgehghaaArgInts
set_option linter.unusedSimpArgs false
set_option linter.unusedVariables false
namespace Go.Proofs.Ytblkmakfgehghaa
open Go.ChangeShapes Go.WideShapes Go.ChangeAt Go.RowKit Go.Joins

/-- The lower forty bits. -/
def low40 (x : Int) : Int := bits .and .i64 x 1099511627775
theorem low40_bd (x : Int) : 0 ≤ low40 x ∧ low40 x ≤ 1099511627775 := by
  have h : low40 x = IntKind.i64.wrap ((BitVec.ofInt 64 x &&& BitVec.ofInt 64 1099511627775).toNat : Int) := rfl
  have e : (BitVec.ofInt 64 x &&& BitVec.ofInt 64 1099511627775).toNat ≤ 1099511627775 := by
    rw [BitVec.toNat_and]
    exact Nat.le_trans Nat.and_le_right (by decide)
  rw [h, IntWalk.i64_in _ (by omega)]
  omega
theorem turn0 (g : Int) (h : 0 ≤ g) : turnOf 0 g = 0 := by unfold turnOf; split <;> (try split) <;> omega
/-- Nothing is left: the clock goes on as its count does. -/
theorem slew_read_plain (b : Nat) (c t n : Int) (w : World) (k : Ints3 w b c t 0) (h : c ≤ n) (h0 : 0 ≤ c) (h1 : n ≤ 1000000000000000) (tb : 0 ≤ t ∧ t ≤ 4000000000000000000) :
    Calls Try.prog 14 #[.pointer (some ⟨b, 0, none⟩), .int .i64 n] w fun e w' => e = .returned (.int .i64 (t + (n - c))) ∧ Only b w w' ∧ Ints3 w' b n (t + (n - c)) 0 := by
  by_cases hc : n = c
  · subst hc
    rw [Int.sub_self, Int.add_zero]
    exact (slew_read_old b n t 0 n w k (by omega)).mono fun e w' ⟨he, hw⟩ => by subst hw; exact ⟨he, Only.refl _ _, k⟩
  · have r := slew_read_on b c t 0 n w k (by omega) h0 (by omega) (by omega) (by omega)
    have e1 : shown t 0 (n - c) = t + (n - c) := by
      unfold shown
      rw [turn0 _ (by omega), addS_in (a := n - c) (b := 0) (by omega) (by omega), addS_in (by omega) (by omega)]
      omega
    rw [e1, turn0 _ (by omega), Int.sub_self] at r
    exact r
set_option maxHeartbeats 1000000 in
theorem slewPlain_out (t : Int) (A : Option Addr) (n c : Nat) (w : World) (hn : n ≤ maxLen) (h : t < 0 ∨ (0 ≤ t ∧ 2305843009213693952 < t) ∨ (0 ≤ t ∧ t ≤ 2305843009213693952 ∧ 200 < n)) :
    Calls Try.prog 8 #[.int .i64 t, .slice A n c] w fun e w' => e = .returned (.bool true) ∧ Below w.heap.size w w' := by
  unfold maxLen at hn
  rcases h with h | ⟨h1, h⟩ | ⟨h1, h2, h⟩
  · go_enter Try.func8, Try.ntmps8
    go_wp2_with (go_at_call 12; refine (known8 _).mono ?_; rintro e w5 ⟨rfl, hb5⟩; obtain ⟨hc5, hf5⟩ := bcell hb5; have hz5 := hb5.size; (try simp only [World.size_alloc, World.size_setCell, World.heap_drewN] at hb5 hc5 hf5 hz5); (try have ha05 : w.heap.size < w5.heap.size := by omega); (try have ha15 : w.heap.size + 1 < w5.heap.size := by omega); (try have ha25 : w.heap.size + 2 < w5.heap.size := by omega); (try have hal5 : w.heap.size ≤ w5.heap.size := by omega); (try have ham5 : w.heap.size < w5.heap.size + 2 := by omega))
    go_ret
    go_light
    exact ⟨rfl, by (repeat' (first | (with_reducible exact Below.refl _ _) | (with_reducible assumption) | (with_reducible refine Below.trans ?_ (Below.mono (by with_reducible assumption) ?_)) | (with_reducible refine Below.alloc ?_ ?_ _) | (with_reducible refine Below.setCell ?_ ?_ _) | (with_reducible refine below_drewN ?_ _) | (with_reducible refine Below.drew ?_) | go_size))⟩
  · go_enter Try.func8, Try.ntmps8
    go_wp2_with (go_at_call 12; refine (known8 _).mono ?_; rintro e w5 ⟨rfl, hb5⟩; obtain ⟨hc5, hf5⟩ := bcell hb5; have hz5 := hb5.size; (try simp only [World.size_alloc, World.size_setCell, World.heap_drewN] at hb5 hc5 hf5 hz5); (try have ha05 : w.heap.size < w5.heap.size := by omega); (try have ha15 : w.heap.size + 1 < w5.heap.size := by omega); (try have ha25 : w.heap.size + 2 < w5.heap.size := by omega); (try have hal5 : w.heap.size ≤ w5.heap.size := by omega); (try have ham5 : w.heap.size < w5.heap.size + 2 := by omega))
    go_ret
    go_light
    exact ⟨rfl, by (repeat' (first | (with_reducible exact Below.refl _ _) | (with_reducible assumption) | (with_reducible refine Below.trans ?_ (Below.mono (by with_reducible assumption) ?_)) | (with_reducible refine Below.alloc ?_ ?_ _) | (with_reducible refine Below.setCell ?_ ?_ _) | (with_reducible refine below_drewN ?_ _) | (with_reducible refine Below.drew ?_) | go_size))⟩
  · have h' : (200 : Int) < (n : Int) := by omega
    go_enter Try.func8, Try.ntmps8
    go_wp2_with (go_at_call 12; refine (known8 _).mono ?_; rintro e w5 ⟨rfl, hb5⟩; obtain ⟨hc5, hf5⟩ := bcell hb5; have hz5 := hb5.size; (try simp only [World.size_alloc, World.size_setCell, World.heap_drewN] at hb5 hc5 hf5 hz5); (try have ha05 : w.heap.size < w5.heap.size := by omega); (try have ha15 : w.heap.size + 1 < w5.heap.size := by omega); (try have ha25 : w.heap.size + 2 < w5.heap.size := by omega); (try have hal5 : w.heap.size ≤ w5.heap.size := by omega); (try have ham5 : w.heap.size < w5.heap.size + 2 := by omega))
    go_ret
    go_light
    exact ⟨rfl, by (repeat' (first | (with_reducible exact Below.refl _ _) | (with_reducible assumption) | (with_reducible refine Below.trans ?_ (Below.mono (by with_reducible assumption) ?_)) | (with_reducible refine Below.alloc ?_ ?_ _) | (with_reducible refine Below.setCell ?_ ?_ _) | (with_reducible refine below_drewN ?_ _) | (with_reducible refine Below.drew ?_) | go_size))⟩
set_option maxHeartbeats 2000000 in
theorem slewPlain_in (t : Int) (A : Option Addr) (n c : Nat) (z : Nat → Int) (w : World) (hz : IntsAt w A n z) (h1 : 0 ≤ t) (h2 : t ≤ 2305843009213693952) (h3 : n ≤ 200) :
    Calls Try.prog 8 #[.int .i64 t, .slice A n c] w fun e w' => e = .returned (.bool true) ∧ Below w.heap.size w w' := by
  have HZ := Lib.hid hz
  clear hz
  have hn' : (n : Int) ≤ 200 := by omega
  have k0 := Ints3.new w 0 t 0 49
  have HB0 : Below w.heap.size w (w.alloc (.cells #[.int .i64 0, .int .i64 t, .int .i64 0] 49)) := by (repeat' (first | (with_reducible exact Below.refl _ _) | (with_reducible assumption) | (with_reducible refine Below.trans ?_ (Below.mono (by with_reducible assumption) ?_)) | (with_reducible refine Below.alloc ?_ ?_ _) | (with_reducible refine Below.setCell ?_ ?_ _) | (with_reducible refine below_drewN ?_ _) | (with_reducible refine Below.drew ?_) | go_size))
  have K0 := Lib.hid k0
  clear k0
  go_enter Try.func8, Try.ntmps8
  go_wp2_with fail
  refine (slew_new_ok 0 t _ (by decide) h1 (by omega)).mono ?_; rintro e w' ⟨rfl, rfl⟩
  go_wp2_with fail
  go_loopw [7, 8] (fun m i wr => ∃ (k : Nat) (N : Int), k ≤ n ∧ 0 ≤ N ∧ N ≤ 1099511627775 * k ∧ m = .int .i64 N ∧ i = .int .i64 k ∧ Ints3 wr w.heap.size N (t + N) 0 ∧ Below w.heap.size w wr) (fun _ i _ => n - (intOf i).toNat)
  case atStart => exact ⟨0, 0, Nat.zero_le _, by omega, by omega, rfl, rfl, by rw [Int.add_zero]; exact K0.out, HB0⟩
  case round =>
    obtain ⟨k, N, k1, N0, N1, rfl, rfl, KI, HB⟩ := hrel
    clear K0 HB0
    by_cases hlt : k < n
    · obtain ⟨B, O, rfl, hB, hcells⟩ := HZ.out (by omega)
      have hcell : wr.cell? ⟨B, O + k, none⟩ = some (.int .i64 (z k)) := (HB.cell (p := ⟨B, O + k, none⟩) hB).trans (hcells k hlt).1
      clear hcells
      have lb := low40_bd (z k)
      have hL : bits .and .i64 (z k) 1099511627775 = low40 (z k) := rfl
      go_wp2_with fail
      refine (slew_read_plain _ _ _ (N + low40 (z k)) _ KI (by omega) N0 (by omega) (by omega)).mono ?_; rintro e w2 ⟨rfl, ho2, k2⟩
      have HB2 : Below w.heap.size w w2 := HB.trans (ho2.below (Nat.le_refl _) HB.size)
      have e0 : t + N + (N + low40 (z k) - N) = t + (N + low40 (z k)) := by omega
      rw [e0] at k2
      rw [e0]
      clear e0
      go_wp2_with (first | (go_at_call 14; refine (slew_read_old _ _ _ _ _ _ k2 (by omega)).mono ?_; rintro e w' ⟨rfl, rfl⟩) | (go_at_call 18; refine (slew_left _ _ _ _ _ k2).mono ?_; rintro e w' ⟨rfl, rfl⟩))
      go_roundw
      case rel => exact ⟨k + 1, N + low40 (z k), by omega, by omega, by omega, rfl, by go_num, k2, HB2⟩
      case measure => simp [intOf]; omega
    · obtain rfl : k = n := by omega
      clear KI
      have z2 := HB.size
      go_wp2_with (go_at_call 12; refine (known8 _).mono ?_; rintro e w5 ⟨rfl, hb5⟩; obtain ⟨hc5, hf5⟩ := bcell hb5; have hz5 := hb5.size; (try simp only [World.size_alloc, World.size_setCell, World.heap_drewN] at hb5 hc5 hf5 hz5); (try have ha05 : w.heap.size < w5.heap.size := by omega); (try have ha15 : w.heap.size + 1 < w5.heap.size := by omega); (try have ha25 : w.heap.size + 2 < w5.heap.size := by omega); (try have hal5 : w.heap.size ≤ w5.heap.size := by omega); (try have ham5 : w.heap.size < w5.heap.size + 2 := by omega))
      go_ret
      go_light
      exact ⟨rfl, by (repeat' (first | (with_reducible exact Below.refl _ _) | (with_reducible assumption) | (with_reducible refine Below.trans ?_ (Below.mono (by with_reducible assumption) ?_)) | (with_reducible refine Below.alloc ?_ ?_ _) | (with_reducible refine Below.setCell ?_ ?_ _) | (with_reducible refine below_drewN ?_ _) | (with_reducible refine Below.drew ?_) | go_size))⟩

set_option maxRecDepth 100000 in
theorem slewPlain_lifted (os : Os) (started : os.Started) (H : Type) (enc : TypeId × Value → H) :
    ReturnsInHanded {} Try.checked os 8 .any (Rows.slewPlainSpec.pre6 enc Try.prog Try.f8 Rows.slewPlainRow.domain false) (Rows.slewPlainSpec.post enc Try.prog Try.f8 false true false false) := by
  refine returnsInHanded_of_change_sized (C := Try.checked) law_own started (by kernel_rfl) Try.func8
    (ChangeSpec.witness6 (enc := enc) (C := Try.checked) false ⟨#[], #[.int .i64 0, .slice none 0 0], []⟩ 8 (by kernel_rfl) (by kernel_rfl) (by kernel_rfl) (by kernel_rfl)) ?_
  intro W base args ds gs before hval0 hW hcnd hsz0 _
  have hval : ∀ (j : Nat) t v, Try.f8.params[j]? = some t → args[j]? = some v → Value.okWide Try.prog W .any base t v := hval0
  have hsz : (DataW.weightsEach Try.prog (Try.f8.params.toList ++ Rows.slewPlainSpec.plain.varTypes Try.prog) (ds ++ gs)).all (· ≤ reachBytes) = true := hsz0
  have hW' := hW
  obtain ⟨p, q, hA0, hV, rfl, hfz, hnd⟩ := hW
  have hA : DataW.TrodAll enc Try.prog W 0 (fun _ => true) true Try.f8.params.toList args.toList ds p := hA0
  rw [Try.params8] at hA hval hsz
  have hsame : (Rows.slewPlainSpec.fn H (ds ++ gs)).results = [.lit (.bool true)] ∧ (Rows.slewPlainSpec.fn H (ds ++ gs)).args = ds ∧ (Rows.slewPlainSpec.fn H (ds ++ gs)).vars = [] → ∀ W', Below W.heap.size W W' → Rows.slewPlainSpec.post enc Try.prog Try.f8 false true false false W args (.bool true) W' :=
    fun h W' hb => law_post (tb := 4) hW' law_laid (by kernel_rfl) rfl Try.underlying4 h.1 h.2.1 rfl h.2.2 hb
  obtain ⟨v0, vs0, d0, ds0, p0, q0, hargs, rfl, rfl, h0, r0⟩ := trodAll_cons hA
  obtain ⟨v1, vs1, d1, ds1, p1, q1, rfl, rfl, rfl, h1, r1⟩ := trodAll_cons r0
  obtain ⟨rfl, rfl, rfl⟩ := trodAll_nil r1
  obtain rfl : args = #[v0, v1] := by cases args; simp_all
  obtain ⟨rfl, rfl⟩ := trodVars_none hV
  have hpost := hsame ⟨rfl, rfl, rfl⟩
  clear hsame hA0 hval0 hsz0
  obtain ⟨a0, rfl, rfl, rfl, wf0⟩ := open_int Try.underlying3 (hval 0 3 v0 rfl rfl) h0
  obtain ⟨A, n, c, z, rfl, hn, hz⟩ := open_int_slice (hval 1 43 v1 rfl rfl) h1
  by_cases h : a0 < 0 ∨ (0 ≤ a0 ∧ 2305843009213693952 < a0) ∨ (0 ≤ a0 ∧ a0 ≤ 2305843009213693952 ∧ 200 < n)
  · exact (slewPlain_out a0 A n c W hn h).mono fun e W' ⟨he, hb⟩ => ⟨_, he, hpost W' hb⟩
  · exact (slewPlain_in a0 A n c z W hz (by omega) (by omega) (by omega)).mono fun e W' ⟨he, hb⟩ => ⟨_, he, hpost W' hb⟩
theorem slewPlain_holds : Rows.SlewPlainSaid :=
  OpenClaim.holds_of_wide 8 Try.f8 rfl rfl rfl rfl rfl rfl rfl ⟨rfl, rfl, rfl, rfl, rfl⟩ rfl rfl rfl rfl rfl (by kernel_rfl) Try.func8 (by kernel_rfl)
    (of_decide_eq_true (by kernel_rfl)) (by unfold Func.isWrapper; first | (rw [if_pos (by decide +kernel)]; kernel_rfl) | (rw [if_neg (by decide +kernel)]; exact ⟨rfl, rfl⟩))
    (fun os started H enc _ => slewPlain_lifted os started H enc)
end Go.Proofs.Ytblkmakfgehghaa
