/- Stage 4: ScaleHeld. -/
import Derived.Test.YtklahiogcpojmaaS4B
import Derived.Test.YtklahiogcpojmaaCells
import Derived.Test.YtklahiogcpojmaaLaw
set_option linter.unusedSimpArgs false
set_option linter.unusedVariables false
namespace Go.Proofs.Ytklahiogcpojmaa
open Go.ChangeShapes Go.WideShapes Go.ChangeAt Go.RowKit Go.Joins

/-- A plain sum. -/
def sumP (z : Nat → Int) : Nat → Int
  | 0 => 0
  | k + 1 => sumP z k + z k
theorem sumP_bd (z : Nat → Int) (n : Nat) (hz : ∀ j, j < n → -1125899906842624 ≤ z j ∧ z j ≤ 1125899906842624) : ∀ k, k ≤ n → -1125899906842624 * k ≤ sumP z k ∧ sumP z k ≤ 1125899906842624 * k ∧ (k ≤ 1000 → sumS z k = sumP z k) := by
  intro k
  induction k with
  | zero => intro _; exact ⟨by simp [sumP], by simp [sumP], fun _ => rfl⟩
  | succ k ih =>
    intro hk
    obtain ⟨i1, i2, i3⟩ := ih (by omega)
    have hzk := hz k (by omega)
    refine ⟨by unfold sumP; omega, by unfold sumP; omega, fun h => ?_⟩
    show addS (sumS z k) (z k) = sumP z k + z k
    rw [i3 (by omega), addS_in (by omega) (by omega)]
/-- The numbers with three ahead of them. -/
def z3 (z : Nat → Int) (j : Nat) : Int := if j = 0 then 9223372036854775807 else if j = 1 then 1 else if j = 2 then -1 else z (j - 3)
theorem sum3_low (z : Nat → Int) (n : Nat) (hz : ∀ j, j < n → -1125899906842624 ≤ z j ∧ z j ≤ 1125899906842624) : ∀ k, k ≤ n → 9223372036854775806 - 1125899906842624 * k ≤ sumS (z3 z) (3 + k) ∧ sumS (z3 z) (3 + k) ≤ 9223372036854775807 := by
  intro k
  induction k with
  | zero =>
    intro _
    have e : sumS (z3 z) (3 + 0) = 9223372036854775806 := by
      show addS (addS (addS 0 (z3 z 0)) (z3 z 1)) (z3 z 2) = _
      rw [show z3 z 0 = 9223372036854775807 from rfl, show z3 z 1 = 1 from rfl, show z3 z 2 = -1 from rfl]
      decide
    rw [e]
    omega
  | succ k ih =>
    intro hk
    obtain ⟨i1, i2⟩ := ih (by omega)
    have hzk := hz k (by omega)
    have e : z3 z (3 + k) = z k := by
      unfold z3
      rw [if_neg (by omega), if_neg (by omega), if_neg (by omega), show 3 + k - 3 = k from by omega]
    show _ ≤ addS (sumS (z3 z) (3 + k)) (z3 z (3 + k)) ∧ addS (sumS (z3 z) (3 + k)) (z3 z (3 + k)) ≤ _
    rw [e]
    refine ⟨?_, (addS_bd _ _).2⟩
    unfold addS
    split <;> (try split) <;> omega
theorem int_info : (Try.prog.info? 3).map (fun i => (i.zero, i.size, i.bytes)) = some (some (.int .i64 0), 1, 8) := by kernel_rfl
theorem three_cells (z : Nat → Int) (n : Nat) : [Value.int .i64 9223372036854775807, .int .i64 1, .int .i64 (-1)] ++ cellsOf z (n * 1) = cellsOf (z3 z) (3 + n) := by
  apply List.ext_getElem?
  intro j
  rcases (show j < 3 + n ∨ 3 + n ≤ j from by omega) with h | h
  · rw [cellsOf_at (z3 z) (3 + n) j h]
    rcases (show j = 0 ∨ j = 1 ∨ j = 2 ∨ 3 ≤ j from by omega) with rfl | rfl | rfl | h3
    · rfl
    · rfl
    · rfl
    · obtain ⟨i, rfl⟩ : ∃ i, j = 3 + i := ⟨j - 3, by omega⟩
      rw [List.getElem?_append_right (by simp), show (3 + i - [Value.int .i64 9223372036854775807, .int .i64 1, .int .i64 (-1)].length) = i from by simp, cellsOf_at z (n * 1) i (by omega)]
      unfold z3
      rw [if_neg (by omega), if_neg (by omega), if_neg (by omega), show 3 + i - 3 = i from by omega]
  · rw [List.getElem?_eq_none (by simp [cellsOf_len]; omega), List.getElem?_eq_none (by rw [cellsOf_len]; exact h)]
theorem own_ints {w : World} {base : Nat} {e : TypeId} {v : Value} {n : Nat} {z : Nat → Int} (h : w.ownsRow base e 1 v n (cellsOf z n)) (hb : ∀ j, j < n → -9223372036854775808 ≤ z j ∧ z j ≤ 9223372036854775807) :
    ∃ (A : Option Addr) (c : Nat), v = .slice A n c ∧ IntsAt w A n z := by
  have hc0 := fun g hg => h.cells (g := g) hg
  rcases h.2 with ⟨rfl, rfl⟩ | ⟨g, cap, cur, rfl, hb', hh, _⟩
  · exact ⟨none, 0, rfl, fun hn => absurd hn (by omega)⟩
  · refine ⟨_, _, rfl, fun hn => ⟨g, 0, rfl, (h.lt g rfl).2, fun j hj => ⟨?_, hb j hj⟩⟩⟩
    have := hc0 g rfl j _ (cellsOf_at z n j hj)
    rwa [at_add] at this
theorem own_three (w : World) : (w.alloc (.cells #[.int .i64 9223372036854775807, .int .i64 1, .int .i64 (-1)] 3)).ownsRow w.heap.size 3 1 (.slice (some ⟨w.heap.size, 0, none⟩) 3 3) 3 [Value.int .i64 9223372036854775807, .int .i64 1, .int .i64 (-1)] :=
  ⟨rfl, .inr ⟨w.heap.size, 3, _, rfl, Nat.le_refl _, heap_alloc_new w _, Nat.le_refl _, by unfold maxLen; omega, rfl, rfl⟩⟩
theorem held_out (A : Option Addr) (n c : Nat) (w : World) (h : 1000 < n) (hn : n ≤ maxLen) :
    Calls Try.prog 9 #[.slice A n c] w fun e w' => e = .returned (.bool true) ∧ Below w.heap.size w w' := by
  unfold maxLen at hn
  have h' : (1000 : Int) < (n : Int) := by omega
  go_enter Try.func9, Try.ntmps9
  go_wp2
  go_ret
  exact ⟨rfl, Below.refl _ _⟩
set_option maxHeartbeats 4000000 in
theorem held_some (ad : Addr) (n c : Nat) (z : Nat → Int) (w : World) (hz : FlatAt w (some ad) 1 n z) (hn : n ≤ 1000) :
    Calls Try.prog 9 #[.slice (some ad) n c] w fun e w' => e = .returned (.bool true) ∧ Below w.heap.size w w' := by
  obtain ⟨i0, hi, hz0, hz1, hz2⟩ := info_parts int_info
  have hn' : (n : Int) ≤ 1000 := by omega
  have HZ := Lib.hid hz
  clear hz
  go_enter Try.func9, Try.ntmps9
  go_wp2
  go_loop [3, 4] (fun s i => ∃ k : Nat, k ≤ n ∧ i = .int .i64 k ∧ s = .int .i64 (sumP z k) ∧ (∀ j, j < k → -1125899906842624 ≤ z j ∧ z j ≤ 1125899906842624)) (fun _ i => n - (intOf i).toNat)
  case atStart => exact ⟨0, Nat.zero_le _, rfl, rfl, fun j hj => absurd hj (by omega)⟩
  case round =>
    obtain ⟨k, hk, rfl, rfl, hb⟩ := hrel
    have sb := sumP_bd z k hb k (Nat.le_refl _)
    have HB := Lib.hid hb
    clear hb
    by_cases hlt : k < n
    · obtain ⟨B, O, he, hB, hcells⟩ := HZ.out (by omega)
      injection he with he
      subst he
      have x0 := (hcells k (by omega)).1
      have lk : (k : Int) < (n : Int) := by omega
      have HS : Hid (sumP z (k + 1) = sumP z k + z k) := Lib.hid rfl
      have hall : -1125899906842624 ≤ z k ∧ z k ≤ 1125899906842624 → ∀ j, j < k + 1 → -1125899906842624 ≤ z j ∧ z j ≤ 1125899906842624 := fun h j hj => by
        rcases (show j < k ∨ j = k from by omega) with h1 | rfl
        · exact HB.out j h1
        · exact h
      have HA := Lib.hid hall
      have sb1 := sb.1
      have sb2 := sb.2.1
      clear hcells hall sb
      generalize z k = x at *
      generalize sumP z k = s at *
      rcases (show x < -1125899906842624 ∨ (-1125899906842624 ≤ x ∧ 1125899906842624 < x) ∨ (-1125899906842624 ≤ x ∧ x ≤ 1125899906842624) from by omega) with p | ⟨p, p'⟩ | ⟨p, p'⟩
      · go_wp2_with (go_at_call 14; refine (known4 _).mono ?_; rintro e w5 ⟨rfl, hb5⟩; obtain ⟨hc5, hf5⟩ := bcell hb5; have hz5 := hb5.size; (try simp only [World.size_alloc, World.size_setCell, World.heap_drewN] at hb5 hc5 hf5 hz5); (try have ha05 : w.heap.size < w5.heap.size := by omega); (try have ha15 : w.heap.size + 1 < w5.heap.size := by omega); (try have ha25 : w.heap.size + 2 < w5.heap.size := by omega); (try have hal5 : w.heap.size ≤ w5.heap.size := by omega); (try have ham5 : w.heap.size < w5.heap.size + 2 := by omega))
        go_ret
        go_light
        exact ⟨rfl, by (repeat' (first | (with_reducible exact Below.refl _ _) | (with_reducible assumption) | (with_reducible refine Below.trans ?_ (Below.mono (by with_reducible assumption) ?_)) | (with_reducible refine Below.alloc ?_ ?_ _) | (with_reducible refine Below.setCell ?_ ?_ _) | (with_reducible refine below_drewN ?_ _) | (with_reducible refine Below.drew ?_) | go_size))⟩
      · go_wp2_with (go_at_call 14; refine (known4 _).mono ?_; rintro e w5 ⟨rfl, hb5⟩; obtain ⟨hc5, hf5⟩ := bcell hb5; have hz5 := hb5.size; (try simp only [World.size_alloc, World.size_setCell, World.heap_drewN] at hb5 hc5 hf5 hz5); (try have ha05 : w.heap.size < w5.heap.size := by omega); (try have ha15 : w.heap.size + 1 < w5.heap.size := by omega); (try have ha25 : w.heap.size + 2 < w5.heap.size := by omega); (try have hal5 : w.heap.size ≤ w5.heap.size := by omega); (try have ham5 : w.heap.size < w5.heap.size + 2 := by omega))
        go_ret
        go_light
        exact ⟨rfl, by (repeat' (first | (with_reducible exact Below.refl _ _) | (with_reducible assumption) | (with_reducible refine Below.trans ?_ (Below.mono (by with_reducible assumption) ?_)) | (with_reducible refine Below.alloc ?_ ?_ _) | (with_reducible refine Below.setCell ?_ ?_ _) | (with_reducible refine below_drewN ?_ _) | (with_reducible refine Below.drew ?_) | go_size))⟩
      · go_wp2
        go_round
        case rel => exact ⟨k + 1, by omega, by go_num, by rw [HS.out], HA.out ⟨p, p'⟩⟩
        case measure => simp [intOf]; omega
    · obtain rfl : k = n := by omega
      have hs := sb.2.2 hn
      have hlow := sum3_low z k HB.out k (Nat.le_refl _)
      have C1 := Lib.hid fun (w' : World) (hb : Below w.heap.size w w') => scale_add_any z (some ad) k c w' (by omega) (fun h0 => by
        obtain ⟨B, O, e, h1, h2⟩ := (HZ.out.below hb) h0
        exact ⟨B, O, e, h1, fun j hj => h2 j (by omega)⟩)
      have hz3 : ∀ j, j < 3 + k → -9223372036854775808 ≤ z3 z j ∧ z3 z j ≤ 9223372036854775807 := fun j hj => by
        unfold z3
        split
        · omega
        · split
          · omega
          · split
            · omega
            · have := HB.out (j - 3) (by omega); omega
      have HZ3 := Lib.hid hz3
      rw [hs] at C1
      have HW0 : Below w.heap.size w (w.alloc (.cells #[.int .i64 9223372036854775807, .int .i64 1, .int .i64 (-1)] 3)) := by (repeat' (first | (with_reducible exact Below.refl _ _) | (with_reducible assumption) | (with_reducible refine Below.trans ?_ (Below.mono (by with_reducible assumption) ?_)) | (with_reducible refine Below.alloc ?_ ?_ _) | (with_reducible refine Below.setCell ?_ ?_ _) | (with_reducible refine below_drewN ?_ _) | (with_reducible refine Below.drew ?_) | go_size))
      have hsrc := (HZ.out.below HW0).cells
      have h3 := own_three w
      have hlow' : sumP z k < 0 ∨ 6917529027641081855 ≤ sumS (z3 z) (3 + k) := .inr (by omega)
      obtain ⟨T3, hT3⟩ : ∃ T3, sumS (z3 z) (3 + k) = T3 := ⟨_, rfl⟩
      rw [hT3] at hlow'
      have HT3 := Lib.hid hT3
      generalize sumP z k = S at *
      clear hlow hz3 sb hs hT3
      go_wp2_with (at_builtin; refine wpList_append_own _ rfl (.tmp 34) (.tmp 35) _ rfl w.heap.size 3 i0 _ 1 8 Try.underlying22 hi hz0 hz1 hz2 rfl (by decide) (.slice (some ⟨w.heap.size, 0, none⟩) 3 3) 3 _ rfl h3 ad k c (cellsOf z (k * 1)) rfl (cellsOf_len _ _) hsrc (cellsOf_one _ _) (by unfold maxLen; omega) (by omega) (by simp) ?_; intro v1 w1 hown1 hg1 hat1)
      rw [three_cells] at hown1
      have HB1 : Below w.heap.size w w1 := HW0.grown hg1 (by simp) (fun k hk => by simp [Value.ownBlock] at hk; omega)
      obtain ⟨A1, c1, rfl, hp⟩ := own_ints hown1 HZ3.out
      have C2 := Lib.hid (scale_add_any (z3 z) A1 (3 + k) c1 w1 (by omega) hp)
      rw [HT3.out] at C2
      clear hown1 hg1 hat1 hsrc HW0 h3 hp
      have z1 := HB1.size
      refine C2.out.mono ?_; rintro e w' ⟨rfl, rfl⟩
      go_wp2_with fail
      refine (C1.out _ HB1).mono ?_; rintro e w' ⟨rfl, rfl⟩
      rcases hlow' with h | h
      · go_wp2_with (go_at_call 14; refine (known4 _).mono ?_; rintro e w5 ⟨rfl, hb5⟩; obtain ⟨hc5, hf5⟩ := bcell hb5; have hz5 := hb5.size; (try simp only [World.size_alloc, World.size_setCell, World.heap_drewN] at hb5 hc5 hf5 hz5); (try have ha05 : w.heap.size < w5.heap.size := by omega); (try have ha15 : w.heap.size + 1 < w5.heap.size := by omega); (try have ha25 : w.heap.size + 2 < w5.heap.size := by omega); (try have hal5 : w.heap.size ≤ w5.heap.size := by omega); (try have ham5 : w.heap.size < w5.heap.size + 2 := by omega))
        go_ret
        go_light
        exact ⟨rfl, by (repeat' (first | (with_reducible exact Below.refl _ _) | (with_reducible assumption) | (with_reducible refine Below.trans ?_ (Below.mono (by with_reducible assumption) ?_)) | (with_reducible refine Below.alloc ?_ ?_ _) | (with_reducible refine Below.setCell ?_ ?_ _) | (with_reducible refine below_drewN ?_ _) | (with_reducible refine Below.drew ?_) | go_size))⟩
      · by_cases h0 : S < 0
        · go_wp2_with (go_at_call 14; refine (known4 _).mono ?_; rintro e w5 ⟨rfl, hb5⟩; obtain ⟨hc5, hf5⟩ := bcell hb5; have hz5 := hb5.size; (try simp only [World.size_alloc, World.size_setCell, World.heap_drewN] at hb5 hc5 hf5 hz5); (try have ha05 : w.heap.size < w5.heap.size := by omega); (try have ha15 : w.heap.size + 1 < w5.heap.size := by omega); (try have ha25 : w.heap.size + 2 < w5.heap.size := by omega); (try have hal5 : w.heap.size ≤ w5.heap.size := by omega); (try have ham5 : w.heap.size < w5.heap.size + 2 := by omega))
          go_ret
          go_light
          exact ⟨rfl, by (repeat' (first | (with_reducible exact Below.refl _ _) | (with_reducible assumption) | (with_reducible refine Below.trans ?_ (Below.mono (by with_reducible assumption) ?_)) | (with_reducible refine Below.alloc ?_ ?_ _) | (with_reducible refine Below.setCell ?_ ?_ _) | (with_reducible refine below_drewN ?_ _) | (with_reducible refine Below.drew ?_) | go_size))⟩
        · have h0' : 0 ≤ S := by omega
          go_wp2_with (go_at_call 14; refine (known4 _).mono ?_; rintro e w5 ⟨rfl, hb5⟩; obtain ⟨hc5, hf5⟩ := bcell hb5; have hz5 := hb5.size; (try simp only [World.size_alloc, World.size_setCell, World.heap_drewN] at hb5 hc5 hf5 hz5); (try have ha05 : w.heap.size < w5.heap.size := by omega); (try have ha15 : w.heap.size + 1 < w5.heap.size := by omega); (try have ha25 : w.heap.size + 2 < w5.heap.size := by omega); (try have hal5 : w.heap.size ≤ w5.heap.size := by omega); (try have ham5 : w.heap.size < w5.heap.size + 2 := by omega))
          go_ret
          go_light
          exact ⟨rfl, by (repeat' (first | (with_reducible exact Below.refl _ _) | (with_reducible assumption) | (with_reducible refine Below.trans ?_ (Below.mono (by with_reducible assumption) ?_)) | (with_reducible refine Below.alloc ?_ ?_ _) | (with_reducible refine Below.setCell ?_ ?_ _) | (with_reducible refine below_drewN ?_ _) | (with_reducible refine Below.drew ?_) | go_size))⟩
theorem three_sum (z : Nat → Int) : sumS (z3 z) 3 = 9223372036854775806 := by
  show addS (addS (addS 0 (z3 z 0)) (z3 z 1)) (z3 z 2) = _
  rw [show z3 z 0 = 9223372036854775807 from rfl, show z3 z 1 = 1 from rfl, show z3 z 2 = -1 from rfl]
  decide
theorem add_three (w : World) (B : Nat) (h0 : w.cell? ⟨B, 0, none⟩ = some (.int .i64 9223372036854775807)) (h1 : w.cell? ⟨B, 1, none⟩ = some (.int .i64 1)) (h2 : w.cell? ⟨B, 2, none⟩ = some (.int .i64 (-1))) :
    Calls Try.prog 12 #[.slice (some ⟨B, 0, none⟩) 3 3] w fun e w' => e = .returned (.int .i64 9223372036854775806) ∧ w = w' := by
  have h := scale_add3 9223372036854775807 1 (-1) B w (by decide) (by decide) (by decide) h0 h1 h2
  rwa [show addS (addS 9223372036854775807 1) (-1) = 9223372036854775806 from by decide] at h
set_option maxHeartbeats 1000000 in
theorem held_nil (w : World) : Calls Try.prog 9 #[.slice none 0 0] w fun e w' => e = .returned (.bool true) ∧ Below w.heap.size w w' := by
  have C3 := Lib.hid fun w' : World => scale_add_any (fun _ => 0) none 0 0 w' (by omega) (fun h => absurd h (by omega))
  rw [show sumS (fun _ => 0) 0 = 0 from rfl] at C3
  go_enter Try.func9, Try.ntmps9
  go_wp2
  refine wp_loop_rounds 1 ?_
  rw [rounds_succ]
  go_wp2_with fail
  refine (add_three _ w.heap.size (by simp [go_sem]) (by simp [go_sem]) (by simp [go_sem])).mono ?_; rintro e w' ⟨rfl, rfl⟩
  go_wp2_with fail
  refine (C3.out _).mono ?_; rintro e w' ⟨rfl, rfl⟩
  go_wp2_with (go_at_call 14; refine (known4 _).mono ?_; rintro e w5 ⟨rfl, hb5⟩; obtain ⟨hc5, hf5⟩ := bcell hb5; have hz5 := hb5.size; (try simp only [World.size_alloc, World.size_setCell, World.heap_drewN] at hb5 hc5 hf5 hz5); (try have ha05 : w.heap.size < w5.heap.size := by omega); (try have ha15 : w.heap.size + 1 < w5.heap.size := by omega); (try have ha25 : w.heap.size + 2 < w5.heap.size := by omega); (try have hal5 : w.heap.size ≤ w5.heap.size := by omega); (try have ham5 : w.heap.size < w5.heap.size + 2 := by omega))
  go_ret
  go_light
  exact ⟨rfl, by (repeat' (first | (with_reducible exact Below.refl _ _) | (with_reducible assumption) | (with_reducible refine Below.trans ?_ (Below.mono (by with_reducible assumption) ?_)) | (with_reducible refine Below.alloc ?_ ?_ _) | (with_reducible refine Below.setCell ?_ ?_ _) | (with_reducible refine below_drewN ?_ _) | (with_reducible refine Below.drew ?_) | go_size))⟩

set_option maxRecDepth 100000 in
theorem scaleHeld_lifted (os : Os) (started : os.Started) (H : Type) (enc : TypeId × Value → H) :
    ReturnsInHanded {} Try.checked os 9 .any (Rows.scaleHeldSpec.pre6 enc Try.prog Try.f9 Rows.scaleHeldRow.domain false) (Rows.scaleHeldSpec.post enc Try.prog Try.f9 false true false false) := by
  refine returnsInHanded_of_change_sized (C := Try.checked) law_own started (by kernel_rfl) Try.func9
    (ChangeSpec.witness6 (enc := enc) (C := Try.checked) false ⟨#[], #[.slice none 0 0], []⟩ 8 (by kernel_rfl) (by kernel_rfl) (by kernel_rfl) (by kernel_rfl)) ?_
  intro W base args ds gs before hval0 hW hcnd hsz0 _
  have hval : ∀ (j : Nat) t v, Try.f9.params[j]? = some t → args[j]? = some v → Value.okWide Try.prog W .any base t v := hval0
  have hsz : (DataW.weightsEach Try.prog (Try.f9.params.toList ++ Rows.scaleHeldSpec.plain.varTypes Try.prog) (ds ++ gs)).all (· ≤ reachBytes) = true := hsz0
  have hW' := hW
  obtain ⟨p, q, hA0, hV, rfl, hfz, hnd⟩ := hW
  have hA : DataW.TrodAll enc Try.prog W 0 (fun _ => true) true Try.f9.params.toList args.toList ds p := hA0
  rw [Try.params9] at hA hval hsz
  have hsame : (Rows.scaleHeldSpec.fn H (ds ++ gs)).results = [.lit (.bool true)] ∧ (Rows.scaleHeldSpec.fn H (ds ++ gs)).args = ds ∧ (Rows.scaleHeldSpec.fn H (ds ++ gs)).vars = [] → ∀ W', Below W.heap.size W W' → Rows.scaleHeldSpec.post enc Try.prog Try.f9 false true false false W args (.bool true) W' :=
    fun h W' hb => law_post (tb := 4) hW' law_laid (by kernel_rfl) rfl Try.underlying4 h.1 h.2.1 rfl h.2.2 hb
  obtain ⟨v0, vs0, d0, ds0, p0, q0, hargs, rfl, rfl, h0, r0⟩ := trodAll_cons hA
  obtain ⟨rfl, rfl, rfl⟩ := trodAll_nil r0
  obtain rfl : args = #[v0] := by cases args; simp_all
  obtain ⟨rfl, rfl⟩ := trodVars_none hV
  have hpost := hsame ⟨rfl, rfl, rfl⟩
  clear hsame hA0 hval0 hsz0
  obtain ⟨A, n, c, z, rfl, hn, hz⟩ := open_flat_slice (m := 1) Try.underlying22 (by kernel_rfl) (by kernel_rfl) (by omega) (hval 0 22 v0 rfl rfl) h0
  by_cases h : n ≤ 1000
  · rcases A with _ | ad
    · obtain ⟨rfl, rfl⟩ := nil_shape Try.underlying22 h0
      exact (held_nil W).mono fun e W' ⟨he, hb⟩ => ⟨_, he, hpost W' hb⟩
    · exact (held_some ad n c z W hz h).mono fun e W' ⟨he, hb⟩ => ⟨_, he, hpost W' hb⟩
  · exact (held_out A n c W (by omega) hn).mono fun e W' ⟨he, hb⟩ => ⟨_, he, hpost W' hb⟩
theorem scaleHeld_holds : Rows.ScaleHeldSaid :=
  OpenClaim.holds_of_wide 9 Try.f9 rfl rfl rfl rfl rfl rfl rfl ⟨rfl, rfl, rfl, rfl, rfl⟩ rfl rfl rfl rfl rfl (by kernel_rfl) Try.func9 (by kernel_rfl)
    (of_decide_eq_true (by kernel_rfl)) (by unfold Func.isWrapper; first | (rw [if_pos (by decide +kernel)]; kernel_rfl) | (rw [if_neg (by decide +kernel)]; exact ⟨rfl, rfl⟩))
    (fun os started H enc _ => scaleHeld_lifted os started H enc)
end Go.Proofs.Ytklahiogcpojmaa
