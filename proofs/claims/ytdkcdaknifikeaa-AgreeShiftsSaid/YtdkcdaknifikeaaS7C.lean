/- Stage 7: AgreeShifts (written by gen/s7c.py). -/
import Derived.Test.YtdkcdaknifikeaaIv
import Derived.Test.YtdkcdaknifikeaaLaw
import Derived.BigGuard
import Derived.BigGuardPart
import Derived.BigCall
set_option linter.unusedSimpArgs false
set_option linter.unusedVariables false
namespace Go.Proofs.Ytdkcdaknifikeaa
open Go.ChangeShapes Go.WideShapes Go.ChangeAt Go.RowKit Go.Joins

def sh (d : Int) (i : Int × Int) : Int × Int := (i.1 + d, i.2 + d)
theorem cnt_sh (l : List (Int × Int)) (d x : Int) : Ag.cnt (l.map (sh d)) (x + d) = Ag.cnt l x := by
  unfold Ag.cnt
  rw [List.countP_map]
  apply List.countP_congr
  intro i _
  simp [Ag.inB, sh]
/-- What is told of all that are later by d. -/
theorem most_sh {l : List (Int × Int)} {a b : Int} {m : Nat} (h : Ag.MostIs l a b m) (d : Int) (h0 : 0 < m) : Ag.MostIs (l.map (sh d)) (a + d) (b + d) m := by
  refine ⟨fun x => ?_, fun h => absurd h (by omega), fun _ => ?_, fun x hx _ => ?_, fun _ => ?_, fun i hi _ hin => ?_⟩
  · have := cnt_sh l d (x - d)
    rw [show x - d + d = x from by omega] at this
    rw [this]; exact h.le _
  · rw [cnt_sh]; exact h.at_ h0
  · have := cnt_sh l d (x - d)
    rw [show x - d + d = x from by omega] at this
    rw [this]; exact h.least _ (by omega) h0
  · obtain ⟨i, hi, hin, rfl⟩ := h.high h0
    exact ⟨sh d i, List.mem_map.2 ⟨i, hi, rfl⟩, by simp [Ag.inB, sh] at hin ⊢; omega, rfl⟩
  · obtain ⟨j, hj, rfl⟩ := List.mem_map.1 hi
    have := h.low j hj h0 (by simp [Ag.inB, sh] at hin ⊢; omega)
    simp [sh]; omega
theorem most_sh0 {l : List (Int × Int)} {a b : Int} (h : Ag.MostIs l a b 0) (d : Int) : Ag.MostIs (l.map (sh d)) 0 0 0 := by
  refine ⟨fun x => ?_, fun _ => ⟨rfl, rfl⟩, fun h => absurd h (by omega), fun _ _ h => absurd h (by omega), fun h => absurd h (by omega), fun _ _ h => absurd h (by omega)⟩
  have := cnt_sh l d (x - d)
  rw [show x - d + d = x from by omega] at this
  rw [this]; exact h.le _
theorem agreeShifts_out (A : Option Addr) (n c : Nat) (x : Int) (w : World) (h : 200 < n ∨ (n ≤ 200 ∧ x < -1099511627776) ∨ (n ≤ 200 ∧ 1099511627776 < x)) (hn : n ≤ maxLen) :
    Calls Try.prog 8 #[.slice A n c, .int .i64 x] w fun e w' => e = .returned (.bool true) ∧ Below w.heap.size w w' := by
  unfold maxLen at hn
  rcases h with h | ⟨h1, h⟩ | ⟨h1, h⟩
  · have h' : (200 : Int) < (n : Int) := by omega
    go_enter Try.func8, Try.ntmps8
    go_wp2
    go_ret
    exact ⟨rfl, Below.refl _ _⟩
  · have h' : (n : Int) ≤ 200 := by omega
    go_enter Try.func8, Try.ntmps8
    go_wp2
    go_ret
    exact ⟨rfl, Below.refl _ _⟩
  · have h' : (n : Int) ≤ 200 := by omega
    have h2 : -1099511627776 ≤ x := by omega
    go_enter Try.func8, Try.ntmps8
    go_wp2
    go_ret
    exact ⟨rfl, Below.refl _ _⟩
set_option maxRecDepth 100000 in
set_option maxHeartbeats 8000000 in
theorem agreeShifts_in (z : Nat → Int) (A : Option Addr) (n c : Nat) (x : Int) (w : World) (hn : n ≤ 200) (b0 : -1099511627776 ≤ x) (b1 : x ≤ 1099511627776) (hz : FlatAt w A 2 n z) :
    Calls Try.prog 8 #[.slice A n c, .int .i64 x] w fun e w' => e = .returned (.bool true) ∧ Below w.heap.size w w' := by
  have hn' : (n : Int) ≤ 200 := by omega
  have HZ := Lib.hid hz
  obtain ⟨i0, hi, hz0, hz1, hz2⟩ := info_parts iv_info
  have tx0 : decide (x < -1099511627776) = false := by simp only [decide_eq_false_iff_not]; omega
  have tx1 : decide (1099511627776 < x) = false := by simp only [decide_eq_false_iff_not]; omega
  clear hz
  go_enter Try.func8, Try.ntmps8
  go_wp2
  go_loopw [5, 6] (fun v i wr => ∃ k : Nat, k ≤ n ∧ i = .int .i64 k ∧ POwn w.heap.size wr v ((ivs z k).map (sh x)) ∧ (∀ i ∈ ivs z k, -1152921504606846976 ≤ i.1 ∧ i.1 ≤ 1152921504606846976 ∧ -1152921504606846976 ≤ i.2 ∧ i.2 ≤ 1152921504606846976) ∧ Below w.heap.size w wr) (fun _ i _ => n - (intOf i).toNat)
  case atStart => exact ⟨0, Nat.zero_le _, rfl, POwn.nil _ _, fun i hi => by simp [ivs] at hi, Below.refl _ _⟩
  case round =>
    obtain ⟨k, hk, rfl, hP, hbd, HB⟩ := hrel
    have zr := HB.size
    have HBD := Lib.hid hbd
    clear hbd
    by_cases hlt : k < n
    · obtain ⟨B, O, rfl, hB, hcells⟩ := HZ.out (by omega)
      have hs := ivs_succ z k
      have x0 : wr.cell? ⟨B, O + k * 2, none⟩ = some (.int .i64 (z (k * 2))) := (HB.cell (p := ⟨B, O + k * 2, none⟩) hB).trans (hcells (k * 2) (by omega)).1
      have x1 : wr.cell? ⟨B, O + k * 2 + 1, none⟩ = some (.int .i64 (z (k * 2 + 1))) := (HB.cell (p := ⟨B, O + (k * 2 + 1), none⟩) hB).trans (hcells (k * 2 + 1) (by omega)).1
      have lk : (k : Int) < (n : Int) := by omega
      have lB : B < wr.heap.size := by omega
      have HS := Lib.hid hs
      clear hcells hs
      generalize z (k * 2) = lo at *
      generalize z (k * 2 + 1) = hi' at *
      have hl : ((ivs z k).map (sh x)).length = k := by rw [List.length_map, ivs_len]
      have hown : wr.ownsRow w.heap.size 25 2 u5 k (cellsOf (zl ((ivs z k).map (sh x))) (k * 2)) := by
        have := hP
        unfold POwn at this
        rwa [hl] at this
      have HO := Lib.hid hown
      have HL := Lib.hid hl
      clear hP hown hl
      rcases (show lo < -1152921504606846976 ∨ (-1152921504606846976 ≤ lo ∧ 1152921504606846976 < lo) ∨ (-1152921504606846976 ≤ lo ∧ lo ≤ 1152921504606846976 ∧ hi' < -1152921504606846976) ∨ (-1152921504606846976 ≤ lo ∧ lo ≤ 1152921504606846976 ∧ -1152921504606846976 ≤ hi' ∧ 1152921504606846976 < hi') ∨ (-1152921504606846976 ≤ lo ∧ lo ≤ 1152921504606846976 ∧ -1152921504606846976 ≤ hi' ∧ hi' ≤ 1152921504606846976) from by omega) with p | ⟨p, p'⟩ | ⟨p, p', q⟩ | ⟨p, p', q, q'⟩ | ⟨p, p', q, q'⟩
      · have t0 : decide (lo < -1152921504606846976) = true := by simpa using p
        go_wp2_with (go_at_call 14; refine (known7 _).mono ?_; rintro e w5 ⟨rfl, hb5⟩; obtain ⟨hc5, hf5⟩ := bcell hb5; have hz5 := hb5.size; (try simp only [World.size_alloc, World.size_setCell, World.heap_drewN] at hb5 hc5 hf5 hz5); (try have ha05 : w.heap.size < w5.heap.size := by omega); (try have ha15 : w.heap.size + 1 < w5.heap.size := by omega); (try have ha25 : w.heap.size + 2 < w5.heap.size := by omega); (try have hal5 : w.heap.size ≤ w5.heap.size := by omega); (try have ham5 : w.heap.size < w5.heap.size + 2 := by omega))
        go_ret
        go_light
        exact ⟨rfl, by (repeat' (first | (with_reducible exact Below.refl _ _) | (with_reducible assumption) | (with_reducible refine Below.trans ?_ (Below.mono (by with_reducible assumption) ?_)) | (with_reducible refine Below.alloc ?_ ?_ _) | (with_reducible refine Below.setCell ?_ ?_ _) | (with_reducible refine below_drewN ?_ _) | (with_reducible refine Below.drew ?_) | go_size))⟩
      · have t0 : decide (lo < -1152921504606846976) = false := by simp only [decide_eq_false_iff_not]; omega
        have t1 : decide (1152921504606846976 < lo) = true := by simpa using p'
        go_wp2_with (go_at_call 14; refine (known7 _).mono ?_; rintro e w5 ⟨rfl, hb5⟩; obtain ⟨hc5, hf5⟩ := bcell hb5; have hz5 := hb5.size; (try simp only [World.size_alloc, World.size_setCell, World.heap_drewN] at hb5 hc5 hf5 hz5); (try have ha05 : w.heap.size < w5.heap.size := by omega); (try have ha15 : w.heap.size + 1 < w5.heap.size := by omega); (try have ha25 : w.heap.size + 2 < w5.heap.size := by omega); (try have hal5 : w.heap.size ≤ w5.heap.size := by omega); (try have ham5 : w.heap.size < w5.heap.size + 2 := by omega))
        go_ret
        go_light
        exact ⟨rfl, by (repeat' (first | (with_reducible exact Below.refl _ _) | (with_reducible assumption) | (with_reducible refine Below.trans ?_ (Below.mono (by with_reducible assumption) ?_)) | (with_reducible refine Below.alloc ?_ ?_ _) | (with_reducible refine Below.setCell ?_ ?_ _) | (with_reducible refine below_drewN ?_ _) | (with_reducible refine Below.drew ?_) | go_size))⟩
      · have t0 : decide (lo < -1152921504606846976) = false := by simp only [decide_eq_false_iff_not]; omega
        have t1 : decide (1152921504606846976 < lo) = false := by simp only [decide_eq_false_iff_not]; omega
        have t2 : decide (hi' < -1152921504606846976) = true := by simpa using q
        go_wp2_with (go_at_call 14; refine (known7 _).mono ?_; rintro e w5 ⟨rfl, hb5⟩; obtain ⟨hc5, hf5⟩ := bcell hb5; have hz5 := hb5.size; (try simp only [World.size_alloc, World.size_setCell, World.heap_drewN] at hb5 hc5 hf5 hz5); (try have ha05 : w.heap.size < w5.heap.size := by omega); (try have ha15 : w.heap.size + 1 < w5.heap.size := by omega); (try have ha25 : w.heap.size + 2 < w5.heap.size := by omega); (try have hal5 : w.heap.size ≤ w5.heap.size := by omega); (try have ham5 : w.heap.size < w5.heap.size + 2 := by omega))
        go_ret
        go_light
        exact ⟨rfl, by (repeat' (first | (with_reducible exact Below.refl _ _) | (with_reducible assumption) | (with_reducible refine Below.trans ?_ (Below.mono (by with_reducible assumption) ?_)) | (with_reducible refine Below.alloc ?_ ?_ _) | (with_reducible refine Below.setCell ?_ ?_ _) | (with_reducible refine below_drewN ?_ _) | (with_reducible refine Below.drew ?_) | go_size))⟩
      · have t0 : decide (lo < -1152921504606846976) = false := by simp only [decide_eq_false_iff_not]; omega
        have t1 : decide (1152921504606846976 < lo) = false := by simp only [decide_eq_false_iff_not]; omega
        have t2 : decide (hi' < -1152921504606846976) = false := by simp only [decide_eq_false_iff_not]; omega
        have t3 : decide (1152921504606846976 < hi') = true := by simpa using q'
        go_wp2_with (go_at_call 14; refine (known7 _).mono ?_; rintro e w5 ⟨rfl, hb5⟩; obtain ⟨hc5, hf5⟩ := bcell hb5; have hz5 := hb5.size; (try simp only [World.size_alloc, World.size_setCell, World.heap_drewN] at hb5 hc5 hf5 hz5); (try have ha05 : w.heap.size < w5.heap.size := by omega); (try have ha15 : w.heap.size + 1 < w5.heap.size := by omega); (try have ha25 : w.heap.size + 2 < w5.heap.size := by omega); (try have hal5 : w.heap.size ≤ w5.heap.size := by omega); (try have ham5 : w.heap.size < w5.heap.size + 2 := by omega))
        go_ret
        go_light
        exact ⟨rfl, by (repeat' (first | (with_reducible exact Below.refl _ _) | (with_reducible assumption) | (with_reducible refine Below.trans ?_ (Below.mono (by with_reducible assumption) ?_)) | (with_reducible refine Below.alloc ?_ ?_ _) | (with_reducible refine Below.setCell ?_ ?_ _) | (with_reducible refine below_drewN ?_ _) | (with_reducible refine Below.drew ?_) | go_size))⟩
      · have t0 : decide (lo < -1152921504606846976) = false := by simp only [decide_eq_false_iff_not]; omega
        have t1 : decide (1152921504606846976 < lo) = false := by simp only [decide_eq_false_iff_not]; omega
        have t2 : decide (hi' < -1152921504606846976) = false := by simp only [decide_eq_false_iff_not]; omega
        have t3 : decide (1152921504606846976 < hi') = false := by simp only [decide_eq_false_iff_not]; omega
        have hw0 : IntKind.i64.wrap (lo + x) = lo + x := IntWalk.i64_in _ (by omega)
        have hw1 : IntKind.i64.wrap (hi' + x) = hi' + x := IntWalk.i64_in _ (by omega)
        go_wp2_with fail
        refine wp_region_held_drew (S := fun w' => w'.cell? ⟨B, O + k * 2, none⟩ = some (.int .i64 lo) ∧ w'.cell? ⟨B, O + k * 2 + 1, none⟩ = some (.int .i64 hi')) (by kernel_rfl) ?_ (fun hHeld => ?_)
        · exact ⟨x0, x1⟩
        have HO0 : Hid (wr.drew.ownsRow w.heap.size 25 2 u5 k (cellsOf (zl ((ivs z k).map (sh x))) (k * 2))) := Lib.hid HO.out
        have HB0 : Below w.heap.size w wr.drew := HB.drew
        have y0 : wr.drew.cell? ⟨B, O + k * 2, none⟩ = some (.int .i64 lo) := x0
        have y1 : wr.drew.cell? ⟨B, O + k * 2 + 1, none⟩ = some (.int .i64 hi') := x1
        have lB' : B < wr.drew.heap.size := lB
        have zr' : w.heap.size ≤ wr.drew.heap.size := zr
        generalize wr.drew = W0 at *
        clear x0 x1 HO HB lB zr
        refine wpAnyH_take (i := 0) (v := ?_) rfl (by kernel_rfl) (by kernel_rfl) (by kernel_rfl) (fun _ _ _ h => h) (Or.inl ⟨by rfl, ?_⟩) (by assumption) ?_
        rotate_left
        · intro w' hSw; (try dsimp only at hSw); go_simp; (try with_reducible rfl)
        (try simp only [Act.put, List.setIfInBounds_toArray, List.set_cons_zero, List.set_cons_succ, List.getElem_toArray, List.getElem_cons_succ, List.getElem_cons_zero])
        refine wpAnyH_take (i := 1) (v := ?_) rfl (by kernel_rfl) (by kernel_rfl) (by kernel_rfl) (fun _ _ _ h => h) (Or.inl ⟨by rfl, ?_⟩) (by assumption) ?_
        rotate_left
        · intro w' hSw; (try dsimp only at hSw); go_simp; (try with_reducible rfl)
        (try simp only [Act.put, List.setIfInBounds_toArray, List.set_cons_zero, List.set_cons_succ, List.getElem_toArray, List.getElem_cons_succ, List.getElem_cons_zero])
        refine wpAnyH_take (i := 2) (v := ?_) rfl (by kernel_rfl) (by kernel_rfl) (by kernel_rfl) (fun _ _ _ h => h) (Or.inl ⟨by rfl, ?_⟩) (by assumption) ?_
        rotate_left
        · intro w' hSw; (try dsimp only at hSw); go_simp; (try with_reducible rfl)
        (try simp only [Act.put, List.setIfInBounds_toArray, List.set_cons_zero, List.set_cons_succ, List.getElem_toArray, List.getElem_cons_succ, List.getElem_cons_zero])
        refine wpAnyH_take (i := 3) (v := ?_) rfl (by kernel_rfl) (by kernel_rfl) (by kernel_rfl) (fun _ _ _ h => h) (Or.inl ⟨by rfl, ?_⟩) (by assumption) ?_
        rotate_left
        · intro w' hSw; (try dsimp only at hSw); go_simp; (try with_reducible rfl)
        (try simp only [Act.put, List.setIfInBounds_toArray, List.set_cons_zero, List.set_cons_succ, List.getElem_toArray, List.getElem_cons_succ, List.getElem_cons_zero])
        refine wpAnyH_take (i := 4) (v := ?_) rfl (by kernel_rfl) (by kernel_rfl) (by kernel_rfl) (fun _ _ _ h => h) (Or.inl ⟨by rfl, ?_⟩) (by assumption) ?_
        rotate_left
        · intro w' hSw; (try dsimp only at hSw); go_simp; (try with_reducible rfl)
        (try simp only [Act.put, List.setIfInBounds_toArray, List.set_cons_zero, List.set_cons_succ, List.getElem_toArray, List.getElem_cons_succ, List.getElem_cons_zero])
        refine wpAnyH_take (i := 5) (v := ?_) rfl (by kernel_rfl) (by kernel_rfl) (by kernel_rfl) (fun _ _ _ h => h) (Or.inl ⟨by rfl, ?_⟩) (by assumption) ?_
        rotate_left
        · intro w' hSw; (try dsimp only at hSw); go_simp; (try with_reducible rfl)
        (try simp only [Act.put, List.setIfInBounds_toArray, List.set_cons_zero, List.set_cons_succ, List.getElem_toArray, List.getElem_cons_succ, List.getElem_cons_zero])
        refine wpAnyH_take (i := 6) (v := ?_) rfl (by kernel_rfl) (by kernel_rfl) (by kernel_rfl) (fun _ _ _ h => h) (Or.inl ⟨by rfl, ?_⟩) (by assumption) ?_
        rotate_left
        · intro w' hSw; (try dsimp only at hSw); go_simp; (try with_reducible rfl)
        (try simp only [Act.put, List.setIfInBounds_toArray, List.set_cons_zero, List.set_cons_succ, List.getElem_toArray, List.getElem_cons_succ, List.getElem_cons_zero])
        refine wpAnyH_take (i := 7) (v := ?_) rfl (by kernel_rfl) (by kernel_rfl) (by kernel_rfl) (fun _ _ _ h => h) (Or.inl ⟨by rfl, ?_⟩) (by assumption) ?_
        rotate_left
        · intro w' hSw; (try dsimp only at hSw); go_simp; (try with_reducible rfl)
        (try simp only [Act.put, List.setIfInBounds_toArray, List.set_cons_zero, List.set_cons_succ, List.getElem_toArray, List.getElem_cons_succ, List.getElem_cons_zero])
        refine wpAnyH_take (i := 8) (v := ?_) rfl (by kernel_rfl) (by kernel_rfl) (by kernel_rfl) (fun _ _ _ h => h) (Or.inl ⟨by rfl, ?_⟩) (by assumption) ?_
        rotate_left
        · intro w' hSw; (try dsimp only at hSw); go_simp; (try with_reducible rfl)
        (try simp only [Act.put, List.setIfInBounds_toArray, List.set_cons_zero, List.set_cons_succ, List.getElem_toArray, List.getElem_cons_succ, List.getElem_cons_zero])
        refine wpAnyH_take (i := 9) (v := ?_) rfl (by kernel_rfl) (by kernel_rfl) (by kernel_rfl) (fun _ _ _ h => h) (Or.inl ⟨by rfl, ?_⟩) (by assumption) ?_
        rotate_left
        · intro w' hSw; (try dsimp only at hSw); go_simp; (try with_reducible rfl)
        (try simp only [Act.put, List.setIfInBounds_toArray, List.set_cons_zero, List.set_cons_succ, List.getElem_toArray, List.getElem_cons_succ, List.getElem_cons_zero])
        refine wpAnyH_take (i := 10) (v := ?_) rfl (by kernel_rfl) (by kernel_rfl) (by kernel_rfl) (fun _ _ _ h => h) (Or.inl ⟨by rfl, ?_⟩) (by assumption) ?_
        rotate_left
        · intro w' hSw; (try dsimp only at hSw); go_simp; (try with_reducible rfl)
        (try simp only [Act.put, List.setIfInBounds_toArray, List.set_cons_zero, List.set_cons_succ, List.getElem_toArray, List.getElem_cons_succ, List.getElem_cons_zero])
        refine wpAnyH_take (i := 11) (v := ?_) rfl (by kernel_rfl) (by kernel_rfl) (by kernel_rfl) (fun _ _ _ h => h) (Or.inl ⟨by rfl, ?_⟩) (by assumption) ?_
        rotate_left
        · intro w' hSw; (try dsimp only at hSw); go_simp; (try with_reducible rfl)
        (try simp only [Act.put, List.setIfInBounds_toArray, List.set_cons_zero, List.set_cons_succ, List.getElem_toArray, List.getElem_cons_succ, List.getElem_cons_zero])
        refine wpAnyH_take (i := 12) (v := ?_) rfl (by kernel_rfl) (by kernel_rfl) (by kernel_rfl) (fun _ _ _ h => h) (Or.inl ⟨by rfl, ?_⟩) (by assumption) ?_
        rotate_left
        · intro w' hSw; (try dsimp only at hSw); go_simp; (try with_reducible rfl)
        (try simp only [Act.put, List.setIfInBounds_toArray, List.set_cons_zero, List.set_cons_succ, List.getElem_toArray, List.getElem_cons_succ, List.getElem_cons_zero])
        refine wpAnyH_take (i := 13) (v := ?_) rfl (by kernel_rfl) (by kernel_rfl) (by kernel_rfl) (fun _ _ _ h => h) (Or.inl ⟨by rfl, ?_⟩) (by assumption) ?_
        rotate_left
        · intro w' hSw; (try dsimp only at hSw); go_simp; (try with_reducible rfl)
        (try simp only [Act.put, List.setIfInBounds_toArray, List.set_cons_zero, List.set_cons_succ, List.getElem_toArray, List.getElem_cons_succ, List.getElem_cons_zero])
        refine wpAnyH_take (i := 14) (v := ?_) rfl (by kernel_rfl) (by kernel_rfl) (by kernel_rfl) (fun _ _ _ h => h) (Or.inl ⟨by rfl, ?_⟩) (by assumption) ?_
        rotate_left
        · intro w' hSw; (try dsimp only at hSw); go_simp; (try with_reducible rfl)
        (try simp only [Act.put, List.setIfInBounds_toArray, List.set_cons_zero, List.set_cons_succ, List.getElem_toArray, List.getElem_cons_succ, List.getElem_cons_zero])
        refine wpAnyH_take (i := 15) (v := ?_) rfl (by kernel_rfl) (by kernel_rfl) (by kernel_rfl) (fun _ _ _ h => h) (Or.inl ⟨by rfl, ?_⟩) (by assumption) ?_
        rotate_left
        · intro w' hSw; (try dsimp only at hSw); go_simp; (try with_reducible rfl)
        (try simp only [Act.put, List.setIfInBounds_toArray, List.set_cons_zero, List.set_cons_succ, List.getElem_toArray, List.getElem_cons_succ, List.getElem_cons_zero])
        refine wpAnyH_ready (rs := [16]) (by kernel_rfl) (by simp) ?_
        refine AllReadyH.cons rfl (fun K hK => ?_) AllReadyH.nil
        go_simp
        (try dsimp only)
        refine hK.out _ _ ?_ (fun hHeld => ?_)
        · exact ⟨(World.cell?_alloc_past (.cells #[.int .i64 (lo + x), .int .i64 (hi' + x)] 25) B (O + k * 2) lB').trans y0, (World.cell?_alloc_past (.cells #[.int .i64 (lo + x), .int .i64 (hi' + x)] 25) B (O + k * 2 + 1) lB').trans y1⟩
        clear hK K
        (try simp only [Act.put, List.setIfInBounds_toArray, List.set_cons_zero, List.set_cons_succ, List.getElem_toArray, List.getElem_cons_succ, List.getElem_cons_zero])
        have y0 : (W0.alloc (.cells #[.int .i64 (lo + x), .int .i64 (hi' + x)] 25)).cell? ⟨B, O + k * 2, none⟩ = some (.int .i64 lo) := (World.cell?_alloc_past (.cells #[.int .i64 (lo + x), .int .i64 (hi' + x)] 25) B (O + k * 2) lB').trans y0
        have y1 : (W0.alloc (.cells #[.int .i64 (lo + x), .int .i64 (hi' + x)] 25)).cell? ⟨B, O + k * 2 + 1, none⟩ = some (.int .i64 hi') := (World.cell?_alloc_past (.cells #[.int .i64 (lo + x), .int .i64 (hi' + x)] 25) B (O + k * 2 + 1) lB').trans y1
        refine wpAnyH_ready (rs := [17]) (by kernel_rfl) (by simp) ?_
        refine AllReadyH.cons rfl (fun K hK => ?_) AllReadyH.nil
        rw [if_pos (by rfl)]
        refine wp_append_own _ _ _ _ (by rfl) w.heap.size 25 i0 _ 2 16 Try.underlying22 hi hz0 hz1 hz2 rfl (by decide) u5 k _ (by rfl) (HO0.out.alloc _) ⟨W0.heap.size, 0, none⟩ 1 1 [.int .i64 (lo + x), .int .i64 (hi' + x)] (by rfl) (by rfl) (World.news_of_block (cs := #[.int .i64 (lo + x), .int .i64 (hi' + x)]) (t := 25) (fr := (0, 0)) (heap_alloc_new W0 _)) (by simp [Value.oneCell']) (by unfold maxLen; omega) (by omega) (by simp; omega) ?_
        intro v1 w1 hown1 hg1 hat1
        have hB1 := (HB0.alloc zr' (.cells #[.int .i64 (lo + x), .int .i64 (hi' + x)] 25)).grown hg1 (by simp; omega) (fun j hj => by have := (HO0.out.lt j hj).1; omega)
        have hne : ∀ j, u5.ownBlock = some j → j ≠ B := fun j hj => by have := (HO0.out.lt j hj).1; omega
        have y0 := hg1.cell y0 (fun e => hne B e.symm rfl)
        have y1 := hg1.cell y1 (fun e => hne B e.symm rfl)
        (try dsimp only)
        refine hK.out _ _ ?_ (fun hHeld => ?_)
        · exact ⟨y0, y1⟩
        clear hK K
        (try simp only [Act.put, List.setIfInBounds_toArray, List.set_cons_zero, List.set_cons_succ, List.getElem_toArray, List.getElem_cons_succ, List.getElem_cons_zero])
        refine wpAnyH_take (i := 18) (v := ?_) rfl (by kernel_rfl) (by kernel_rfl) (by kernel_rfl) (fun _ _ _ h => h) (Or.inl ⟨by rfl, ?_⟩) (by assumption) ?_
        rotate_left
        · intro w' hSw; (try dsimp only at hSw); go_simp; (try with_reducible rfl)
        (try simp only [Act.put, List.setIfInBounds_toArray, List.set_cons_zero, List.set_cons_succ, List.getElem_toArray, List.getElem_cons_succ, List.getElem_cons_zero])
        refine wpAnyH_done (by kernel_rfl) ?_ _
        have hP1 : POwn w.heap.size w1 v1 ((ivs z (k + 1)).map (sh x)) := by
          rw [HS.out, List.map_append]
          refine POwn.snoc (i := sh x (lo, hi')) ?_
          rw [HL.out]
          exact hown1
        have HP1 := Lib.hid hP1
        have hbd : ∀ i ∈ ivs z (k + 1), -1152921504606846976 ≤ i.1 ∧ i.1 ≤ 1152921504606846976 ∧ -1152921504606846976 ≤ i.2 ∧ i.2 ≤ 1152921504606846976 := by
          intro i hi
          rw [HS.out] at hi
          rcases List.mem_append.1 hi with hi | hi
          · exact HBD.out i hi
          · obtain rfl : i = (lo, hi') := by simpa using hi
            exact ⟨p, p', q, q'⟩
        have HBD1 := Lib.hid hbd
        clear hP1 hown1 hg1 hat1 hbd hw0 hw1 y0 y1
        go_wp2
        go_roundw
        case rel => exact ⟨k + 1, by omega, by go_num, HP1.out, HBD1.out, hB1⟩
        case measure => simp [intOf]; omega
    · obtain rfl : k = n := by omega
      have hlen : ((ivs z k).map (sh x)).length = k := by rw [List.length_map, ivs_len]
      have htl : Tells ((ivs z k).map (sh x)) := fun i hi => by
        obtain ⟨j, hj, rfl⟩ := List.mem_map.1 hi
        have := HBD.out j hj
        exact ⟨⟨by simp only [sh]; omega, by simp only [sh]; omega⟩, ⟨by simp only [sh]; omega, by simp only [sh]; omega⟩⟩
      obtain ⟨A1, c1, rfl, hf⟩ := hP.flat htl
      have C1 := Lib.hid (most_any z A k c wr (by omega) (HZ.out.below HB))
      have C2 := Lib.hid (fun (w' : World) (hb : Below wr.heap.size wr w') => most_list (c := c1) (hf.below hb) (by rw [hlen]; omega))
      have HLEN := Lib.hid hlen
      rw [hlen]
      clear hf htl hP hlen
      go_wp2_with fail
      refine C1.out.mono ?_; rintro e w1 ⟨a, b, m, rfl, hm, hb1'⟩
      have hB1 : Below wr.heap.size wr (w1.alloc (.cells #[.int .i64 a, .int .i64 b] 25)) := hb1'.alloc hb1'.size _
      have C3 := C2.out _ hB1
      rw [HLEN.out] at C3
      have C3' := Lib.hid C3
      have hml := most_le hm
      rw [ivs_len] at hml
      have hm200 : (m : Int) ≤ 200 := by omega
      have J1 := Lib.hid (Ints2.new w1 a b 25)
      have HB2 := HB.trans (hB1.mono zr)
      have HM := Lib.hid hm
      clear hb1' C3 hm C1
      go_wp2_with fail
      refine C3'.out.mono ?_; rintro e w3 ⟨a', b', m', rfl, hm', hb3⟩
      have HB3 := (HB2.trans (hb3.mono HB2.size))
      have z3 := HB3.size
      rcases Nat.eq_zero_or_pos m with h0 | h0
      · subst h0
        obtain ⟨rfl, rfl, rfl⟩ := (most_sh0 HM.out x).unique hm'
        have J3 := (J1.out.below hb3 (by simp)).alloc (.cells #[.int .i64 0, .int .i64 0] 25)
        have l3 := J3.lt
        obtain ⟨y0, y1, f0, f1, _⟩ := J3
        clear hb3 hm' J1 C3'
        go_wp2_with (go_at_call 14; refine (known7 _).mono ?_; rintro e w5 ⟨rfl, hb5⟩; obtain ⟨hc5, hf5⟩ := bcell hb5; have hz5 := hb5.size; (try simp only [World.size_alloc, World.size_setCell, World.heap_drewN] at hb5 hc5 hf5 hz5); (try have ha05 : w.heap.size < w5.heap.size := by omega); (try have ha15 : w.heap.size + 1 < w5.heap.size := by omega); (try have ha25 : w.heap.size + 2 < w5.heap.size := by omega); (try have hal5 : w.heap.size ≤ w5.heap.size := by omega); (try have ham5 : w.heap.size < w5.heap.size + 2 := by omega))
        go_ret
        go_light
        exact ⟨rfl, by (repeat' (first | (with_reducible exact Below.refl _ _) | (with_reducible assumption) | (with_reducible refine Below.trans ?_ (Below.mono (by with_reducible assumption) ?_)) | (with_reducible refine Below.alloc ?_ ?_ _) | (with_reducible refine Below.setCell ?_ ?_ _) | (with_reducible refine below_drewN ?_ _) | (with_reducible refine Below.drew ?_) | go_size))⟩
      · obtain ⟨rfl, rfl, rfl⟩ := (most_sh HM.out x h0).unique hm'
        have hab := HM.out.ab
        have hbds : -1152921504606846976 ≤ a ∧ a ≤ 1152921504606846976 ∧ -1152921504606846976 ≤ b ∧ b ≤ 1152921504606846976 := by
          obtain ⟨i, hi, hin, rfl⟩ := HM.out.high h0
          have := HBD.out i hi
          simp [Ag.inB] at hin
          omega
        obtain ⟨c1, c2, c3, c4⟩ := hbds
        have e0 : ((m : Int) == 0) = false := by simp; omega
        have J3 := (J1.out.below hb3 (by simp)).alloc (.cells #[.int .i64 (a + x), .int .i64 (b + x)] 25)
        have l3 := J3.lt
        obtain ⟨y0, y1, f0, f1, _⟩ := J3
        clear hb3 hm' J1 C3' h0
        go_wp2_with (go_at_call 14; refine (known7 _).mono ?_; rintro e w5 ⟨rfl, hb5⟩; obtain ⟨hc5, hf5⟩ := bcell hb5; have hz5 := hb5.size; (try simp only [World.size_alloc, World.size_setCell, World.heap_drewN] at hb5 hc5 hf5 hz5); (try have ha05 : w.heap.size < w5.heap.size := by omega); (try have ha15 : w.heap.size + 1 < w5.heap.size := by omega); (try have ha25 : w.heap.size + 2 < w5.heap.size := by omega); (try have hal5 : w.heap.size ≤ w5.heap.size := by omega); (try have ham5 : w.heap.size < w5.heap.size + 2 := by omega))
        go_ret
        go_light
        exact ⟨rfl, by (repeat' (first | (with_reducible exact Below.refl _ _) | (with_reducible assumption) | (with_reducible refine Below.trans ?_ (Below.mono (by with_reducible assumption) ?_)) | (with_reducible refine Below.alloc ?_ ?_ _) | (with_reducible refine Below.setCell ?_ ?_ _) | (with_reducible refine below_drewN ?_ _) | (with_reducible refine Below.drew ?_) | go_size))⟩
set_option maxRecDepth 100000 in
theorem agreeShifts_lifted (os : Os) (started : os.Started) (H : Type) (enc : TypeId × Value → H) :
    ReturnsInHanded {} Try.checked os 8 .any (Rows.agreeShiftsSpec.pre6 enc Try.prog Try.f8 Rows.agreeShiftsRow.domain false) (Rows.agreeShiftsSpec.post enc Try.prog Try.f8 false true false false) := by
  refine returnsInHanded_of_change_sized (C := Try.checked) law_own started (by kernel_rfl) Try.func8
    (ChangeSpec.witness6 (enc := enc) (C := Try.checked) false ⟨#[], #[.slice none 0 0, .int .i64 0], []⟩ 8 (by kernel_rfl) (by kernel_rfl) (by kernel_rfl) (by kernel_rfl)) ?_
  intro W base args ds gs before hval0 hW hcnd hsz0 _
  have hval : ∀ (j : Nat) t v, Try.f8.params[j]? = some t → args[j]? = some v → Value.okWide Try.prog W .any base t v := hval0
  have hsz : (DataW.weightsEach Try.prog (Try.f8.params.toList ++ Rows.agreeShiftsSpec.plain.varTypes Try.prog) (ds ++ gs)).all (· ≤ reachBytes) = true := hsz0
  have hW' := hW
  obtain ⟨p, q, hA0, hV, rfl, hfz, hnd⟩ := hW
  have hA : DataW.TrodAll enc Try.prog W 0 (fun _ => true) true Try.f8.params.toList args.toList ds p := hA0
  rw [Try.params8] at hA hval hsz
  have hsame : (Rows.agreeShiftsSpec.fn H (ds ++ gs)).results = [.lit (.bool true)] ∧ (Rows.agreeShiftsSpec.fn H (ds ++ gs)).args = ds ∧ (Rows.agreeShiftsSpec.fn H (ds ++ gs)).vars = [] → ∀ W', Below W.heap.size W W' → Rows.agreeShiftsSpec.post enc Try.prog Try.f8 false true false false W args (.bool true) W' :=
    fun h W' hb => law_post (tb := 4) hW' law_laid (by kernel_rfl) rfl Try.underlying4 h.1 h.2.1 rfl h.2.2 hb
  obtain ⟨v0, vs0, d0, ds0, p0, q0, hargs, rfl, rfl, h0, r0⟩ := trodAll_cons hA
  obtain ⟨v1, vs1, d1, ds1, p1, q1, rfl, rfl, rfl, h1, r1⟩ := trodAll_cons r0
  obtain ⟨rfl, rfl, rfl⟩ := trodAll_nil r1
  obtain rfl : args = #[v0, v1] := by cases args; simp_all
  obtain ⟨rfl, rfl⟩ := trodVars_none hV
  have hpost := hsame ⟨rfl, rfl, rfl⟩
  clear hsame hA0 hval0 hsz0
  obtain ⟨A, n, c, z, rfl, hn, hz⟩ := open_flat_slice (m := 2) Try.underlying22 (by kernel_rfl) (by kernel_rfl) (by omega) (hval 0 22 v0 rfl rfl) h0
  obtain ⟨a1, rfl, rfl, rfl, wf1⟩ := open_int Try.underlying3 (hval 1 3 v1 rfl rfl) h1
  by_cases h : n ≤ 200 ∧ -1099511627776 ≤ a1 ∧ a1 ≤ 1099511627776
  · exact (agreeShifts_in z A n c _ W h.1 h.2.1 h.2.2 hz).mono fun e W' ⟨he, hb⟩ => ⟨_, he, hpost W' hb⟩
  · exact (agreeShifts_out A n c _ W (by omega) hn).mono fun e W' ⟨he, hb⟩ => ⟨_, he, hpost W' hb⟩
theorem agreeShifts_holds : Rows.AgreeShiftsSaid :=
  OpenClaim.holds_of_wide 8 Try.f8 rfl rfl rfl rfl rfl rfl rfl ⟨rfl, rfl, rfl, rfl, rfl⟩ rfl rfl rfl rfl rfl (by kernel_rfl) Try.func8 (by kernel_rfl)
    (of_decide_eq_true (by kernel_rfl)) (by unfold Func.isWrapper; first | (rw [if_pos (by decide +kernel)]; kernel_rfl) | (rw [if_neg (by decide +kernel)]; exact ⟨rfl, rfl⟩))
    (fun os started H enc _ => agreeShifts_lifted os started H enc)
end Go.Proofs.Ytdkcdaknifikeaa
