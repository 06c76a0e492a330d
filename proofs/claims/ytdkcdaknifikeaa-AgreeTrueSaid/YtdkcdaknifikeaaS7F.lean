/- Stage 7: AgreeTrue (written by gen/s7f.py). -/
import Derived.Test.YtdkcdaknifikeaaS7A
import Derived.Test.YtdkcdaknifikeaaIv
import Derived.Test.YtdkcdaknifikeaaLaw
import Derived.BigGuard
import Derived.BigGuardPart
import Derived.BigCall
set_option linter.unusedSimpArgs false
set_option linter.unusedVariables false
namespace Go.Proofs.Ytdkcdaknifikeaa
open Go.ChangeShapes Go.WideShapes Go.ChangeAt Go.RowKit Go.Joins

/-- The interval round x that a number tells. -/
def hv (x h : Int) : Int × Int := (x - bits .and .i64 h 4095, x + bits .and .i64 (h / 4096) 4095)
def hvs (x : Int) (q : Nat → Int) (k : Nat) : List (Int × Int) := (List.range k).map fun j => hv x (q j)
theorem hvs_succ (x : Int) (q : Nat → Int) (k : Nat) : hvs x q (k + 1) = hvs x q k ++ [hv x (q k)] := by simp [hvs, List.range_succ]
theorem hvs_len (x : Int) (q : Nat → Int) (k : Nat) : (hvs x q k).length = k := by simp [hvs]
theorem hv_bd (x h : Int) : x - 4095 ≤ (hv x h).1 ∧ (hv x h).1 ≤ x ∧ x ≤ (hv x h).2 ∧ (hv x h).2 ≤ x + 4095 := by
  have h1 : 0 ≤ bits .and .i64 h 4095 ∧ bits .and .i64 h 4095 ≤ 4095 := bits_and_le h 4095 (by omega)
  have h2 : 0 ≤ bits .and .i64 (h / 4096) 4095 ∧ bits .and .i64 (h / 4096) 4095 ≤ 4095 := bits_and_le (h / 4096) 4095 (by omega)
  unfold hv
  simp only
  omega
theorem hvs_mem {x : Int} {q : Nat → Int} {k : Nat} {i : Int × Int} (h : i ∈ hvs x q k) : x - 4095 ≤ i.1 ∧ i.1 ≤ x ∧ x ≤ i.2 ∧ i.2 ≤ x + 4095 := by
  obtain ⟨j, _, rfl⟩ := List.mem_map.1 h
  exact hv_bd x (q j)
/-- What most of all tell, when more than half of all are round x. -/
theorem true_math {l r : List (Int × Int)} {x a b : Int} {m : Nat} (hr : ∀ i ∈ r, x - 4095 ≤ i.1 ∧ i.1 ≤ x ∧ x ≤ i.2 ∧ i.2 ≤ x + 4095) (hl : l.length < r.length) (h : Ag.MostIs (l ++ r) a b m) :
    r.length ≤ m ∧ x - 4095 ≤ a ∧ b ≤ x + 4095 ∧ a ≤ b := by
  have hc : Ag.cnt (l ++ r) x = Ag.cnt l x + Ag.cnt r x := by unfold Ag.cnt; rw [List.countP_append]
  have hcr : Ag.cnt r x = r.length := by
    unfold Ag.cnt
    rw [List.countP_eq_length]
    intro i hi
    have := hr i hi
    simp [Ag.inB]; omega
  have h1 := h.le x
  have hm : r.length ≤ m := by omega
  have hw := h.within (by omega)
  rw [List.countP_append] at hw
  have hlc : l.countP (fun i => decide (i.1 ≤ a) && decide (b ≤ i.2)) ≤ l.length := List.countP_le_length
  have hpos : 0 < r.countP (fun i => decide (i.1 ≤ a) && decide (b ≤ i.2)) := by omega
  obtain ⟨i, hi, hin⟩ := List.countP_pos_iff.1 hpos
  have := hr i hi
  simp at hin
  have := h.ab
  exact ⟨hm, by omega, by omega, by omega⟩
theorem wrap_sub {hi lo : Int} (a1 : -9223372036854775808 ≤ lo) (a2 : lo ≤ 9223372036854775807) (a3 : -9223372036854775808 ≤ hi) (a4 : hi ≤ 9223372036854775807) (h : 0 ≤ IntKind.i64.wrap (hi - lo)) (hl : lo ≤ hi) : IntKind.i64.wrap (hi - lo) = hi - lo := by
  rw [IntKind.wrap_i64] at h ⊢
  omega
theorem agreeTrue_out (x : Int) (A : Option Addr) (n c : Nat) (A' : Option Addr) (n' c' : Nat) (w : World) (h : 60 < n ∨ (n ≤ 60 ∧ n ≤ n') ∨ (n ≤ 60 ∧ n' < n ∧ x < -1099511627776) ∨ (n ≤ 60 ∧ n' < n ∧ -1099511627776 ≤ x ∧ 1099511627776 < x)) (hn : n ≤ maxLen) (hn' : n' ≤ maxLen) :
    Calls Try.prog 6 #[.int .i64 x, .slice A n c, .slice A' n' c'] w fun e w' => e = .returned (.bool true) ∧ Below w.heap.size w w' := by
  unfold maxLen at hn hn'
  have zr := Nat.le_refl w.heap.size
  rcases h with h | ⟨h1, h⟩ | ⟨h1, h2, h⟩ | ⟨h1, h2, h3, h⟩
  · have t0 : decide ((60 : Int) < (n : Int)) = true := by simp; omega
    go_enter Try.func6, Try.ntmps6
    go_wp2_with (go_at_call 14; refine (known7 _).mono ?_; rintro e w5 ⟨rfl, hb5⟩; obtain ⟨hc5, hf5⟩ := bcell hb5; have hz5 := hb5.size; (try simp only [World.size_alloc, World.size_setCell, World.heap_drewN] at hb5 hc5 hf5 hz5); (try have ha05 : w.heap.size < w5.heap.size := by omega); (try have ha15 : w.heap.size + 1 < w5.heap.size := by omega); (try have ha25 : w.heap.size + 2 < w5.heap.size := by omega); (try have hal5 : w.heap.size ≤ w5.heap.size := by omega); (try have ham5 : w.heap.size < w5.heap.size + 2 := by omega))
    go_ret
    exact ⟨rfl, hb5⟩
  · have t0 : decide ((60 : Int) < (n : Int)) = false := by simp; omega
    have t1 : decide (n ≤ n') = true := by simpa using h
    have t1' : decide ((n : Int) ≤ (n' : Int)) = true := by simp; omega
    go_enter Try.func6, Try.ntmps6
    go_wp2_with (go_at_call 14; refine (known7 _).mono ?_; rintro e w5 ⟨rfl, hb5⟩; obtain ⟨hc5, hf5⟩ := bcell hb5; have hz5 := hb5.size; (try simp only [World.size_alloc, World.size_setCell, World.heap_drewN] at hb5 hc5 hf5 hz5); (try have ha05 : w.heap.size < w5.heap.size := by omega); (try have ha15 : w.heap.size + 1 < w5.heap.size := by omega); (try have ha25 : w.heap.size + 2 < w5.heap.size := by omega); (try have hal5 : w.heap.size ≤ w5.heap.size := by omega); (try have ham5 : w.heap.size < w5.heap.size + 2 := by omega))
    go_ret
    exact ⟨rfl, hb5⟩
  · have t0 : decide ((60 : Int) < (n : Int)) = false := by simp; omega
    have t1 : decide (n ≤ n') = false := by simp; omega
    have t1' : decide ((n : Int) ≤ (n' : Int)) = false := by simp; omega
    have t2 : decide (x < -1099511627776) = true := by simpa using h
    go_enter Try.func6, Try.ntmps6
    go_wp2_with (go_at_call 14; refine (known7 _).mono ?_; rintro e w5 ⟨rfl, hb5⟩; obtain ⟨hc5, hf5⟩ := bcell hb5; have hz5 := hb5.size; (try simp only [World.size_alloc, World.size_setCell, World.heap_drewN] at hb5 hc5 hf5 hz5); (try have ha05 : w.heap.size < w5.heap.size := by omega); (try have ha15 : w.heap.size + 1 < w5.heap.size := by omega); (try have ha25 : w.heap.size + 2 < w5.heap.size := by omega); (try have hal5 : w.heap.size ≤ w5.heap.size := by omega); (try have ham5 : w.heap.size < w5.heap.size + 2 := by omega))
    go_ret
    exact ⟨rfl, hb5⟩
  · have t0 : decide ((60 : Int) < (n : Int)) = false := by simp; omega
    have t1 : decide (n ≤ n') = false := by simp; omega
    have t1' : decide ((n : Int) ≤ (n' : Int)) = false := by simp; omega
    have t2 : decide (x < -1099511627776) = false := by simp; omega
    have t3 : decide (1099511627776 < x) = true := by simpa using h
    go_enter Try.func6, Try.ntmps6
    go_wp2_with (go_at_call 14; refine (known7 _).mono ?_; rintro e w5 ⟨rfl, hb5⟩; obtain ⟨hc5, hf5⟩ := bcell hb5; have hz5 := hb5.size; (try simp only [World.size_alloc, World.size_setCell, World.heap_drewN] at hb5 hc5 hf5 hz5); (try have ha05 : w.heap.size < w5.heap.size := by omega); (try have ha15 : w.heap.size + 1 < w5.heap.size := by omega); (try have ha25 : w.heap.size + 2 < w5.heap.size := by omega); (try have hal5 : w.heap.size ≤ w5.heap.size := by omega); (try have ham5 : w.heap.size < w5.heap.size + 2 := by omega))
    go_ret
    exact ⟨rfl, hb5⟩
/-- The least width so far of those that tell all of a to b. -/
structure RW (a b : Int) (s : Int) : Prop where
  lo : b - a ≤ s
  hi : s ≤ 1048576
set_option maxRecDepth 100000 in
set_option maxHeartbeats 8000000 in
theorem agreeTrue_in (x : Int) (q : Nat → Int) (A : Option Addr) (n c : Nat) (z : Nat → Int) (A' : Option Addr) (n' c' : Nat) (w : World) (hn : n ≤ 60) (hlt0 : n' < n) (b0 : -1099511627776 ≤ x) (b1 : x ≤ 1099511627776) (hq : IntsAt w A n q) (hA : A' = none → n' = 0 ∧ c' = 0) (hz : FlatAt w A' 2 n' z) :
    Calls Try.prog 6 #[.int .i64 x, .slice A n c, .slice A' n' c'] w fun e w' => e = .returned (.bool true) ∧ Below w.heap.size w w' := by
  have hn' : (n : Int) ≤ 60 := by omega
  have t0 : decide ((60 : Int) < (n : Int)) = false := by simp; omega
  have t1 : decide (n ≤ n') = false := by simp; omega
  have t1' : decide ((n : Int) ≤ (n' : Int)) = false := by simp; omega
  have t2 : decide (x < -1099511627776) = false := by simp; omega
  have t3 : decide (1099511627776 < x) = false := by simp; omega
  obtain ⟨i0, hi0, hz0, hz1, hz2⟩ := info_parts iv_info
  have HT := Lib.hid (FlatAt.tells hz)
  have HQ := Lib.hid hq
  have C0 := Lib.hid (own7_any z A' n' c' w hA hz (by omega))
  have HL := Lib.hid (ivs_len z n')
  clear hz hq hA
  go_enter Try.func6, Try.ntmps6
  go_wp2_with fail
  refine C0.out.mono ?_; rintro e w1 ⟨v, rfl, hP, HB1⟩
  have HP0 := Lib.hid (show POwn w.heap.size w1 v (ivs z n' ++ hvs x q 0) by simpa [hvs] using hP)
  clear C0 hP
  go_wp2
  go_loopw [7, 8] (fun v i wr => ∃ k : Nat, k ≤ n ∧ i = .int .i64 k ∧ POwn w.heap.size wr v (ivs z n' ++ hvs x q k) ∧ Below w.heap.size w wr) (fun _ i _ => n - (intOf i).toNat)
  case atStart => exact ⟨0, Nat.zero_le _, rfl, HP0.out, HB1⟩
  case round =>
    obtain ⟨k, hk, rfl, hP, HB⟩ := hrel
    clear HP0
    have zr := HB.size
    by_cases hlt : k < n
    · obtain ⟨B, O, rfl, hB, hcells⟩ := HQ.out (by omega)
      have x0 : wr.cell? ⟨B, O + k, none⟩ = some (.int .i64 (q k)) := (HB.cell (p := ⟨B, O + k, none⟩) hB).trans (hcells k (by omega)).1
      have lk : (k : Int) < (n : Int) := by omega
      have lB : B < wr.heap.size := by omega
      have hs := hvs_succ x q k
      have hbd := hv_bd x (q k)
      have e1 : (hv x (q k)).1 = x - bits .and .i64 (q k) 4095 := rfl
      have e2 : (hv x (q k)).2 = x + bits .and .i64 (q k / 4096) 4095 := rfl
      have hw0 : IntKind.i64.wrap (x - bits .and .i64 (q k) 4095) = (hv x (q k)).1 := by rw [← e1]; exact IntWalk.i64_in _ (by omega)
      have hw1 : IntKind.i64.wrap (x + bits .and .i64 (q k / 4096) 4095) = (hv x (q k)).2 := by rw [← e2]; exact IntWalk.i64_in _ (by omega)
      clear e1 e2 hcells
      have hl : (ivs z n' ++ hvs x q k).length = n' + k := by rw [List.length_append, ivs_len, hvs_len]
      have hown : wr.ownsRow w.heap.size 25 2 u7 (n' + k) (cellsOf (zl (ivs z n' ++ hvs x q k)) ((n' + k) * 2)) := by
        have := hP
        unfold POwn at this
        rwa [hl] at this
      have HO := Lib.hid hown
      have HL2 := Lib.hid hl
      have HS : Hid (ivs z n' ++ hvs x q (k + 1) = (ivs z n' ++ hvs x q k) ++ [((hv x (q k)).1, (hv x (q k)).2)]) := Lib.hid (by rw [hs, List.append_assoc])
      clear hP hown hl hs
      generalize (hv x (q k)).1 = lo at *
      generalize (hv x (q k)).2 = hi at *
      generalize q k = h at *
      go_wp2_with fail
      refine wp_region_held_drew (S := fun w' => w'.cell? ⟨B, O + k, none⟩ = some (.int .i64 h)) (by kernel_rfl) ?_ (fun hHeld => ?_)
      · exact x0
      have HO0 : Hid (wr.drew.ownsRow w.heap.size 25 2 u7 (n' + k) (cellsOf (zl (ivs z n' ++ hvs x q k)) ((n' + k) * 2))) := Lib.hid HO.out
      have HB0 : Below w.heap.size w wr.drew := HB.drew
      have y0 : wr.drew.cell? ⟨B, O + k, none⟩ = some (.int .i64 h) := x0
      have lB' : B < wr.drew.heap.size := lB
      have zr' : w.heap.size ≤ wr.drew.heap.size := zr
      generalize wr.drew = W0 at *
      clear x0 HO HB lB zr
      refine wpAnyH_take (i := 0) (v := ?_) rfl (by kernel_rfl) (by kernel_rfl) (by kernel_rfl) (fun _ _ _ h => h) (Or.inl ⟨by rfl, ?_⟩) (by assumption) ?_
      rotate_left
      · intro w' hSw; (try dsimp only at hSw); go_simp; (try with_reducible rfl)
      (try simp only [Act.put, List.setIfInBounds_toArray, List.set_cons_zero, List.set_cons_succ, List.getElem_toArray, List.getElem_cons_succ, List.getElem_cons_zero])
      refine wpAnyH_take (i := 1) (v := ?_) rfl (by kernel_rfl) (by kernel_rfl) (by kernel_rfl) (fun _ _ _ h => h) (Or.inl ⟨by rfl, ?_⟩) (by assumption) ?_
      rotate_left
      · intro w' hSw; (try dsimp only at hSw); go_simp; (try with_reducible rfl)
      (try simp only [Act.put, List.setIfInBounds_toArray, List.set_cons_zero, List.set_cons_succ, List.getElem_toArray, List.getElem_cons_succ, List.getElem_cons_zero])
      refine wpAnyH_take (i := 2) (v := ?_) rfl (by kernel_rfl) (by kernel_rfl) (by kernel_rfl) (fun _ _ _ h => h) (Or.inl ⟨by rfl, ?_⟩) (by assumption) ?_
      rotate_left
      · intro w' hSw; (try dsimp only at hSw); go_simp; (try with_reducible rfl)
      (try simp only [Act.put, List.setIfInBounds_toArray, List.set_cons_zero, List.set_cons_succ, List.getElem_toArray, List.getElem_cons_succ, List.getElem_cons_zero])
      refine wpAnyH_take (i := 3) (v := ?_) rfl (by kernel_rfl) (by kernel_rfl) (by kernel_rfl) (fun _ _ _ h => h) (Or.inl ⟨by rfl, ?_⟩) (by assumption) ?_
      rotate_left
      · intro w' hSw; (try dsimp only at hSw); go_simp; (try with_reducible rfl)
      (try simp only [Act.put, List.setIfInBounds_toArray, List.set_cons_zero, List.set_cons_succ, List.getElem_toArray, List.getElem_cons_succ, List.getElem_cons_zero])
      refine wpAnyH_take (i := 4) (v := ?_) rfl (by kernel_rfl) (by kernel_rfl) (by kernel_rfl) (fun _ _ _ h => h) (Or.inl ⟨by rfl, ?_⟩) (by assumption) ?_
      rotate_left
      · intro w' hSw; (try dsimp only at hSw); go_simp; (try with_reducible rfl)
      (try simp only [Act.put, List.setIfInBounds_toArray, List.set_cons_zero, List.set_cons_succ, List.getElem_toArray, List.getElem_cons_succ, List.getElem_cons_zero])
      refine wpAnyH_take (i := 5) (v := ?_) rfl (by kernel_rfl) (by kernel_rfl) (by kernel_rfl) (fun _ _ _ h => h) (Or.inl ⟨by rfl, ?_⟩) (by assumption) ?_
      rotate_left
      · intro w' hSw; (try dsimp only at hSw); go_simp; (try with_reducible rfl)
      (try simp only [Act.put, List.setIfInBounds_toArray, List.set_cons_zero, List.set_cons_succ, List.getElem_toArray, List.getElem_cons_succ, List.getElem_cons_zero])
      refine wpAnyH_take (i := 6) (v := ?_) rfl (by kernel_rfl) (by kernel_rfl) (by kernel_rfl) (fun _ _ _ h => h) (Or.inl ⟨by rfl, ?_⟩) (by assumption) ?_
      rotate_left
      · intro w' hSw; (try dsimp only at hSw); go_simp; (try with_reducible rfl)
      (try simp only [Act.put, List.setIfInBounds_toArray, List.set_cons_zero, List.set_cons_succ, List.getElem_toArray, List.getElem_cons_succ, List.getElem_cons_zero])
      refine wpAnyH_take (i := 7) (v := ?_) rfl (by kernel_rfl) (by kernel_rfl) (by kernel_rfl) (fun _ _ _ h => h) (Or.inl ⟨by rfl, ?_⟩) (by assumption) ?_
      rotate_left
      · intro w' hSw; (try dsimp only at hSw); go_simp; (try with_reducible rfl)
      (try simp only [Act.put, List.setIfInBounds_toArray, List.set_cons_zero, List.set_cons_succ, List.getElem_toArray, List.getElem_cons_succ, List.getElem_cons_zero])
      refine wpAnyH_take (i := 8) (v := ?_) rfl (by kernel_rfl) (by kernel_rfl) (by kernel_rfl) (fun _ _ _ h => h) (Or.inl ⟨by rfl, ?_⟩) (by assumption) ?_
      rotate_left
      · intro w' hSw; (try dsimp only at hSw); go_simp; (try with_reducible rfl)
      (try simp only [Act.put, List.setIfInBounds_toArray, List.set_cons_zero, List.set_cons_succ, List.getElem_toArray, List.getElem_cons_succ, List.getElem_cons_zero])
      refine wpAnyH_take (i := 9) (v := ?_) rfl (by kernel_rfl) (by kernel_rfl) (by kernel_rfl) (fun _ _ _ h => h) (Or.inl ⟨by rfl, ?_⟩) (by assumption) ?_
      rotate_left
      · intro w' hSw; (try dsimp only at hSw); go_simp; (try with_reducible rfl)
      (try simp only [Act.put, List.setIfInBounds_toArray, List.set_cons_zero, List.set_cons_succ, List.getElem_toArray, List.getElem_cons_succ, List.getElem_cons_zero])
      refine wpAnyH_take (i := 10) (v := ?_) rfl (by kernel_rfl) (by kernel_rfl) (by kernel_rfl) (fun _ _ _ h => h) (Or.inl ⟨by rfl, ?_⟩) (by assumption) ?_
      rotate_left
      · intro w' hSw; (try dsimp only at hSw); go_simp; (try with_reducible rfl)
      (try simp only [Act.put, List.setIfInBounds_toArray, List.set_cons_zero, List.set_cons_succ, List.getElem_toArray, List.getElem_cons_succ, List.getElem_cons_zero])
      refine wpAnyH_take (i := 11) (v := ?_) rfl (by kernel_rfl) (by kernel_rfl) (by kernel_rfl) (fun _ _ _ h => h) (Or.inl ⟨by rfl, ?_⟩) (by assumption) ?_
      rotate_left
      · intro w' hSw; (try dsimp only at hSw); go_simp; (try with_reducible rfl)
      (try simp only [Act.put, List.setIfInBounds_toArray, List.set_cons_zero, List.set_cons_succ, List.getElem_toArray, List.getElem_cons_succ, List.getElem_cons_zero])
      refine wpAnyH_take (i := 12) (v := ?_) rfl (by kernel_rfl) (by kernel_rfl) (by kernel_rfl) (fun _ _ _ h => h) (Or.inl ⟨by rfl, ?_⟩) (by assumption) ?_
      rotate_left
      · intro w' hSw; (try dsimp only at hSw); go_simp; (try with_reducible rfl)
      (try simp only [Act.put, List.setIfInBounds_toArray, List.set_cons_zero, List.set_cons_succ, List.getElem_toArray, List.getElem_cons_succ, List.getElem_cons_zero])
      refine wpAnyH_take (i := 13) (v := ?_) rfl (by kernel_rfl) (by kernel_rfl) (by kernel_rfl) (fun _ _ _ h => h) (Or.inl ⟨by rfl, ?_⟩) (by assumption) ?_
      rotate_left
      · intro w' hSw; (try dsimp only at hSw); go_simp; (try with_reducible rfl)
      (try simp only [Act.put, List.setIfInBounds_toArray, List.set_cons_zero, List.set_cons_succ, List.getElem_toArray, List.getElem_cons_succ, List.getElem_cons_zero])
      refine wpAnyH_take (i := 14) (v := ?_) rfl (by kernel_rfl) (by kernel_rfl) (by kernel_rfl) (fun _ _ _ h => h) (Or.inl ⟨by rfl, ?_⟩) (by assumption) ?_
      rotate_left
      · intro w' hSw; (try dsimp only at hSw); go_simp; (try with_reducible rfl)
      (try simp only [Act.put, List.setIfInBounds_toArray, List.set_cons_zero, List.set_cons_succ, List.getElem_toArray, List.getElem_cons_succ, List.getElem_cons_zero])
      refine wpAnyH_take (i := 15) (v := ?_) rfl (by kernel_rfl) (by kernel_rfl) (by kernel_rfl) (fun _ _ _ h => h) (Or.inl ⟨by rfl, ?_⟩) (by assumption) ?_
      rotate_left
      · intro w' hSw; (try dsimp only at hSw); go_simp; (try with_reducible rfl)
      (try simp only [Act.put, List.setIfInBounds_toArray, List.set_cons_zero, List.set_cons_succ, List.getElem_toArray, List.getElem_cons_succ, List.getElem_cons_zero])
      refine wpAnyH_take (i := 16) (v := ?_) rfl (by kernel_rfl) (by kernel_rfl) (by kernel_rfl) (fun _ _ _ h => h) (Or.inl ⟨by rfl, ?_⟩) (by assumption) ?_
      rotate_left
      · intro w' hSw; (try dsimp only at hSw); go_simp; (try with_reducible rfl)
      (try simp only [Act.put, List.setIfInBounds_toArray, List.set_cons_zero, List.set_cons_succ, List.getElem_toArray, List.getElem_cons_succ, List.getElem_cons_zero])
      refine wpAnyH_ready (rs := [17]) (by kernel_rfl) (by simp) ?_
      refine AllReadyH.cons rfl (fun K hK => ?_) AllReadyH.nil
      go_simp
      (try dsimp only)
      refine hK.out _ _ ?_ (fun hHeld => ?_)
      · exact (World.cell?_alloc_past (.cells #[.int .i64 lo, .int .i64 hi] 25) B (O + k) lB').trans y0
      clear hK K
      (try simp only [Act.put, List.setIfInBounds_toArray, List.set_cons_zero, List.set_cons_succ, List.getElem_toArray, List.getElem_cons_succ, List.getElem_cons_zero])
      have y0 : (W0.alloc (.cells #[.int .i64 lo, .int .i64 hi] 25)).cell? ⟨B, O + k, none⟩ = some (.int .i64 h) := (World.cell?_alloc_past (.cells #[.int .i64 lo, .int .i64 hi] 25) B (O + k) lB').trans y0
      refine wpAnyH_ready (rs := [18]) (by kernel_rfl) (by simp) ?_
      refine AllReadyH.cons rfl (fun K hK => ?_) AllReadyH.nil
      rw [if_pos (by rfl)]
      refine wp_append_own _ _ _ _ (by rfl) w.heap.size 25 i0 _ 2 16 Try.underlying22 hi0 hz0 hz1 hz2 rfl (by decide) u7 (n' + k) _ (by rfl) (HO0.out.alloc _) ⟨W0.heap.size, 0, none⟩ 1 1 [.int .i64 lo, .int .i64 hi] (by rfl) (by rfl) (World.news_of_block (cs := #[.int .i64 lo, .int .i64 hi]) (t := 25) (fr := (0, 0)) (heap_alloc_new W0 _)) (by simp [Value.oneCell']) (by unfold maxLen; omega) (by omega) (by simp; omega) ?_
      intro v1 w2 hown1 hg1 hat1
      have hB1 := (HB0.alloc zr' (.cells #[.int .i64 lo, .int .i64 hi] 25)).grown hg1 (by simp; omega) (fun j hj => by have := (HO0.out.lt j hj).1; omega)
      have hne : ∀ j, u7.ownBlock = some j → j ≠ B := fun j hj => by have := (HO0.out.lt j hj).1; omega
      have y0 := hg1.cell y0 (fun e => hne B e.symm rfl)
      (try dsimp only)
      refine hK.out _ _ ?_ (fun hHeld => ?_)
      · exact y0
      clear hK K
      (try simp only [Act.put, List.setIfInBounds_toArray, List.set_cons_zero, List.set_cons_succ, List.getElem_toArray, List.getElem_cons_succ, List.getElem_cons_zero])
      refine wpAnyH_take (i := 19) (v := ?_) rfl (by kernel_rfl) (by kernel_rfl) (by kernel_rfl) (fun _ _ _ h => h) (Or.inl ⟨by rfl, ?_⟩) (by assumption) ?_
      rotate_left
      · intro w' hSw; (try dsimp only at hSw); go_simp; (try with_reducible rfl)
      (try simp only [Act.put, List.setIfInBounds_toArray, List.set_cons_zero, List.set_cons_succ, List.getElem_toArray, List.getElem_cons_succ, List.getElem_cons_zero])
      refine wpAnyH_done (by kernel_rfl) ?_ _
      have hP1 : POwn w.heap.size w2 v1 (ivs z n' ++ hvs x q (k + 1)) := by
        rw [HS.out]
        refine POwn.snoc (i := (lo, hi)) ?_
        rw [HL2.out]
        exact hown1
      have HP1 := Lib.hid hP1
      clear hP1 hown1 hg1 hat1 hw0 hw1 y0
      go_wp2
      go_roundw
      case rel => exact ⟨k + 1, by omega, by go_num, HP1.out, hB1⟩
      case measure => simp [intOf]; omega
    · obtain rfl : k = n := by omega
      generalize wr = wv at *
      have hmem : ∀ i ∈ hvs x q k, x - 4095 ≤ i.1 ∧ i.1 ≤ x ∧ x ≤ i.2 ∧ i.2 ≤ x + 4095 := fun i hi => hvs_mem hi
      have htl : Tells (ivs z n' ++ hvs x q k) := fun i hi => by
        rcases List.mem_append.1 hi with hi | hi
        · exact HT.out i hi
        · have := hmem i hi
          exact ⟨⟨by omega, by omega⟩, ⟨by omega, by omega⟩⟩
      have hlen : (ivs z n' ++ hvs x q k).length = n' + k := by rw [List.length_append, ivs_len, hvs_len]
      obtain ⟨A1, c1, hv1, hf⟩ := hP.flat htl
      rw [hlen] at hv1
      subst hv1
      have HLN : (ivs z n' ++ hvs x q k).length ≤ 100000 := by rw [hlen]; omega
      have CJ := maj_list (c := c1) hf HLN
      have CM := Lib.hid (fun (W : World) (h : Below wv.heap.size wv W) => most_list (c := c1) (hf.below h) HLN)
      have HMT := Lib.hid (fun (a b : Int) (m : Nat) => true_math (l := ivs z n') (a := a) (b := b) (m := m) hmem (by rw [ivs_len, hvs_len]; exact hlt0))
      have HLL := Lib.hid hlen
      have HF := Lib.hid hf
      rw [hlen] at CJ CM
      have CJ' := Lib.hid CJ
      clear hf hP CJ HLN hlen hmem htl
      rw [HLL.out] at HF
      generalize ivs z n' ++ hvs x q k = L at *
      go_wp2_with fail
      refine CJ'.out.mono ?_; rintro e w2 ⟨a, b, m, rfl, hm, hb2⟩
      obtain ⟨g1, g2, g3, g4⟩ := HMT.out a b m hm
      rw [hvs_len] at g1
      have hml := most_le hm
      rw [HLL.out] at hml
      have hE : majE (n' + k) m = 0 := by unfold majE; rw [if_neg (by omega)]
      have hV : ∀ y, majV (n' + k) m y = y := fun y => by unfold majV; rw [if_neg (by omega)]
      rw [HLL.out, hE, hV, hV]
      have HM := Lib.hid hm
      have B2 := hb2.alloc hb2.size (.cells #[.int .i64 a, .int .i64 b] 25)
      have J2 := Ints2.new w2 a b 25
      have CM2 := Lib.hid (CM.out _ B2)
      clear hb2 hm hE hV CM CJ'
      have HJ2 := Lib.hid J2
      clear J2
      go_wp2_with fail
      refine CM2.out.mono ?_; rintro e w3 ⟨a', b', m', rfl, hm, hb3⟩
      obtain ⟨rfl, rfl, rfl⟩ := HM.out.unique hm
      have J3 := (HJ2.out.below hb3 HJ2.out.lt).alloc (.cells #[.int .i64 a, .int .i64 b] 25)
      have B3 := (B2.trans (hb3.mono B2.size)).alloc (B2.trans (hb3.mono B2.size)).size (.cells #[.int .i64 a, .int .i64 b] 25)
      have tm : decide ((m : Int) < (k : Int)) = false := by simp; omega
      have tm2 : decide (m < k) = false := by simp; omega
      have HJ3 := Lib.hid J3
      have HB3 := Lib.hid B3
      clear hb3 hm CM2 HJ2 J3 B2 B3 HMT HM
      go_wp2
      generalize w2.heap.size = x2 at *
      generalize w3.alloc (.cells #[.int .i64 a, .int .i64 b] 25) = W3 at *
      go_loopw [13, 14] (fun s i wr => ∃ j : Nat, j ≤ n' + k ∧ i = .int .i64 j ∧ (∃ s0 : Int, s = .int .i64 s0 ∧ RW a b s0) ∧ Ints2 wr x2 a b ∧ Below wv.heap.size wv wr) (fun _ i _ => n' + k - (intOf i).toNat)
      case atStart => exact ⟨0, Nat.zero_le _, rfl, ⟨1048576, rfl, ⟨by omega, by omega⟩⟩, HJ3.out, HB3.out⟩
      case round =>
        obtain ⟨j, hj, rfl, ⟨s, rfl, hs⟩, hJ, HBj⟩ := hrel
        clear HJ3 HB3
        have HBw := HB.trans (HBj.mono HB.size)
        have zj := HBw.size
        have hs1 := hs.lo
        have hs2 := hs.hi
        clear hs
        by_cases hltj : j < n' + k
        · obtain ⟨B, O, rfl, hB, hcells⟩ := HF.out (by omega)
          have x0 : wr.cell? ⟨B, O + j * 2, none⟩ = some (.int .i64 (zl L (j * 2))) := (HBj.cell (p := ⟨B, O + j * 2, none⟩) hB).trans (hcells (j * 2) (by omega)).1
          have x1 : wr.cell? ⟨B, O + j * 2 + 1, none⟩ = some (.int .i64 (zl L (j * 2 + 1))) := (HBj.cell (p := ⟨B, O + (j * 2 + 1), none⟩) hB).trans (hcells (j * 2 + 1) (by omega)).1
          have r0 := (hcells (j * 2) (by omega)).2
          have r1 := (hcells (j * 2 + 1) (by omega)).2
          have lk : (j : Int) < (n' : Int) + (k : Int) := by omega
          clear hcells
          generalize zl L (j * 2) = lo at *
          generalize zl L (j * 2 + 1) = hi at *
          have HJ := Lib.hid hJ
          obtain ⟨y0, y1, f0, f1, lt⟩ := hJ
          have hw : 0 ≤ IntKind.i64.wrap (hi - lo) → lo ≤ a → b ≤ hi → IntKind.i64.wrap (hi - lo) = hi - lo := fun h1 h2 h3 => wrap_sub (by omega) (by omega) (by omega) (by omega) h1 (by omega)
          generalize hd : IntKind.i64.wrap (hi - lo) = d at *
          rcases (show a < lo ∨ (lo ≤ a ∧ hi < b) ∨ (lo ≤ a ∧ b ≤ hi ∧ d < 0) ∨ (lo ≤ a ∧ b ≤ hi ∧ 0 ≤ d ∧ d < s) ∨ (lo ≤ a ∧ b ≤ hi ∧ 0 ≤ d ∧ s ≤ d) from by omega) with p | ⟨p, q⟩ | ⟨p, q, r⟩ | ⟨p, q, r, r'⟩ | ⟨p, q, r, r'⟩
          · have t4 : decide (lo ≤ a) = false := by simp; omega
            clear hw r0 r1
            go_wp2
            go_quiet (fail)
            go_wp2
            go_roundw
            case rel => exact ⟨j + 1, by omega, by go_num, ⟨s, rfl, ⟨hs1, hs2⟩⟩, HJ.out.drewN _, below_drewN HBj _⟩
            case measure => simp [intOf]; omega
          · have t4 : decide (lo ≤ a) = true := by simpa using p
            have t5 : decide (b ≤ hi) = false := by simp; omega
            clear hw r0 r1
            go_wp2
            go_quiet (fail)
            go_wp2
            go_roundw
            case rel => exact ⟨j + 1, by omega, by go_num, ⟨s, rfl, ⟨hs1, hs2⟩⟩, HJ.out.drewN _, below_drewN HBj _⟩
            case measure => simp [intOf]; omega
          · have t4 : decide (lo ≤ a) = true := by simpa using p
            have t5 : decide (b ≤ hi) = true := by simpa using q
            have t6 : decide (0 ≤ d) = false := by simp; omega
            clear hw r0 r1
            go_wp2
            go_quiet (fail)
            go_wp2
            go_roundw
            case rel => exact ⟨j + 1, by omega, by go_num, ⟨s, rfl, ⟨hs1, hs2⟩⟩, HJ.out.drewN _, below_drewN HBj _⟩
            case measure => simp [intOf]; omega
          all_goals
            have t4 : decide (lo ≤ a) = true := by simpa using p
            have t5 : decide (b ≤ hi) = true := by simpa using q
            have t6 : decide (0 ≤ d) = true := by simpa using r
            have hdd : b - a ≤ d := by have := hw r p q; omega
            clear hw r0 r1
            go_wp2
            go_quiet (fail)
            have y0' : (wr.drewN nq).cell? ⟨x2, 0, none⟩ = some (.int .i64 a) := y0
            have y1' : (wr.drewN nq).cell? ⟨x2, 1, none⟩ = some (.int .i64 b) := y1
            have x0' : (wr.drewN nq).cell? ⟨B, O + j * 2, none⟩ = some (.int .i64 lo) := x0
            have x1' : (wr.drewN nq).cell? ⟨B, O + j * 2 + 1, none⟩ = some (.int .i64 hi) := x1
            have HJq := Lib.hid (HJ.out.drewN nq)
            have HBq := Lib.hid (below_drewN HBj nq)
            generalize wr.drewN nq = wq at *
            clear y0 y1 x0 x1 HJ HBj
            go_wp2
            go_quiet (fail)
            go_wp2
            go_roundw
            case rel => exact ⟨j + 1, by omega, by go_num, ⟨min s d, rfl, ⟨by omega, by omega⟩⟩, HJq.out.drewN _, below_drewN HBq.out _⟩
            case measure => simp [intOf]; omega
        · obtain rfl : j = n' + k := by omega
          obtain ⟨y0, y1, f0, f1, lt⟩ := hJ
          have hab : IntKind.i64.wrap (b - a) = b - a := IntWalk.i64_in _ (by omega)
          have hab0 : 0 ≤ b - a := by omega
          go_wp2_with (go_at_call 14; refine (known7 _).mono ?_; rintro e w5 ⟨rfl, hb5⟩; obtain ⟨hc5, hf5⟩ := bcell hb5; have hz5 := hb5.size; (try simp only [World.size_alloc, World.size_setCell, World.heap_drewN] at hb5 hc5 hf5 hz5); (try have ha05 : w.heap.size < w5.heap.size := by omega); (try have ha15 : w.heap.size + 1 < w5.heap.size := by omega); (try have ha25 : w.heap.size + 2 < w5.heap.size := by omega); (try have hal5 : w.heap.size ≤ w5.heap.size := by omega); (try have ham5 : w.heap.size < w5.heap.size + 2 := by omega))
          go_ret
          go_light
          exact ⟨rfl, by (repeat' (first | (with_reducible exact Below.refl _ _) | (with_reducible assumption) | (with_reducible refine Below.trans ?_ (Below.mono (by with_reducible assumption) ?_)) | (with_reducible refine Below.alloc ?_ ?_ _) | (with_reducible refine Below.setCell ?_ ?_ _) | (with_reducible refine below_drewN ?_ _) | (with_reducible refine Below.drew ?_) | go_size))⟩
set_option maxRecDepth 100000 in
theorem agreeTrue_lifted (os : Os) (started : os.Started) (H : Type) (enc : TypeId × Value → H) :
    ReturnsInHanded {} Try.checked os 6 .any (Rows.agreeTrueSpec.pre6 enc Try.prog Try.f6 Rows.agreeTrueRow.domain false) (Rows.agreeTrueSpec.post enc Try.prog Try.f6 false true false false) := by
  refine returnsInHanded_of_change_sized (C := Try.checked) law_own started (by kernel_rfl) Try.func6
    (ChangeSpec.witness6 (enc := enc) (C := Try.checked) false ⟨#[], #[.int .i64 0, .slice none 0 0, .slice none 0 0], []⟩ 8 (by kernel_rfl) (by kernel_rfl) (by kernel_rfl) (by kernel_rfl)) ?_
  intro W base args ds gs before hval0 hW hcnd hsz0 _
  have hval : ∀ (j : Nat) t v, Try.f6.params[j]? = some t → args[j]? = some v → Value.okWide Try.prog W .any base t v := hval0
  have hsz : (DataW.weightsEach Try.prog (Try.f6.params.toList ++ Rows.agreeTrueSpec.plain.varTypes Try.prog) (ds ++ gs)).all (· ≤ reachBytes) = true := hsz0
  have hW' := hW
  obtain ⟨p, q, hA0, hV, rfl, hfz, hnd⟩ := hW
  have hA : DataW.TrodAll enc Try.prog W 0 (fun _ => true) true Try.f6.params.toList args.toList ds p := hA0
  rw [Try.params6] at hA hval hsz
  have hsame : (Rows.agreeTrueSpec.fn H (ds ++ gs)).results = [.lit (.bool true)] ∧ (Rows.agreeTrueSpec.fn H (ds ++ gs)).args = ds ∧ (Rows.agreeTrueSpec.fn H (ds ++ gs)).vars = [] → ∀ W', Below W.heap.size W W' → Rows.agreeTrueSpec.post enc Try.prog Try.f6 false true false false W args (.bool true) W' :=
    fun h W' hb => law_post (tb := 4) hW' law_laid (by kernel_rfl) rfl Try.underlying4 h.1 h.2.1 rfl h.2.2 hb
  obtain ⟨v0, vs0, d0, ds0, p0, q0, hargs, rfl, rfl, h0, r0⟩ := trodAll_cons hA
  obtain ⟨v1, vs1, d1, ds1, p1, q1, rfl, rfl, rfl, h1, r1⟩ := trodAll_cons r0
  obtain ⟨v2, vs2, d2, ds2, p2, q2, rfl, rfl, rfl, h2, r2⟩ := trodAll_cons r1
  obtain ⟨rfl, rfl, rfl⟩ := trodAll_nil r2
  obtain rfl : args = #[v0, v1, v2] := by cases args; simp_all
  obtain ⟨rfl, rfl⟩ := trodVars_none hV
  have hpost := hsame ⟨rfl, rfl, rfl⟩
  clear hsame hA0 hval0 hsz0
  obtain ⟨a0, rfl, rfl, rfl, wf0⟩ := open_int Try.underlying3 (hval 0 3 v0 rfl rfl) h0
  obtain ⟨A, n, c, q, rfl, hn, hq⟩ := open_int_slice (hval 1 35 v1 rfl rfl) h1
  obtain ⟨A', n', c', z, rfl, hn', hz⟩ := open_flat_slice (m := 2) Try.underlying22 (by kernel_rfl) (by kernel_rfl) (by omega) (hval 2 22 v2 rfl rfl) h2
  have hAn : A' = none → n' = 0 ∧ c' = 0 := fun e => by subst e; exact nil_shape Try.underlying22 h2
  by_cases h : n ≤ 60 ∧ n' < n ∧ -1099511627776 ≤ a0 ∧ a0 ≤ 1099511627776
  · exact (agreeTrue_in a0 q A n c z A' n' c' W h.1 h.2.1 h.2.2.1 h.2.2.2 hq hAn hz).mono fun e W' ⟨he, hb⟩ => ⟨_, he, hpost W' hb⟩
  · exact (agreeTrue_out a0 A n c A' n' c' W (by omega) hn hn').mono fun e W' ⟨he, hb⟩ => ⟨_, he, hpost W' hb⟩
theorem agreeTrue_holds : Rows.AgreeTrueSaid :=
  OpenClaim.holds_of_wide 6 Try.f6 rfl rfl rfl rfl rfl rfl rfl ⟨rfl, rfl, rfl, rfl, rfl⟩ rfl rfl rfl rfl rfl (by kernel_rfl) Try.func6 (by kernel_rfl)
    (of_decide_eq_true (by kernel_rfl)) (by unfold Func.isWrapper; first | (rw [if_pos (by decide +kernel)]; kernel_rfl) | (rw [if_neg (by decide +kernel)]; exact ⟨rfl, rfl⟩))
    (fun os started H enc _ => agreeTrue_lifted os started H enc)
end Go.Proofs.Ytdkcdaknifikeaa
