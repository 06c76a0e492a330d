/- Stage 20: VecPlays (written by gen/s20p.py). -/
import Derived.Test.YtpelglclkfabkaaS20N
import Derived.Test.YtpelglclkfabkaaRef20
set_option linter.unusedSimpArgs false
set_option linter.unusedVariables false
namespace Go.Proofs.Ytpelglclkfabkaa
open Go.ChangeShapes Go.WideShapes Go.ChangeAt Go.RowKit Go.Joins

theorem mn_up (n : Nat) (P Q P1 Q1 : Nat → Int) (h : ∀ j, j < n → le2 (P j) (Q j) (P1 j) (Q1 j)) : decide (cmp2 (mnS P1 Q1 n).1 (mnS P1 Q1 n).2 (mnS P Q n).1 (mnS P Q n).2 < 0) = false := by
  simp only [decide_eq_false_iff_not]
  rcases Nat.eq_zero_or_pos n with rfl | h0
  · show ¬ cmp2 0 0 0 0 < 0
    decide
  · obtain ⟨j, hj, e1, e2⟩ := mnS_mem P1 Q1 n h0
    have a := mnS_le P Q n j hj
    have b := h j hj
    rw [e1, e2] at b
    rw [cmp2_neg] at a ⊢
    unfold le2 at b
    omega
theorem stp_up (n : Nat) (i x y : Int) (P Q : Nat → Int) (j : Nat) : le2 (P j) (Q j) (stp n i x y P Q j) (stq n i x y P Q j) := by
  unfold stp stq
  cases hr : rs n i x y P Q
  · simp only [Bool.false_eq_true, if_false]
    exact .inr ⟨rfl, Int.le_refl _⟩
  · simp only [if_true]
    obtain ⟨y0, y1, y2, y3⟩ := rs_yes hr
    unfold upd
    by_cases e : j = i.toNat
    · subst e
      simp only [if_true]
      unfold le2
      omega
    · simp only [e, if_false]
      exact .inr ⟨rfl, Int.le_refl _⟩
theorem mn_zero (n : Nat) : mnS (fun _ => 0) (fun _ => 0) n = (0, 0) := by
  induction n with
  | zero => rfl
  | succ n ih =>
    by_cases h : n = 0
    · subst h; rfl
    · rw [mnS_step _ _ n h, ih]; rfl
theorem VecAt.alloc {w : World} {b ka fl n : Nat} {p q p' q' : Nat → Int} (h : VecAt w b ka fl n p q p' q') (o : Obj) : VecAt (w.alloc o) b ka fl n p q p' q' := h.belowW ((Below.refl _ _).alloc (Nat.le_refl _) o)
theorem ArrAt.set_out {w : World} {a n : Nat} {p q : Nat → Int} (h : ArrAt w a n p q) {A : Addr} (hA : A.block ≠ a) (u : Value) : ArrAt (w.setCell A u) a n p q :=
  ⟨fun j hj => (World.cell?_setCell_other _ _ _ _ (fun e => hA (by rw [e]))).trans (h.c0 j hj), fun j hj => (World.cell?_setCell_other _ _ _ _ (fun e => hA (by rw [e]))).trans (h.c1 j hj), fun o => by simpa using h.fz o, by simpa [World.setCell] using h.lt⟩
theorem VecAt.set_out {w : World} {b ka fl n B o : Nat} {p q p' q' : Nat → Int} (h : VecAt w b ka fl n p q p' q') (h1 : B ≠ b) (h2 : B ≠ ka) (h3 : B ≠ fl) {u : Value} : VecAt (w.setCell ⟨B, o, none⟩ u) b ka fl n p q p' q' :=
  ⟨(World.cell?_setCell_other _ _ _ _ (fun e => h1 (by have h := congrArg Addr.block e; simp only at h; omega))).trans h.c0, (World.cell?_setCell_other _ _ _ _ (fun e => h1 (by have h := congrArg Addr.block e; simp only at h; omega))).trans h.c1, h.K.set_out h2 u, h.F.set_out h3 u, h.n1, h.n2, h.n3, by simpa [World.setCell] using h.lt⟩
set_option maxHeartbeats 1000000 in
theorem vecPlays_out (i : Int) (A : Option Addr) (L c : Nat) (w : World) (h : i < 1 ∨ (1 ≤ i ∧ 5 < i)) :
    Calls Try.prog 3 #[.int .i64 i, .slice A L c] w fun e w' => e = .returned (.bool true) ∧ Below w.heap.size w w' := by
  have HV := Lib.hid fun W : World => vec_new_no i W h
  have HR := Lib.hid fun W : World => ref20_new_no i W h
  clear h
  go_enter Try.func3, Try.ntmps3
  go_wp2_with fail
  refine (HV.out _).mono ?_; rintro e w1 ⟨rfl, hb1⟩
  go_wp2_with fail
  refine (HR.out _).mono ?_; rintro e w2 ⟨rfl, hb2⟩
  have HB2 : Below w.heap.size w w2 := hb1.trans (hb2.mono hb1.size)
  have z2 := HB2.size
  clear hb1 hb2
  go_wp2_with (go_at_call 10; refine (known20 _).mono ?_; rintro e w5 ⟨rfl, hb5⟩; obtain ⟨hc5, hf5⟩ := bcell hb5; have hz5 := hb5.size; (try simp only [World.size_alloc, World.size_setCell, World.heap_drewN] at hb5 hc5 hf5 hz5); (try have ha05 : w.heap.size < w5.heap.size := by omega); (try have ha15 : w.heap.size + 1 < w5.heap.size := by omega); (try have ha25 : w.heap.size + 2 < w5.heap.size := by omega); (try have hal5 : w.heap.size ≤ w5.heap.size := by omega); (try have ham5 : w.heap.size < w5.heap.size + 2 := by omega))
  go_ret
  go_light
  exact ⟨rfl, by (repeat' (first | (with_reducible exact Below.refl _ _) | (with_reducible assumption) | (with_reducible refine Below.trans ?_ (Below.mono (by with_reducible assumption) ?_)) | (with_reducible refine Below.alloc ?_ ?_ _) | (with_reducible refine Below.setCell ?_ ?_ _) | (with_reducible refine below_drewN ?_ _) | (with_reducible refine Below.drew ?_) | go_size))⟩
set_option maxHeartbeats 1000000 in
theorem vecPlays_long (n : Nat) (A : Option Addr) (L c : Nat) (w : World) (h1 : 1 ≤ n) (h5 : n ≤ 5) (hL : 300 < L) :
    Calls Try.prog 3 #[.int .i64 n, .slice A L c] w fun e w' => e = .returned (.bool true) ∧ Below w.heap.size w w' := by
  have t1 : decide (300 < (L : Int)) = true := by simp only [decide_eq_true_eq]; omega
  go_enter Try.func3, Try.ntmps3
  go_wp2_with fail
  refine (vec_new n _ h1 h5).mono ?_; rintro e w1 ⟨b, ka, fa, rfl, hb1, _, _, _, _⟩
  go_wp2_with fail
  refine (ref20_new n _ h1 h5).mono ?_; rintro e w2 ⟨xb, xk, xf, rfl, hb2, _, _, _, _⟩
  have HB2 : Below w.heap.size w w2 := hb1.trans (hb2.mono hb1.size)
  have z2 := HB2.size
  clear hb1 hb2
  go_wp2_with (go_at_call 10; refine (known20 _).mono ?_; rintro e w5 ⟨rfl, hb5⟩; obtain ⟨hc5, hf5⟩ := bcell hb5; have hz5 := hb5.size; (try simp only [World.size_alloc, World.size_setCell, World.heap_drewN] at hb5 hc5 hf5 hz5); (try have ha05 : w.heap.size < w5.heap.size := by omega); (try have ha15 : w.heap.size + 1 < w5.heap.size := by omega); (try have ha25 : w.heap.size + 2 < w5.heap.size := by omega); (try have hal5 : w.heap.size ≤ w5.heap.size := by omega); (try have ham5 : w.heap.size < w5.heap.size + 2 := by omega))
  go_ret
  go_light
  exact ⟨rfl, by (repeat' (first | (with_reducible exact Below.refl _ _) | (with_reducible assumption) | (with_reducible refine Below.trans ?_ (Below.mono (by with_reducible assumption) ?_)) | (with_reducible refine Below.alloc ?_ ?_ _) | (with_reducible refine Below.setCell ?_ ?_ _) | (with_reducible refine below_drewN ?_ _) | (with_reducible refine Below.drew ?_) | go_size))⟩
set_option maxRecDepth 100000 in
set_option maxHeartbeats 16000000 in
theorem vecPlays_in (n : Nat) (A : Option Addr) (L c : Nat) (z : Nat → Int) (w : World) (hz : FlatAt w A 4 L z) (h1 : 1 ≤ n) (h5 : n ≤ 5) (hL : L ≤ 300) :
    Calls Try.prog 3 #[.int .i64 n, .slice A L c] w fun e w' => e = .returned (.bool true) ∧ Below w.heap.size w w' := by
  have t1 : decide (300 < (L : Int)) = false := by simp only [decide_eq_false_iff_not]; omega
  have hn : n ≤ 1000 := by omega
  have HZ := Lib.hid hz
  clear hz
  go_enter Try.func3, Try.ntmps3
  go_wp2_with fail
  refine (vec_new n _ h1 h5).mono ?_; rintro e w1 ⟨b, ka, fa, rfl, HB1, a0, a1, a2, VV⟩
  go_wp2_with fail
  refine (ref20_new n _ h1 h5).mono ?_; rintro e w2 ⟨xb, xk, xf, rfl, HB2, b0, b1, b2, VX⟩
  have HB3 := HB1.trans (HB2.mono HB1.size)
  have la := VV.lt
  have lka := VV.K.lt
  have lfa := VV.F.lt
  have lxb := VX.lt
  have lxk := VX.K.lt
  have lxf := VX.F.lt
  have VV2 := VV.belowW HB2
  have za := HB1.size
  have zb := HB2.size
  obtain ⟨sb, hsb⟩ : ∃ sb, sb = w2.heap.size := ⟨_, rfl⟩
  have b1' : w.heap.size ≤ xk := by omega
  have b2' : w.heap.size ≤ xf := by omega
  have d1 : xb ≠ ka := by omega
  have d2 : xk ≠ ka := by omega
  have d3 : xf ≠ ka := by omega
  have d4 : xb ≠ fa := by omega
  have d5 : xk ≠ fa := by omega
  have d6 : xf ≠ fa := by omega
  have d7 : b ≠ xk := by omega
  have d8 : ka ≠ xk := by omega
  have d9 : fa ≠ xk := by omega
  have d10 : b ≠ xf := by omega
  have d11 : ka ≠ xf := by omega
  have d12 : fa ≠ xf := by omega
  have s1 : sb ≠ ka := by omega
  have s2 : sb ≠ fa := by omega
  have s3 : sb ≠ xk := by omega
  have s4 : sb ≠ xf := by omega
  have s5 : sb + 1 ≠ ka := by omega
  have s6 : sb + 1 ≠ fa := by omega
  have s7 : sb + 1 ≠ xk := by omega
  have s8 : sb + 1 ≠ xf := by omega
  have s0 : w.heap.size ≤ sb := by omega
  have sb_nb : sb ≠ b := by omega
  have sb_nk : sb ≠ ka := by omega
  have sb_nf : sb ≠ fa := by omega
  have sc_nb : sb + 1 ≠ b := by omega
  have sc_nk : sb + 1 ≠ ka := by omega
  have sc_nf : sb + 1 ≠ fa := by omega
  have sx_nb : sb ≠ xb := by omega
  have sx_nk : sb ≠ xk := by omega
  have sx_nf : sb ≠ xf := by omega
  have sy_nb : sb + 1 ≠ xb := by omega
  have sy_nk : sb + 1 ≠ xk := by omega
  have sy_nf : sb + 1 ≠ xf := by omega
  have HBS := Lib.hid ((HB3.alloc HB3.size (.cells #[.int .i64 0, .int .i64 0] 32)).alloc (Nat.le_trans HB3.size (by simp)) (.cells #[.int .i64 0, .int .i64 0] 32))
  have VVS := Lib.hid ((VV2.alloc (.cells #[.int .i64 0, .int .i64 0] 32)).alloc (.cells #[.int .i64 0, .int .i64 0] 32))
  have VXS := Lib.hid ((VX.alloc (.cells #[.int .i64 0, .int .i64 0] 32)).alloc (.cells #[.int .i64 0, .int .i64 0] 32))
  have IS := (Ints2.new w2 0 0 32).alloc (.cells #[.int .i64 0, .int .i64 0] 32)
  have IM := Ints2.new1 w2 (.cells #[.int .i64 0, .int .i64 0] 32) 0 0 32
  rw [← hsb] at IS IM
  have ISS := Lib.hid IS
  have IMS := Lib.hid IM
  have HSB := Lib.hid hsb
  clear HB1 HB2 HB3 VV VV2 VX IS IM la lka lfa lxb lxk lxf za zb hsb
  go_wp2
  rw [← HSB.out]
  clear HSB
  go_loopw [11] (fun i wr => ∃ (k : Nat) (P Q P' Q' : Nat → Int), k ≤ L ∧ i = .int .i64 k ∧ VecAt wr b ka fa n P Q P' Q' ∧ VecAt wr xb xk xf n P Q P' Q' ∧ Ints2 wr sb (mnS P Q n).1 (mnS P Q n).2 ∧ Ints2 wr (sb + 1) (mnS P' Q' n).1 (mnS P' Q' n).2 ∧ Below w.heap.size w wr) (fun i _ => L - (intOf i).toNat)
  case atStart => exact ⟨0, _, _, _, _, Nat.zero_le _, rfl, VVS.out, VXS.out, by rw [mn_zero]; exact ISS.out, by rw [mn_zero]; exact IMS.out, HBS.out⟩
  case round =>
    obtain ⟨k, P, Q, P', Q', hk, rfl, VV, VX, IS, IM, HB⟩ := hrel
    clear VVS VXS ISS IMS HBS
    by_cases hlt : k < L
    · obtain ⟨B, O, rfl, hB, hcells⟩ := HZ.out (by omega)
      have lk : (k : Int) < (L : Int) := by omega
      have lB : B < wr.heap.size := Nat.lt_of_lt_of_le hB HB.size
      have x0 : wr.cell? ⟨B, O + k * 4, none⟩ = some (.int .i64 (z (k * 4))) := (HB.cell (p := ⟨B, O + k * 4, none⟩) hB).trans (hcells (k * 4) (by omega)).1
      have x1 : wr.cell? ⟨B, O + k * 4 + 1, none⟩ = some (.int .i64 (z (k * 4 + 1))) := (HB.cell (p := ⟨B, O + (k * 4 + 1), none⟩) hB).trans (hcells (k * 4 + 1) (by omega)).1
      have x2 : wr.cell? ⟨B, O + k * 4 + 2, none⟩ = some (.int .i64 (z (k * 4 + 2))) := (HB.cell (p := ⟨B, O + (k * 4 + 2), none⟩) hB).trans (hcells (k * 4 + 2) (by omega)).1
      have x3 : wr.cell? ⟨B, O + k * 4 + 3, none⟩ = some (.int .i64 (z (k * 4 + 3))) := (HB.cell (p := ⟨B, O + (k * 4 + 3), none⟩) hB).trans (hcells (k * 4 + 3) (by omega)).1
      clear hcells
      generalize z (k * 4) = kd at *
      generalize z (k * 4 + 1) = nn at *
      generalize z (k * 4 + 2) = x at *
      generalize z (k * 4 + 3) = y at *
      have q1 : (wr.alloc (.cells #[.int .i64 kd, .int .i64 nn, .int .i64 x, .int .i64 y] 34)).cell? ⟨wr.heap.size, 1, none⟩ = some (.int .i64 nn) := by simp
      have q2 : (wr.alloc (.cells #[.int .i64 kd, .int .i64 nn, .int .i64 x, .int .i64 y] 34)).cell? ⟨wr.heap.size, 2, none⟩ = some (.int .i64 x) := by simp
      have q3 : (wr.alloc (.cells #[.int .i64 kd, .int .i64 nn, .int .i64 x, .int .i64 y] 34)).cell? ⟨wr.heap.size, 3, none⟩ = some (.int .i64 y) := by simp
      have HVV := Lib.hid (VV.alloc (.cells #[.int .i64 kd, .int .i64 nn, .int .i64 x, .int .i64 y] 34))
      have HVX := Lib.hid (VX.alloc (.cells #[.int .i64 kd, .int .i64 nn, .int .i64 x, .int .i64 y] 34))
      have HIS := Lib.hid (IS.alloc (.cells #[.int .i64 kd, .int .i64 nn, .int .i64 x, .int .i64 y] 34))
      have HIM := Lib.hid (IM.alloc (.cells #[.int .i64 kd, .int .i64 nn, .int .i64 x, .int .i64 y] 34))
      have zr := HB.size
      have HBa : Below w.heap.size w (wr.alloc (.cells #[.int .i64 kd, .int .i64 nn, .int .i64 x, .int .i64 y] 34)) := HB.alloc zr _
      have l1 : wr.heap.size < (wr.alloc (.cells #[.int .i64 kd, .int .i64 nn, .int .i64 x, .int .i64 y] 34)).heap.size := by simp
      have ra : wr.heap.size ≠ ka := by have := VV.K.lt; omega
      have rb : wr.heap.size ≠ fa := by have := VV.F.lt; omega
      have rc : wr.heap.size ≠ xk := by have := VX.K.lt; omega
      have rd : wr.heap.size ≠ xf := by have := VX.F.lt; omega
      have HUK := Lib.hid (mn_up n P Q (stp n nn x y P Q) (stq n nn x y P Q) (fun j _ => stp_up n nn x y P Q j))
      have HUF := Lib.hid (mn_up n P' Q' (stp n nn x y P' Q') (stq n nn x y P' Q') (fun j _ => stp_up n nn x y P' Q' j))
      have HUK0 := Lib.hid (mn_up n P Q P Q (fun j _ => .inr ⟨rfl, Int.le_refl _⟩))
      have HUF0 := Lib.hid (mn_up n P' Q' P' Q' (fun j _ => .inr ⟨rfl, Int.le_refl _⟩))
      clear VV VX IS IM HZ
      cases hkd : (bits .and .i64 kd 1 == 1)
      · go_wp2_with fail
        refine wp_region_held_drew (S := (fun w' => w'.cell? ⟨wr.heap.size, 1, none⟩ = some (.int .i64 nn) ∧ w'.cell? ⟨wr.heap.size, 2, none⟩ = some (.int .i64 x) ∧ w'.cell? ⟨wr.heap.size, 3, none⟩ = some (.int .i64 y))) (by kernel_rfl) ?_ (fun hHeld => ?_)
        · exact ⟨q1, q2, q3⟩
        refine wpAnyH_take (i := 0) (v := ?_) rfl (by kernel_rfl) (by kernel_rfl) (by kernel_rfl) (fun _ _ _ h => h) (Or.inl ⟨by rfl, ?_⟩) (by assumption) ?_
        rotate_left
        · intro w' hSw; (try dsimp only at hSw); go_simp; (try with_reducible rfl)
        (try simp only [Act.put, List.setIfInBounds_toArray, List.set_cons_zero, List.set_cons_succ, List.getElem_toArray, List.getElem_cons_succ, List.getElem_cons_zero])
        refine wpAnyH_take (i := 1) (v := ?_) rfl (by kernel_rfl) (by kernel_rfl) (by kernel_rfl) (fun _ _ _ h => h) (Or.inl ⟨by rfl, ?_⟩) (by assumption) ?_
        rotate_left
        · intro w' hSw; (try dsimp only at hSw); go_simp; (try with_reducible rfl)
        (try simp only [Act.put, List.setIfInBounds_toArray, List.set_cons_zero, List.set_cons_succ, List.getElem_toArray, List.getElem_cons_succ, List.getElem_cons_zero])
        refine wpAnyH_take (i := 2) (v := ?_) rfl (by kernel_rfl) (by kernel_rfl) (by kernel_rfl) (fun _ _ _ h => h) (Or.inl ⟨by rfl, ?_⟩) (by assumption) ?_
        rotate_left
        · intro w' hSw; (try dsimp only at hSw); go_simp; (try with_reducible rfl)
        (try simp only [Act.put, List.setIfInBounds_toArray, List.set_cons_zero, List.set_cons_succ, List.getElem_toArray, List.getElem_cons_succ, List.getElem_cons_zero])
        refine wpAnyH_take (i := 3) (v := ?_) rfl (by kernel_rfl) (by kernel_rfl) (by kernel_rfl) (fun _ _ _ h => h) (Or.inl ⟨by rfl, ?_⟩) (by assumption) ?_
        rotate_left
        · intro w' hSw; (try dsimp only at hSw); go_simp; (try with_reducible rfl)
        (try simp only [Act.put, List.setIfInBounds_toArray, List.set_cons_zero, List.set_cons_succ, List.getElem_toArray, List.getElem_cons_succ, List.getElem_cons_zero])
        refine wpAnyH_take (i := 4) (v := ?_) rfl (by kernel_rfl) (by kernel_rfl) (by kernel_rfl) (fun _ _ _ h => h) (Or.inl ⟨by rfl, ?_⟩) (by assumption) ?_
        rotate_left
        · intro w' hSw; (try dsimp only at hSw); go_simp; (try with_reducible rfl)
        (try simp only [Act.put, List.setIfInBounds_toArray, List.set_cons_zero, List.set_cons_succ, List.getElem_toArray, List.getElem_cons_succ, List.getElem_cons_zero])
        refine wpAnyH_take (i := 6) (v := ?_) rfl (by kernel_rfl) (by kernel_rfl) (by kernel_rfl) (fun _ _ _ h => h) (Or.inl ⟨by rfl, ?_⟩) (by assumption) ?_
        rotate_left
        · intro w' hSw; (try dsimp only at hSw); go_simp; (try with_reducible rfl)
        (try simp only [Act.put, List.setIfInBounds_toArray, List.set_cons_zero, List.set_cons_succ, List.getElem_toArray, List.getElem_cons_succ, List.getElem_cons_zero])
        refine wpAnyH_take (i := 7) (v := ?_) rfl (by kernel_rfl) (by kernel_rfl) (by kernel_rfl) (fun _ _ _ h => h) (Or.inl ⟨by rfl, ?_⟩) (by assumption) ?_
        rotate_left
        · intro w' hSw; (try dsimp only at hSw); go_simp; (try with_reducible rfl)
        (try simp only [Act.put, List.setIfInBounds_toArray, List.set_cons_zero, List.set_cons_succ, List.getElem_toArray, List.getElem_cons_succ, List.getElem_cons_zero])
        refine wpAnyH_take (i := 8) (v := ?_) rfl (by kernel_rfl) (by kernel_rfl) (by kernel_rfl) (fun _ _ _ h => h) (Or.inl ⟨by rfl, ?_⟩) (by assumption) ?_
        rotate_left
        · intro w' hSw; (try dsimp only at hSw); go_simp; (try with_reducible rfl)
        (try simp only [Act.put, List.setIfInBounds_toArray, List.set_cons_zero, List.set_cons_succ, List.getElem_toArray, List.getElem_cons_succ, List.getElem_cons_zero])
        refine wpAnyH_take (i := 9) (v := ?_) rfl (by kernel_rfl) (by kernel_rfl) (by kernel_rfl) (fun _ _ _ h => h) (Or.inl ⟨by rfl, ?_⟩) (by assumption) ?_
        rotate_left
        · intro w' hSw; (try dsimp only at hSw); go_simp; (try with_reducible rfl)
        (try simp only [Act.put, List.setIfInBounds_toArray, List.set_cons_zero, List.set_cons_succ, List.getElem_toArray, List.getElem_cons_succ, List.getElem_cons_zero])
        refine wpAnyH_take (i := 10) (v := ?_) rfl (by kernel_rfl) (by kernel_rfl) (by kernel_rfl) (fun _ _ _ h => h) (Or.inl ⟨by rfl, ?_⟩) (by assumption) ?_
        rotate_left
        · intro w' hSw; (try dsimp only at hSw); go_simp; (try with_reducible rfl)
        (try simp only [Act.put, List.setIfInBounds_toArray, List.set_cons_zero, List.set_cons_succ, List.getElem_toArray, List.getElem_cons_succ, List.getElem_cons_zero])
        refine wpAnyH_ready (rs := [5]) (by kernel_rfl) (by simp) ?_
        refine AllReadyH.cons rfl (fun K hK => ?_) AllReadyH.nil
        go_simp
        (go_at_call 13; refine (vec_floor b ka fa n nn P Q P' Q' x y _ (by first | exact HVV.out | exact HVV.out.drew | exact HVV.out.drew.drew) hn).mono ?_; rintro e w5 ⟨rfl, ho5, VV5⟩; have c1 := (ho5.cell wr.heap.size 1 l1 rb).trans q1; have c2 := (ho5.cell wr.heap.size 2 l1 rb).trans q2; have c3 := (ho5.cell wr.heap.size 3 l1 rb).trans q3; have l5 : wr.heap.size < w5.heap.size := Nat.lt_of_lt_of_le l1 ho5.size; have VX5 : VecAt w5 xb xk xf n P Q P' Q' := HVX.out.only (c := fa) (by first | exact ho5 | exact ⟨ho5.os, ho5.tape, ho5.output, ho5.size, ho5.block⟩) d4 d5 d6; have IS5 := HIS.out.only (c := fa) (w' := w5) (by first | exact ho5 | exact ⟨ho5.os, ho5.tape, ho5.output, ho5.size, ho5.block⟩) s2; have IM5 := HIM.out.only (c := fa) (w' := w5) (by first | exact ho5 | exact ⟨ho5.os, ho5.tape, ho5.output, ho5.size, ho5.block⟩) s6; have HB5 : Below w.heap.size w w5 := Below.trans (show Below w.heap.size w _ from (by (repeat' (first | (with_reducible exact Below.refl _ _) | (with_reducible assumption) | (with_reducible refine Below.trans ?_ (Below.mono (by with_reducible assumption) ?_)) | (with_reducible refine Below.alloc ?_ ?_ _) | (with_reducible refine Below.setCell ?_ ?_ _) | (with_reducible refine below_drewN ?_ _) | (with_reducible refine Below.drew ?_) | go_size)))) (ho5.below a2 (Nat.le_trans zr (by simp))))
        (try dsimp only)
        refine hK.out _ _ ?_ (fun hHeld => ?_)
        · exact ⟨c1, c2, c3⟩
        clear hK K
        (try simp only [Act.put, List.setIfInBounds_toArray, List.set_cons_zero, List.set_cons_succ, List.getElem_toArray, List.getElem_cons_succ, List.getElem_cons_zero])
        refine wpAnyH_ready (rs := [11]) (by kernel_rfl) (by simp) ?_
        refine AllReadyH.cons rfl (fun K hK => ?_) AllReadyH.nil
        go_simp
        (go_at_call 14; refine (ref20_floor xb xk xf n nn P Q P' Q' x y _ (by first | exact VX5 | exact VX5.drew | exact VX5.drew.drew) hn).mono ?_; rintro e w6 ⟨rfl, ho6, VX6⟩; have e1 := (ho6.cell wr.heap.size 1 l5 rd).trans c1; have e2 := (ho6.cell wr.heap.size 2 l5 rd).trans c2; have e3 := (ho6.cell wr.heap.size 3 l5 rd).trans c3)
        (try dsimp only)
        refine hK.out _ _ ?_ (fun hHeld => ?_)
        · exact ⟨e1, e2, e3⟩
        clear hK K
        (try simp only [Act.put, List.setIfInBounds_toArray, List.set_cons_zero, List.set_cons_succ, List.getElem_toArray, List.getElem_cons_succ, List.getElem_cons_zero])
        refine wpAnyH_take (i := 12) (v := ?_) rfl (by kernel_rfl) (by kernel_rfl) (by kernel_rfl) (fun _ _ _ h => h) (Or.inl ⟨by rfl, ?_⟩) (by assumption) ?_
        rotate_left
        · intro w' hSw; (try dsimp only at hSw); go_simp; (try with_reducible rfl)
        (try simp only [Act.put, List.setIfInBounds_toArray, List.set_cons_zero, List.set_cons_succ, List.getElem_toArray, List.getElem_cons_succ, List.getElem_cons_zero])
        refine wpAnyH_take (i := 13) (v := ?_) rfl (by kernel_rfl) (by kernel_rfl) (by kernel_rfl) (fun _ _ _ h => h) (Or.inl ⟨by rfl, ?_⟩) (by assumption) ?_
        rotate_left
        · intro w' hSw; (try dsimp only at hSw); go_simp; (try with_reducible rfl)
        (try simp only [Act.put, List.setIfInBounds_toArray, List.set_cons_zero, List.set_cons_succ, List.getElem_toArray, List.getElem_cons_succ, List.getElem_cons_zero])
        refine wpAnyH_done (by kernel_rfl) ?_ _
        have HVV6 := Lib.hid (VV5.only (w' := w6) (c := xf) (by first | exact ho6 | exact ⟨ho6.os, ho6.tape, ho6.output, ho6.size, ho6.block⟩) d10 d11 d12)
        have HVX6 := Lib.hid VX6
        have IS6 := IS5.only (w' := w6) (c := xf) (by first | exact ho6 | exact ⟨ho6.os, ho6.tape, ho6.output, ho6.size, ho6.block⟩) s4
        have IM6 := IM5.only (w' := w6) (c := xf) (by first | exact ho6 | exact ⟨ho6.os, ho6.tape, ho6.output, ho6.size, ho6.block⟩) s8
        have HB6 : Below w.heap.size w w6 := HB5.trans (ho6.below b2' HB5.size)
        have l6 : wr.heap.size < w6.heap.size := Nat.lt_of_lt_of_le l5 ho6.size
        have z6 := HB6.size
        clear ho5 ho6 VV5 VX5 VX6 IS5 IM5 HB5 c1 c2 c3 e2 e3 q1 q2 q3 l5 HVV HVX HIS HIM HBa
        have hup := HUK0.out
        have hup2 := HUF.out
        generalize rs n nn x y P' Q' = r at *
        generalize hP1 : stp n nn x y P' Q' = P1 at *
        generalize hQ1 : stq n nn x y P' Q' = Q1 at *
        clear hP1 hQ1
        have HKN := Lib.hid fun (W : World) (V : VecAt W b ka fa n P Q P1 Q1) => vec_known b ka fa n nn P Q P1 Q1 W V hn
        have HOF := Lib.hid fun (W : World) (V : VecAt W xb xk xf n P Q P1 Q1) => ref20_of xb xk xf n nn P Q P1 Q1 W V hn
        have HST := Lib.hid fun (W : World) (V : VecAt W b ka fa n P Q P1 Q1) => vec_stable b ka fa n P Q P1 Q1 W V hn
        have HRS := Lib.hid fun (W : World) (V : VecAt W xb xk xf n P Q P1 Q1) => ref20_stable xb xk xf n P Q P1 Q1 W V hn
        have HMK := Lib.hid fun (W : World) (V : VecAt W b ka fa n P Q P1 Q1) => vec_mark b ka fa n P Q P1 Q1 W V hn
        have HRM := Lib.hid fun (W : World) (V : VecAt W xb xk xf n P Q P1 Q1) => ref20_mark xb xk xf n P Q P1 Q1 W V hn
        generalize hm1 : mnS P Q n = mk at *
        generalize hm2 : mnS P1 Q1 n = mf at *
        have HM1 := Lib.hid hm1
        have HM2 := Lib.hid hm2
        clear hm1 hm2
        obtain ⟨k1, k2⟩ := mk
        obtain ⟨f1, f2⟩ := mf
        generalize kno n nn P = g0 at *
        generalize kno n nn Q = g1 at *
        generalize mnS P' Q' n = so at *
        obtain ⟨o1, o2⟩ := so
        simp only at IS6 IM6 hup hup2
        have HX6 : Below w6.heap.size w6 w6 := Below.refl _ _
        go_wp2_with fail
        refine wp_region_held_drew (S := (fun w' => w'.cell? ⟨wr.heap.size, 1, none⟩ = some (.int .i64 nn))) (by kernel_rfl) ?_ (fun hHeld => ?_)
        · exact e1
        refine wpAnyH_take (i := 0) (v := ?_) rfl (by kernel_rfl) (by kernel_rfl) (by kernel_rfl) (fun _ _ _ h => h) (Or.inl ⟨by rfl, ?_⟩) (by assumption) ?_
        rotate_left
        · intro w' hSw; (try dsimp only at hSw); go_simp; (try with_reducible rfl)
        (try simp only [Act.put, List.setIfInBounds_toArray, List.set_cons_zero, List.set_cons_succ, List.getElem_toArray, List.getElem_cons_succ, List.getElem_cons_zero])
        refine wpAnyH_take (i := 1) (v := ?_) rfl (by kernel_rfl) (by kernel_rfl) (by kernel_rfl) (fun _ _ _ h => h) (Or.inl ⟨by rfl, ?_⟩) (by assumption) ?_
        rotate_left
        · intro w' hSw; (try dsimp only at hSw); go_simp; (try with_reducible rfl)
        (try simp only [Act.put, List.setIfInBounds_toArray, List.set_cons_zero, List.set_cons_succ, List.getElem_toArray, List.getElem_cons_succ, List.getElem_cons_zero])
        refine wpAnyH_take (i := 2) (v := ?_) rfl (by kernel_rfl) (by kernel_rfl) (by kernel_rfl) (fun _ _ _ h => h) (Or.inl ⟨by rfl, ?_⟩) (by assumption) ?_
        rotate_left
        · intro w' hSw; (try dsimp only at hSw); go_simp; (try with_reducible rfl)
        (try simp only [Act.put, List.setIfInBounds_toArray, List.set_cons_zero, List.set_cons_succ, List.getElem_toArray, List.getElem_cons_succ, List.getElem_cons_zero])
        refine wpAnyH_take (i := 3) (v := ?_) rfl (by kernel_rfl) (by kernel_rfl) (by kernel_rfl) (fun _ _ _ h => h) (Or.inl ⟨by rfl, ?_⟩) (by assumption) ?_
        rotate_left
        · intro w' hSw; (try dsimp only at hSw); go_simp; (try with_reducible rfl)
        (try simp only [Act.put, List.setIfInBounds_toArray, List.set_cons_zero, List.set_cons_succ, List.getElem_toArray, List.getElem_cons_succ, List.getElem_cons_zero])
        refine wpAnyH_take (i := 4) (v := ?_) rfl (by kernel_rfl) (by kernel_rfl) (by kernel_rfl) (fun _ _ _ h => h) (Or.inl ⟨by rfl, ?_⟩) (by assumption) ?_
        rotate_left
        · intro w' hSw; (try dsimp only at hSw); go_simp; (try with_reducible rfl)
        (try simp only [Act.put, List.setIfInBounds_toArray, List.set_cons_zero, List.set_cons_succ, List.getElem_toArray, List.getElem_cons_succ, List.getElem_cons_zero])
        refine wpAnyH_take (i := 5) (v := ?_) rfl (by kernel_rfl) (by kernel_rfl) (by kernel_rfl) (fun _ _ _ h => h) (Or.inl ⟨by rfl, ?_⟩) (by assumption) ?_
        rotate_left
        · intro w' hSw; (try dsimp only at hSw); go_simp; (try with_reducible rfl)
        (try simp only [Act.put, List.setIfInBounds_toArray, List.set_cons_zero, List.set_cons_succ, List.getElem_toArray, List.getElem_cons_succ, List.getElem_cons_zero])
        refine wpAnyH_take (i := 7) (v := ?_) rfl (by kernel_rfl) (by kernel_rfl) (by kernel_rfl) (fun _ _ _ h => h) (Or.inl ⟨by rfl, ?_⟩) (by assumption) ?_
        rotate_left
        · intro w' hSw; (try dsimp only at hSw); go_simp; (try with_reducible rfl)
        (try simp only [Act.put, List.setIfInBounds_toArray, List.set_cons_zero, List.set_cons_succ, List.getElem_toArray, List.getElem_cons_succ, List.getElem_cons_zero])
        refine wpAnyH_take (i := 8) (v := ?_) rfl (by kernel_rfl) (by kernel_rfl) (by kernel_rfl) (fun _ _ _ h => h) (Or.inl ⟨by rfl, ?_⟩) (by assumption) ?_
        rotate_left
        · intro w' hSw; (try dsimp only at hSw); go_simp; (try with_reducible rfl)
        (try simp only [Act.put, List.setIfInBounds_toArray, List.set_cons_zero, List.set_cons_succ, List.getElem_toArray, List.getElem_cons_succ, List.getElem_cons_zero])
        refine wpAnyH_take (i := 9) (v := ?_) rfl (by kernel_rfl) (by kernel_rfl) (by kernel_rfl) (fun _ _ _ h => h) (Or.inl ⟨by rfl, ?_⟩) (by assumption) ?_
        rotate_left
        · intro w' hSw; (try dsimp only at hSw); go_simp; (try with_reducible rfl)
        (try simp only [Act.put, List.setIfInBounds_toArray, List.set_cons_zero, List.set_cons_succ, List.getElem_toArray, List.getElem_cons_succ, List.getElem_cons_zero])
        refine wpAnyH_ready (rs := [6]) (by kernel_rfl) (by simp) ?_
        refine AllReadyH.cons rfl (fun K hK => ?_) AllReadyH.nil
        go_simp
        (go_at_call 15; refine (HKN.out _ (HVV6.out.belowW (show Below w6.heap.size w6 _ from (by (repeat' (first | (with_reducible exact Below.refl _ _) | (with_reducible assumption) | (with_reducible refine Below.trans ?_ (Below.mono (by with_reducible assumption) ?_)) | (with_reducible refine Below.alloc ?_ ?_ _) | (with_reducible refine Below.setCell ?_ ?_ _) | (with_reducible refine below_drewN ?_ _) | (with_reducible refine Below.drew ?_) | go_size)))))).mono ?_; rintro e w7 ⟨rfl, hb7⟩; have HX7 : Below w6.heap.size w6 w7 := Below.trans (show Below w6.heap.size w6 _ from (by (repeat' (first | (with_reducible exact Below.refl _ _) | (with_reducible assumption) | (with_reducible refine Below.trans ?_ (Below.mono (by with_reducible assumption) ?_)) | (with_reducible refine Below.alloc ?_ ?_ _) | (with_reducible refine Below.setCell ?_ ?_ _) | (with_reducible refine below_drewN ?_ _) | (with_reducible refine Below.drew ?_) | go_size)))) (hb7.mono (Below.size (show Below w6.heap.size w6 _ from (by (repeat' (first | (with_reducible exact Below.refl _ _) | (with_reducible assumption) | (with_reducible refine Below.trans ?_ (Below.mono (by with_reducible assumption) ?_)) | (with_reducible refine Below.alloc ?_ ?_ _) | (with_reducible refine Below.setCell ?_ ?_ _) | (with_reducible refine below_drewN ?_ _) | (with_reducible refine Below.drew ?_) | go_size)))))); have c7 := (HX7.cell (p := ⟨wr.heap.size, 1, none⟩) l6).trans e1)
        (try dsimp only)
        refine hK.out _ _ ?_ (fun hHeld => ?_)
        · exact c7
        clear hK K
        (try simp only [Act.put, List.setIfInBounds_toArray, List.set_cons_zero, List.set_cons_succ, List.getElem_toArray, List.getElem_cons_succ, List.getElem_cons_zero])
        refine wpAnyH_ready (rs := [10]) (by kernel_rfl) (by simp) ?_
        refine AllReadyH.cons rfl (fun K hK => ?_) AllReadyH.nil
        go_simp
        (go_at_call 16; refine (HOF.out _ (HVX6.out.belowW (show Below w6.heap.size w6 _ from (by (repeat' (first | (with_reducible exact Below.refl _ _) | (with_reducible assumption) | (with_reducible refine Below.trans ?_ (Below.mono (by with_reducible assumption) ?_)) | (with_reducible refine Below.alloc ?_ ?_ _) | (with_reducible refine Below.setCell ?_ ?_ _) | (with_reducible refine below_drewN ?_ _) | (with_reducible refine Below.drew ?_) | go_size)))))).mono ?_; rintro e w8 ⟨rfl, hb8⟩; have HX8 : Below w6.heap.size w6 w8 := Below.trans (show Below w6.heap.size w6 _ from (by (repeat' (first | (with_reducible exact Below.refl _ _) | (with_reducible assumption) | (with_reducible refine Below.trans ?_ (Below.mono (by with_reducible assumption) ?_)) | (with_reducible refine Below.alloc ?_ ?_ _) | (with_reducible refine Below.setCell ?_ ?_ _) | (with_reducible refine below_drewN ?_ _) | (with_reducible refine Below.drew ?_) | go_size)))) (hb8.mono (Below.size (show Below w6.heap.size w6 _ from (by (repeat' (first | (with_reducible exact Below.refl _ _) | (with_reducible assumption) | (with_reducible refine Below.trans ?_ (Below.mono (by with_reducible assumption) ?_)) | (with_reducible refine Below.alloc ?_ ?_ _) | (with_reducible refine Below.setCell ?_ ?_ _) | (with_reducible refine below_drewN ?_ _) | (with_reducible refine Below.drew ?_) | go_size)))))); have c8 := (HX8.cell (p := ⟨wr.heap.size, 1, none⟩) l6).trans e1)
        (try dsimp only)
        refine hK.out _ _ ?_ (fun hHeld => ?_)
        · exact c8
        clear hK K
        (try simp only [Act.put, List.setIfInBounds_toArray, List.set_cons_zero, List.set_cons_succ, List.getElem_toArray, List.getElem_cons_succ, List.getElem_cons_zero])
        refine wpAnyH_take (i := 11) (v := ?_) rfl (by kernel_rfl) (by kernel_rfl) (by kernel_rfl) (fun _ _ _ h => h) (Or.inl ⟨by rfl, ?_⟩) (by assumption) ?_
        rotate_left
        · intro w' hSw; (try dsimp only at hSw); go_simp; (try with_reducible rfl)
        (try simp only [Act.put, List.setIfInBounds_toArray, List.set_cons_zero, List.set_cons_succ, List.getElem_toArray, List.getElem_cons_succ, List.getElem_cons_zero])
        refine wpAnyH_take (i := 12) (v := ?_) rfl (by kernel_rfl) (by kernel_rfl) (by kernel_rfl) (fun _ _ _ h => h) (Or.inl ⟨by rfl, ?_⟩) (by assumption) ?_
        rotate_left
        · intro w' hSw; (try dsimp only at hSw); go_simp; (try with_reducible rfl)
        (try simp only [Act.put, List.setIfInBounds_toArray, List.set_cons_zero, List.set_cons_succ, List.getElem_toArray, List.getElem_cons_succ, List.getElem_cons_zero])
        refine wpAnyH_take (i := 13) (v := ?_) rfl (by kernel_rfl) (by kernel_rfl) (by kernel_rfl) (fun _ _ _ h => h) (Or.inl ⟨by rfl, ?_⟩) (by assumption) ?_
        rotate_left
        · intro w' hSw; (try dsimp only at hSw); go_simp; (try with_reducible rfl)
        (try simp only [Act.put, List.setIfInBounds_toArray, List.set_cons_zero, List.set_cons_succ, List.getElem_toArray, List.getElem_cons_succ, List.getElem_cons_zero])
        refine wpAnyH_take (i := 14) (v := ?_) rfl (by kernel_rfl) (by kernel_rfl) (by kernel_rfl) (fun _ _ _ h => h) (Or.inl ⟨by rfl, ?_⟩) (by assumption) ?_
        rotate_left
        · intro w' hSw; (try dsimp only at hSw); go_simp; (try with_reducible rfl)
        (try simp only [Act.put, List.setIfInBounds_toArray, List.set_cons_zero, List.set_cons_succ, List.getElem_toArray, List.getElem_cons_succ, List.getElem_cons_zero])
        refine wpAnyH_take (i := 16) (v := ?_) rfl (by kernel_rfl) (by kernel_rfl) (by kernel_rfl) (fun _ _ _ h => h) (Or.inl ⟨by rfl, ?_⟩) (by assumption) ?_
        rotate_left
        · intro w' hSw; (try dsimp only at hSw); go_simp; (try with_reducible rfl)
        (try simp only [Act.put, List.setIfInBounds_toArray, List.set_cons_zero, List.set_cons_succ, List.getElem_toArray, List.getElem_cons_succ, List.getElem_cons_zero])
        refine wpAnyH_ready (rs := [15]) (by kernel_rfl) (by simp) ?_
        refine AllReadyH.cons rfl (fun K hK => ?_) AllReadyH.nil
        go_simp
        (go_at_call 17; refine (HST.out _ (HVV6.out.belowW (show Below w6.heap.size w6 _ from (by (repeat' (first | (with_reducible exact Below.refl _ _) | (with_reducible assumption) | (with_reducible refine Below.trans ?_ (Below.mono (by with_reducible assumption) ?_)) | (with_reducible refine Below.alloc ?_ ?_ _) | (with_reducible refine Below.setCell ?_ ?_ _) | (with_reducible refine below_drewN ?_ _) | (with_reducible refine Below.drew ?_) | go_size)))))).mono ?_; rintro e w9 ⟨rfl, hb9⟩; have HX9 : Below w6.heap.size w6 w9 := Below.trans (show Below w6.heap.size w6 _ from (by (repeat' (first | (with_reducible exact Below.refl _ _) | (with_reducible assumption) | (with_reducible refine Below.trans ?_ (Below.mono (by with_reducible assumption) ?_)) | (with_reducible refine Below.alloc ?_ ?_ _) | (with_reducible refine Below.setCell ?_ ?_ _) | (with_reducible refine below_drewN ?_ _) | (with_reducible refine Below.drew ?_) | go_size)))) (hb9.mono (Below.size (show Below w6.heap.size w6 _ from (by (repeat' (first | (with_reducible exact Below.refl _ _) | (with_reducible assumption) | (with_reducible refine Below.trans ?_ (Below.mono (by with_reducible assumption) ?_)) | (with_reducible refine Below.alloc ?_ ?_ _) | (with_reducible refine Below.setCell ?_ ?_ _) | (with_reducible refine below_drewN ?_ _) | (with_reducible refine Below.drew ?_) | go_size)))))); have c9 := (HX9.cell (p := ⟨wr.heap.size, 1, none⟩) l6).trans e1)
        (try dsimp only)
        refine hK.out _ _ ?_ (fun hHeld => ?_)
        · exact c9
        clear hK K
        (try simp only [Act.put, List.setIfInBounds_toArray, List.set_cons_zero, List.set_cons_succ, List.getElem_toArray, List.getElem_cons_succ, List.getElem_cons_zero])
        refine wpAnyH_ready (rs := [17]) (by kernel_rfl) (by simp) ?_
        refine AllReadyH.cons rfl (fun K hK => ?_) AllReadyH.nil
        go_simp
        (go_at_call 18; refine (HRS.out _ (HVX6.out.belowW (show Below w6.heap.size w6 _ from (by (repeat' (first | (with_reducible exact Below.refl _ _) | (with_reducible assumption) | (with_reducible refine Below.trans ?_ (Below.mono (by with_reducible assumption) ?_)) | (with_reducible refine Below.alloc ?_ ?_ _) | (with_reducible refine Below.setCell ?_ ?_ _) | (with_reducible refine below_drewN ?_ _) | (with_reducible refine Below.drew ?_) | go_size)))))).mono ?_; rintro e w10 ⟨rfl, hb10⟩; have HX10 : Below w6.heap.size w6 w10 := Below.trans (show Below w6.heap.size w6 _ from (by (repeat' (first | (with_reducible exact Below.refl _ _) | (with_reducible assumption) | (with_reducible refine Below.trans ?_ (Below.mono (by with_reducible assumption) ?_)) | (with_reducible refine Below.alloc ?_ ?_ _) | (with_reducible refine Below.setCell ?_ ?_ _) | (with_reducible refine below_drewN ?_ _) | (with_reducible refine Below.drew ?_) | go_size)))) (hb10.mono (Below.size (show Below w6.heap.size w6 _ from (by (repeat' (first | (with_reducible exact Below.refl _ _) | (with_reducible assumption) | (with_reducible refine Below.trans ?_ (Below.mono (by with_reducible assumption) ?_)) | (with_reducible refine Below.alloc ?_ ?_ _) | (with_reducible refine Below.setCell ?_ ?_ _) | (with_reducible refine below_drewN ?_ _) | (with_reducible refine Below.drew ?_) | go_size)))))); have c10 := (HX10.cell (p := ⟨wr.heap.size, 1, none⟩) l6).trans e1)
        (try dsimp only)
        refine hK.out _ _ ?_ (fun hHeld => ?_)
        · exact c10
        clear hK K
        (try simp only [Act.put, List.setIfInBounds_toArray, List.set_cons_zero, List.set_cons_succ, List.getElem_toArray, List.getElem_cons_succ, List.getElem_cons_zero])
        refine wpAnyH_take (i := 18) (v := ?_) rfl (by kernel_rfl) (by kernel_rfl) (by kernel_rfl) (fun _ _ _ h => h) (Or.inl ⟨by rfl, ?_⟩) (by assumption) ?_
        rotate_left
        · intro w' hSw; (try dsimp only at hSw); go_simp; (try with_reducible rfl)
        (try simp only [Act.put, List.setIfInBounds_toArray, List.set_cons_zero, List.set_cons_succ, List.getElem_toArray, List.getElem_cons_succ, List.getElem_cons_zero])
        refine wpAnyH_take (i := 19) (v := ?_) rfl (by kernel_rfl) (by kernel_rfl) (by kernel_rfl) (fun _ _ _ h => h) (Or.inl ⟨by rfl, ?_⟩) (by assumption) ?_
        rotate_left
        · intro w' hSw; (try dsimp only at hSw); go_simp; (try with_reducible rfl)
        (try simp only [Act.put, List.setIfInBounds_toArray, List.set_cons_zero, List.set_cons_succ, List.getElem_toArray, List.getElem_cons_succ, List.getElem_cons_zero])
        refine wpAnyH_take (i := 20) (v := ?_) rfl (by kernel_rfl) (by kernel_rfl) (by kernel_rfl) (fun _ _ _ h => h) (Or.inl ⟨by rfl, ?_⟩) (by assumption) ?_
        rotate_left
        · intro w' hSw; (try dsimp only at hSw); go_simp; (try with_reducible rfl)
        (try simp only [Act.put, List.setIfInBounds_toArray, List.set_cons_zero, List.set_cons_succ, List.getElem_toArray, List.getElem_cons_succ, List.getElem_cons_zero])
        refine wpAnyH_take (i := 21) (v := ?_) rfl (by kernel_rfl) (by kernel_rfl) (by kernel_rfl) (fun _ _ _ h => h) (Or.inl ⟨by rfl, ?_⟩) (by assumption) ?_
        rotate_left
        · intro w' hSw; (try dsimp only at hSw); go_simp; (try with_reducible rfl)
        (try simp only [Act.put, List.setIfInBounds_toArray, List.set_cons_zero, List.set_cons_succ, List.getElem_toArray, List.getElem_cons_succ, List.getElem_cons_zero])
        refine wpAnyH_take (i := 23) (v := ?_) rfl (by kernel_rfl) (by kernel_rfl) (by kernel_rfl) (fun _ _ _ h => h) (Or.inl ⟨by rfl, ?_⟩) (by assumption) ?_
        rotate_left
        · intro w' hSw; (try dsimp only at hSw); go_simp; (try with_reducible rfl)
        (try simp only [Act.put, List.setIfInBounds_toArray, List.set_cons_zero, List.set_cons_succ, List.getElem_toArray, List.getElem_cons_succ, List.getElem_cons_zero])
        refine wpAnyH_ready (rs := [22]) (by kernel_rfl) (by simp) ?_
        refine AllReadyH.cons rfl (fun K hK => ?_) AllReadyH.nil
        go_simp
        (go_at_call 19; refine (HMK.out _ (HVV6.out.belowW (show Below w6.heap.size w6 _ from (by (repeat' (first | (with_reducible exact Below.refl _ _) | (with_reducible assumption) | (with_reducible refine Below.trans ?_ (Below.mono (by with_reducible assumption) ?_)) | (with_reducible refine Below.alloc ?_ ?_ _) | (with_reducible refine Below.setCell ?_ ?_ _) | (with_reducible refine below_drewN ?_ _) | (with_reducible refine Below.drew ?_) | go_size)))))).mono ?_; rintro e w11 ⟨rfl, hb11⟩; have HX11 : Below w6.heap.size w6 w11 := Below.trans (show Below w6.heap.size w6 _ from (by (repeat' (first | (with_reducible exact Below.refl _ _) | (with_reducible assumption) | (with_reducible refine Below.trans ?_ (Below.mono (by with_reducible assumption) ?_)) | (with_reducible refine Below.alloc ?_ ?_ _) | (with_reducible refine Below.setCell ?_ ?_ _) | (with_reducible refine below_drewN ?_ _) | (with_reducible refine Below.drew ?_) | go_size)))) (hb11.mono (Below.size (show Below w6.heap.size w6 _ from (by (repeat' (first | (with_reducible exact Below.refl _ _) | (with_reducible assumption) | (with_reducible refine Below.trans ?_ (Below.mono (by with_reducible assumption) ?_)) | (with_reducible refine Below.alloc ?_ ?_ _) | (with_reducible refine Below.setCell ?_ ?_ _) | (with_reducible refine below_drewN ?_ _) | (with_reducible refine Below.drew ?_) | go_size)))))); have c11 := (HX11.cell (p := ⟨wr.heap.size, 1, none⟩) l6).trans e1)
        (try dsimp only)
        refine hK.out _ _ ?_ (fun hHeld => ?_)
        · exact c11
        clear hK K
        (try simp only [Act.put, List.setIfInBounds_toArray, List.set_cons_zero, List.set_cons_succ, List.getElem_toArray, List.getElem_cons_succ, List.getElem_cons_zero])
        refine wpAnyH_ready (rs := [24]) (by kernel_rfl) (by simp) ?_
        refine AllReadyH.cons rfl (fun K hK => ?_) AllReadyH.nil
        go_simp
        (go_at_call 20; refine (HRM.out _ (HVX6.out.belowW (show Below w6.heap.size w6 _ from (by (repeat' (first | (with_reducible exact Below.refl _ _) | (with_reducible assumption) | (with_reducible refine Below.trans ?_ (Below.mono (by with_reducible assumption) ?_)) | (with_reducible refine Below.alloc ?_ ?_ _) | (with_reducible refine Below.setCell ?_ ?_ _) | (with_reducible refine below_drewN ?_ _) | (with_reducible refine Below.drew ?_) | go_size)))))).mono ?_; rintro e w12 ⟨rfl, hb12⟩; have HX12 : Below w6.heap.size w6 w12 := Below.trans (show Below w6.heap.size w6 _ from (by (repeat' (first | (with_reducible exact Below.refl _ _) | (with_reducible assumption) | (with_reducible refine Below.trans ?_ (Below.mono (by with_reducible assumption) ?_)) | (with_reducible refine Below.alloc ?_ ?_ _) | (with_reducible refine Below.setCell ?_ ?_ _) | (with_reducible refine below_drewN ?_ _) | (with_reducible refine Below.drew ?_) | go_size)))) (hb12.mono (Below.size (show Below w6.heap.size w6 _ from (by (repeat' (first | (with_reducible exact Below.refl _ _) | (with_reducible assumption) | (with_reducible refine Below.trans ?_ (Below.mono (by with_reducible assumption) ?_)) | (with_reducible refine Below.alloc ?_ ?_ _) | (with_reducible refine Below.setCell ?_ ?_ _) | (with_reducible refine below_drewN ?_ _) | (with_reducible refine Below.drew ?_) | go_size)))))); have c12 := (HX12.cell (p := ⟨wr.heap.size, 1, none⟩) l6).trans e1)
        (try dsimp only)
        refine hK.out _ _ ?_ (fun hHeld => ?_)
        · exact c12
        clear hK K
        (try simp only [Act.put, List.setIfInBounds_toArray, List.set_cons_zero, List.set_cons_succ, List.getElem_toArray, List.getElem_cons_succ, List.getElem_cons_zero])
        refine wpAnyH_take (i := 25) (v := ?_) rfl (by kernel_rfl) (by kernel_rfl) (by kernel_rfl) (fun _ _ _ h => h) (Or.inl ⟨by rfl, ?_⟩) (by assumption) ?_
        rotate_left
        · intro w' hSw; (try dsimp only at hSw); go_simp; (try with_reducible rfl)
        (try simp only [Act.put, List.setIfInBounds_toArray, List.set_cons_zero, List.set_cons_succ, List.getElem_toArray, List.getElem_cons_succ, List.getElem_cons_zero])
        refine wpAnyH_take (i := 26) (v := ?_) rfl (by kernel_rfl) (by kernel_rfl) (by kernel_rfl) (fun _ _ _ h => h) (Or.inl ⟨by rfl, ?_⟩) (by assumption) ?_
        rotate_left
        · intro w' hSw; (try dsimp only at hSw); go_simp; (try with_reducible rfl)
        (try simp only [Act.put, List.setIfInBounds_toArray, List.set_cons_zero, List.set_cons_succ, List.getElem_toArray, List.getElem_cons_succ, List.getElem_cons_zero])
        refine wpAnyH_done (by kernel_rfl) ?_ _
        have VV12 := HVV6.out.belowW HX12
        have VX12 := HVX6.out.belowW HX12
        have IS12 := IS6.below HX12 IS6.lt
        have IM12 := IM6.below HX12 IM6.lt
        have HB12 := HB6.trans (HX12.mono HB6.size)
        have HVV := Lib.hid VV12
        have HVX := Lib.hid VX12
        have HIS := Lib.hid IS12
        have HIM := Lib.hid IM12
        have z12 := HB12.size
        have ls := IS12.lt
        have lm := IM12.lt
        have i0 := IS12.c0
        have i1 := IS12.c1
        have i2 := IM12.c0
        have i3 := IM12.c1
        clear hb7 hb8 hb9 hb10 hb11 hb12 HX6 HX7 HX8 HX9 HX10 HX11 HX12 c7 c8 c9 c10 c11 c12 VV12 VX12 IS12 IM12 IS6 IM6 HVV6 HVX6 e1 l6 HB6 z6
        have HX12 : Below w12.heap.size w12 w12 := Below.refl _ _
        go_wp2_with fail
        refine wp_region_held_drew (S := (fun w' => w'.cell? ⟨sb, 0, none⟩ = some (.int .i64 k1) ∧ w'.cell? ⟨sb, 1, none⟩ = some (.int .i64 k2) ∧ w'.cell? ⟨sb + 1, 0, none⟩ = some (.int .i64 o1) ∧ w'.cell? ⟨sb + 1, 1, none⟩ = some (.int .i64 o2))) (by kernel_rfl) ?_ (fun hHeld => ?_)
        · exact ⟨i0, i1, i2, i3⟩
        refine wpAnyH_take (i := 0) (v := ?_) rfl (by kernel_rfl) (by kernel_rfl) (by kernel_rfl) (fun _ _ _ h => h) (Or.inl ⟨by rfl, ?_⟩) (by assumption) ?_
        rotate_left
        · intro w' hSw; (try dsimp only at hSw); go_simp; (try with_reducible rfl)
        (try simp only [Act.put, List.setIfInBounds_toArray, List.set_cons_zero, List.set_cons_succ, List.getElem_toArray, List.getElem_cons_succ, List.getElem_cons_zero])
        refine wpAnyH_take (i := 2) (v := ?_) rfl (by kernel_rfl) (by kernel_rfl) (by kernel_rfl) (fun _ _ _ h => h) (Or.inl ⟨by rfl, ?_⟩) (by assumption) ?_
        rotate_left
        · intro w' hSw; (try dsimp only at hSw); go_simp; (try with_reducible rfl)
        (try simp only [Act.put, List.setIfInBounds_toArray, List.set_cons_zero, List.set_cons_succ, List.getElem_toArray, List.getElem_cons_succ, List.getElem_cons_zero])
        refine wpAnyH_ready (rs := [1]) (by kernel_rfl) (by simp) ?_
        refine AllReadyH.cons rfl (fun K hK => ?_) AllReadyH.nil
        go_simp
        (go_at_call 17; refine (HST.out _ (HVV.out.belowW (show Below w12.heap.size w12 _ from (by (repeat' (first | (with_reducible exact Below.refl _ _) | (with_reducible assumption) | (with_reducible refine Below.trans ?_ (Below.mono (by with_reducible assumption) ?_)) | (with_reducible refine Below.alloc ?_ ?_ _) | (with_reducible refine Below.setCell ?_ ?_ _) | (with_reducible refine below_drewN ?_ _) | (with_reducible refine Below.drew ?_) | go_size)))))).mono ?_; rintro e w13 ⟨rfl, hb13⟩; have HX13 : Below w12.heap.size w12 w13 := Below.trans (show Below w12.heap.size w12 _ from (by (repeat' (first | (with_reducible exact Below.refl _ _) | (with_reducible assumption) | (with_reducible refine Below.trans ?_ (Below.mono (by with_reducible assumption) ?_)) | (with_reducible refine Below.alloc ?_ ?_ _) | (with_reducible refine Below.setCell ?_ ?_ _) | (with_reducible refine below_drewN ?_ _) | (with_reducible refine Below.drew ?_) | go_size)))) (hb13.mono (Below.size (show Below w12.heap.size w12 _ from (by (repeat' (first | (with_reducible exact Below.refl _ _) | (with_reducible assumption) | (with_reducible refine Below.trans ?_ (Below.mono (by with_reducible assumption) ?_)) | (with_reducible refine Below.alloc ?_ ?_ _) | (with_reducible refine Below.setCell ?_ ?_ _) | (with_reducible refine below_drewN ?_ _) | (with_reducible refine Below.drew ?_) | go_size)))))); have c13 := (HX13.cell (p := ⟨sb, 0, none⟩) ls).trans i0; have d13' := (HX13.cell (p := ⟨sb, 1, none⟩) ls).trans i1; have e13' := (HX13.cell (p := ⟨sb + 1, 0, none⟩) lm).trans i2; have f13' := (HX13.cell (p := ⟨sb + 1, 1, none⟩) lm).trans i3)
        (try dsimp only)
        refine hK.out _ _ ?_ (fun hHeld => ?_)
        · exact ⟨c13, d13', e13', f13'⟩
        clear hK K
        (try simp only [Act.put, List.setIfInBounds_toArray, List.set_cons_zero, List.set_cons_succ, List.getElem_toArray, List.getElem_cons_succ, List.getElem_cons_zero])
        refine wpAnyH_ready (rs := [3]) (by kernel_rfl) (by simp) ?_
        refine AllReadyH.cons rfl (fun K hK => ?_) AllReadyH.nil
        go_simp
        (go_at_call 21; refine (ref10_compare _ _ _ _ _).mono ?_; rintro e w14 ⟨rfl, hb14⟩; have HX14 : Below w12.heap.size w12 w14 := Below.trans (show Below w12.heap.size w12 _ from (by (repeat' (first | (with_reducible exact Below.refl _ _) | (with_reducible assumption) | (with_reducible refine Below.trans ?_ (Below.mono (by with_reducible assumption) ?_)) | (with_reducible refine Below.alloc ?_ ?_ _) | (with_reducible refine Below.setCell ?_ ?_ _) | (with_reducible refine below_drewN ?_ _) | (with_reducible refine Below.drew ?_) | go_size)))) (hb14.mono (Below.size (show Below w12.heap.size w12 _ from (by (repeat' (first | (with_reducible exact Below.refl _ _) | (with_reducible assumption) | (with_reducible refine Below.trans ?_ (Below.mono (by with_reducible assumption) ?_)) | (with_reducible refine Below.alloc ?_ ?_ _) | (with_reducible refine Below.setCell ?_ ?_ _) | (with_reducible refine below_drewN ?_ _) | (with_reducible refine Below.drew ?_) | go_size)))))); have c14 := (HX14.cell (p := ⟨sb, 0, none⟩) ls).trans i0; have d14' := (HX14.cell (p := ⟨sb, 1, none⟩) ls).trans i1; have e14' := (HX14.cell (p := ⟨sb + 1, 0, none⟩) lm).trans i2; have f14' := (HX14.cell (p := ⟨sb + 1, 1, none⟩) lm).trans i3)
        (try dsimp only)
        refine hK.out _ _ ?_ (fun hHeld => ?_)
        · exact ⟨c14, d14', e14', f14'⟩
        clear hK K
        (try simp only [Act.put, List.setIfInBounds_toArray, List.set_cons_zero, List.set_cons_succ, List.getElem_toArray, List.getElem_cons_succ, List.getElem_cons_zero])
        refine wpAnyH_take (i := 4) (v := ?_) rfl (by kernel_rfl) (by kernel_rfl) (by kernel_rfl) (fun _ _ _ h => h) (Or.inl ⟨by rfl, ?_⟩) (by assumption) ?_
        rotate_left
        · intro w' hSw; (try dsimp only at hSw); go_simp; (try with_reducible rfl)
        (try simp only [Act.put, List.setIfInBounds_toArray, List.set_cons_zero, List.set_cons_succ, List.getElem_toArray, List.getElem_cons_succ, List.getElem_cons_zero])
        refine wpAnyH_take (i := 5) (v := ?_) rfl (by kernel_rfl) (by kernel_rfl) (by kernel_rfl) (fun _ _ _ h => h) (Or.inl ⟨by rfl, ?_⟩) (by assumption) ?_
        rotate_left
        · intro w' hSw; (try dsimp only at hSw); go_simp; (try with_reducible rfl)
        (try simp only [Act.put, List.setIfInBounds_toArray, List.set_cons_zero, List.set_cons_succ, List.getElem_toArray, List.getElem_cons_succ, List.getElem_cons_zero])
        refine wpAnyH_take (i := 6) (v := ?_) rfl (by kernel_rfl) (by kernel_rfl) (by kernel_rfl) (fun _ _ _ h => h) (Or.inl ⟨by rfl, ?_⟩) (by assumption) ?_
        rotate_left
        · intro w' hSw; (try dsimp only at hSw); go_simp; (try with_reducible rfl)
        (try simp only [Act.put, List.setIfInBounds_toArray, List.set_cons_zero, List.set_cons_succ, List.getElem_toArray, List.getElem_cons_succ, List.getElem_cons_zero])
        refine wpAnyH_take (i := 8) (v := ?_) rfl (by kernel_rfl) (by kernel_rfl) (by kernel_rfl) (fun _ _ _ h => h) (Or.inl ⟨by rfl, ?_⟩) (by assumption) ?_
        rotate_left
        · intro w' hSw; (try dsimp only at hSw); go_simp; (try with_reducible rfl)
        (try simp only [Act.put, List.setIfInBounds_toArray, List.set_cons_zero, List.set_cons_succ, List.getElem_toArray, List.getElem_cons_succ, List.getElem_cons_zero])
        refine wpAnyH_ready (rs := [7]) (by kernel_rfl) (by simp) ?_
        refine AllReadyH.cons rfl (fun K hK => ?_) AllReadyH.nil
        go_simp
        (go_at_call 19; refine (HMK.out _ (HVV.out.belowW (show Below w12.heap.size w12 _ from (by (repeat' (first | (with_reducible exact Below.refl _ _) | (with_reducible assumption) | (with_reducible refine Below.trans ?_ (Below.mono (by with_reducible assumption) ?_)) | (with_reducible refine Below.alloc ?_ ?_ _) | (with_reducible refine Below.setCell ?_ ?_ _) | (with_reducible refine below_drewN ?_ _) | (with_reducible refine Below.drew ?_) | go_size)))))).mono ?_; rintro e w15 ⟨rfl, hb15⟩; have HX15 : Below w12.heap.size w12 w15 := Below.trans (show Below w12.heap.size w12 _ from (by (repeat' (first | (with_reducible exact Below.refl _ _) | (with_reducible assumption) | (with_reducible refine Below.trans ?_ (Below.mono (by with_reducible assumption) ?_)) | (with_reducible refine Below.alloc ?_ ?_ _) | (with_reducible refine Below.setCell ?_ ?_ _) | (with_reducible refine below_drewN ?_ _) | (with_reducible refine Below.drew ?_) | go_size)))) (hb15.mono (Below.size (show Below w12.heap.size w12 _ from (by (repeat' (first | (with_reducible exact Below.refl _ _) | (with_reducible assumption) | (with_reducible refine Below.trans ?_ (Below.mono (by with_reducible assumption) ?_)) | (with_reducible refine Below.alloc ?_ ?_ _) | (with_reducible refine Below.setCell ?_ ?_ _) | (with_reducible refine below_drewN ?_ _) | (with_reducible refine Below.drew ?_) | go_size)))))); have c15 := (HX15.cell (p := ⟨sb, 0, none⟩) ls).trans i0; have d15' := (HX15.cell (p := ⟨sb, 1, none⟩) ls).trans i1; have e15' := (HX15.cell (p := ⟨sb + 1, 0, none⟩) lm).trans i2; have f15' := (HX15.cell (p := ⟨sb + 1, 1, none⟩) lm).trans i3)
        (try dsimp only)
        refine hK.out _ _ ?_ (fun hHeld => ?_)
        · exact ⟨c15, d15', e15', f15'⟩
        clear hK K
        (try simp only [Act.put, List.setIfInBounds_toArray, List.set_cons_zero, List.set_cons_succ, List.getElem_toArray, List.getElem_cons_succ, List.getElem_cons_zero])
        refine wpAnyH_ready (rs := [9]) (by kernel_rfl) (by simp) ?_
        refine AllReadyH.cons rfl (fun K hK => ?_) AllReadyH.nil
        go_simp
        (go_at_call 21; refine (ref10_compare _ _ _ _ _).mono ?_; rintro e w16 ⟨rfl, hb16⟩; have HX16 : Below w12.heap.size w12 w16 := Below.trans (show Below w12.heap.size w12 _ from (by (repeat' (first | (with_reducible exact Below.refl _ _) | (with_reducible assumption) | (with_reducible refine Below.trans ?_ (Below.mono (by with_reducible assumption) ?_)) | (with_reducible refine Below.alloc ?_ ?_ _) | (with_reducible refine Below.setCell ?_ ?_ _) | (with_reducible refine below_drewN ?_ _) | (with_reducible refine Below.drew ?_) | go_size)))) (hb16.mono (Below.size (show Below w12.heap.size w12 _ from (by (repeat' (first | (with_reducible exact Below.refl _ _) | (with_reducible assumption) | (with_reducible refine Below.trans ?_ (Below.mono (by with_reducible assumption) ?_)) | (with_reducible refine Below.alloc ?_ ?_ _) | (with_reducible refine Below.setCell ?_ ?_ _) | (with_reducible refine below_drewN ?_ _) | (with_reducible refine Below.drew ?_) | go_size)))))); have c16 := (HX16.cell (p := ⟨sb, 0, none⟩) ls).trans i0; have d16' := (HX16.cell (p := ⟨sb, 1, none⟩) ls).trans i1; have e16' := (HX16.cell (p := ⟨sb + 1, 0, none⟩) lm).trans i2; have f16' := (HX16.cell (p := ⟨sb + 1, 1, none⟩) lm).trans i3)
        (try dsimp only)
        refine hK.out _ _ ?_ (fun hHeld => ?_)
        · exact ⟨c16, d16', e16', f16'⟩
        clear hK K
        (try simp only [Act.put, List.setIfInBounds_toArray, List.set_cons_zero, List.set_cons_succ, List.getElem_toArray, List.getElem_cons_succ, List.getElem_cons_zero])
        refine wpAnyH_take (i := 10) (v := ?_) rfl (by kernel_rfl) (by kernel_rfl) (by kernel_rfl) (fun _ _ _ h => h) (Or.inl ⟨by rfl, ?_⟩) (by assumption) ?_
        rotate_left
        · intro w' hSw; (try dsimp only at hSw); go_simp; (try with_reducible rfl)
        (try simp only [Act.put, List.setIfInBounds_toArray, List.set_cons_zero, List.set_cons_succ, List.getElem_toArray, List.getElem_cons_succ, List.getElem_cons_zero])
        refine wpAnyH_take (i := 11) (v := ?_) rfl (by kernel_rfl) (by kernel_rfl) (by kernel_rfl) (fun _ _ _ h => h) (Or.inl ⟨by rfl, ?_⟩) (by assumption) ?_
        rotate_left
        · intro w' hSw; (try dsimp only at hSw); go_simp; (try with_reducible rfl)
        (try simp only [Act.put, List.setIfInBounds_toArray, List.set_cons_zero, List.set_cons_succ, List.getElem_toArray, List.getElem_cons_succ, List.getElem_cons_zero])
        refine wpAnyH_done (by kernel_rfl) ?_ _
        have HXE : Below w12.heap.size w12 w16 := HX16
        clear hb13 hb14 hb15 hb16 HX12 HX13 HX14 HX15 HX16 c13 c14 c15 c16 d13' d14' d15' d16' e13' e14' e15' e16' f13' f14' f15' f16' i0 i1 i2 i3
        go_wp2_with fail
        refine (HST.out _ (HVV.out.belowW HXE)).mono ?_; rintro e w17 ⟨rfl, hb17⟩
        have HX17 := HXE.trans (hb17.mono HXE.size)
        clear hb17
        go_wp2_with fail
        refine (HMK.out _ (HVV.out.belowW HX17)).mono ?_; rintro e w18 ⟨rfl, hb18⟩
        have HX18 := HX17.trans (hb18.mono HX17.size)
        have VV18 := HVV.out.belowW HX18
        have VX18 := HVX.out.belowW HX18
        have IS18 := HIS.out.below HX18 HIS.out.lt
        have IM18 := HIM.out.below HX18 HIM.out.lt
        have HB18 := HB12.trans (HX18.mono HB12.size)
        clear hb18 HXE HX17 HX18 HVV HVX HIS HIM
        have IS18' := IS18
        have IM18' := IM18
        obtain ⟨y0, y1, y2, y3, y4⟩ := IS18
        obtain ⟨u0, u1, u2, u3, u4⟩ := IM18
        have nsm : sb ≠ sb + 1 := by omega
        go_wp2
        go_roundw
        case rel =>
          refine ⟨k + 1, P, Q, P1, Q1, by omega, by go_num, ?_, ?_, ?_, ?_, ?_⟩
          · exact VecAt.set_out (VecAt.set_out (VecAt.set_out (VecAt.set_out VV18 sb_nb sb_nk sb_nf) sb_nb sb_nk sb_nf) sc_nb sc_nk sc_nf) sc_nb sc_nk sc_nf
          · exact VecAt.set_out (VecAt.set_out (VecAt.set_out (VecAt.set_out VX18 sx_nb sx_nk sx_nf) sx_nb sx_nk sx_nf) sy_nb sy_nk sy_nf) sy_nb sy_nk sy_nf
          · rw [HM1.out]; exact ((((IS18'.set0 _).set1 _).other (by simp) _).other (by simp) _)
          · rw [HM2.out]; exact ((((IM18'.other (by simp) _).other (by simp) _).set0 _).set1 _)
          · (repeat' (first | (with_reducible exact Below.refl _ _) | (with_reducible assumption) | (with_reducible refine Below.trans ?_ (Below.mono (by with_reducible assumption) ?_)) | (with_reducible refine Below.alloc ?_ ?_ _) | (with_reducible refine Below.setCell ?_ ?_ _) | (with_reducible refine below_drewN ?_ _) | (with_reducible refine Below.drew ?_) | go_size))
        case measure => simp [intOf]; omega
      · go_wp2_with fail
        refine wp_region_held_drew (S := (fun w' => w'.cell? ⟨wr.heap.size, 1, none⟩ = some (.int .i64 nn) ∧ w'.cell? ⟨wr.heap.size, 2, none⟩ = some (.int .i64 x) ∧ w'.cell? ⟨wr.heap.size, 3, none⟩ = some (.int .i64 y))) (by kernel_rfl) ?_ (fun hHeld => ?_)
        · exact ⟨q1, q2, q3⟩
        refine wpAnyH_take (i := 0) (v := ?_) rfl (by kernel_rfl) (by kernel_rfl) (by kernel_rfl) (fun _ _ _ h => h) (Or.inl ⟨by rfl, ?_⟩) (by assumption) ?_
        rotate_left
        · intro w' hSw; (try dsimp only at hSw); go_simp; (try with_reducible rfl)
        (try simp only [Act.put, List.setIfInBounds_toArray, List.set_cons_zero, List.set_cons_succ, List.getElem_toArray, List.getElem_cons_succ, List.getElem_cons_zero])
        refine wpAnyH_take (i := 1) (v := ?_) rfl (by kernel_rfl) (by kernel_rfl) (by kernel_rfl) (fun _ _ _ h => h) (Or.inl ⟨by rfl, ?_⟩) (by assumption) ?_
        rotate_left
        · intro w' hSw; (try dsimp only at hSw); go_simp; (try with_reducible rfl)
        (try simp only [Act.put, List.setIfInBounds_toArray, List.set_cons_zero, List.set_cons_succ, List.getElem_toArray, List.getElem_cons_succ, List.getElem_cons_zero])
        refine wpAnyH_take (i := 2) (v := ?_) rfl (by kernel_rfl) (by kernel_rfl) (by kernel_rfl) (fun _ _ _ h => h) (Or.inl ⟨by rfl, ?_⟩) (by assumption) ?_
        rotate_left
        · intro w' hSw; (try dsimp only at hSw); go_simp; (try with_reducible rfl)
        (try simp only [Act.put, List.setIfInBounds_toArray, List.set_cons_zero, List.set_cons_succ, List.getElem_toArray, List.getElem_cons_succ, List.getElem_cons_zero])
        refine wpAnyH_take (i := 3) (v := ?_) rfl (by kernel_rfl) (by kernel_rfl) (by kernel_rfl) (fun _ _ _ h => h) (Or.inl ⟨by rfl, ?_⟩) (by assumption) ?_
        rotate_left
        · intro w' hSw; (try dsimp only at hSw); go_simp; (try with_reducible rfl)
        (try simp only [Act.put, List.setIfInBounds_toArray, List.set_cons_zero, List.set_cons_succ, List.getElem_toArray, List.getElem_cons_succ, List.getElem_cons_zero])
        refine wpAnyH_take (i := 4) (v := ?_) rfl (by kernel_rfl) (by kernel_rfl) (by kernel_rfl) (fun _ _ _ h => h) (Or.inl ⟨by rfl, ?_⟩) (by assumption) ?_
        rotate_left
        · intro w' hSw; (try dsimp only at hSw); go_simp; (try with_reducible rfl)
        (try simp only [Act.put, List.setIfInBounds_toArray, List.set_cons_zero, List.set_cons_succ, List.getElem_toArray, List.getElem_cons_succ, List.getElem_cons_zero])
        refine wpAnyH_take (i := 6) (v := ?_) rfl (by kernel_rfl) (by kernel_rfl) (by kernel_rfl) (fun _ _ _ h => h) (Or.inl ⟨by rfl, ?_⟩) (by assumption) ?_
        rotate_left
        · intro w' hSw; (try dsimp only at hSw); go_simp; (try with_reducible rfl)
        (try simp only [Act.put, List.setIfInBounds_toArray, List.set_cons_zero, List.set_cons_succ, List.getElem_toArray, List.getElem_cons_succ, List.getElem_cons_zero])
        refine wpAnyH_take (i := 7) (v := ?_) rfl (by kernel_rfl) (by kernel_rfl) (by kernel_rfl) (fun _ _ _ h => h) (Or.inl ⟨by rfl, ?_⟩) (by assumption) ?_
        rotate_left
        · intro w' hSw; (try dsimp only at hSw); go_simp; (try with_reducible rfl)
        (try simp only [Act.put, List.setIfInBounds_toArray, List.set_cons_zero, List.set_cons_succ, List.getElem_toArray, List.getElem_cons_succ, List.getElem_cons_zero])
        refine wpAnyH_take (i := 8) (v := ?_) rfl (by kernel_rfl) (by kernel_rfl) (by kernel_rfl) (fun _ _ _ h => h) (Or.inl ⟨by rfl, ?_⟩) (by assumption) ?_
        rotate_left
        · intro w' hSw; (try dsimp only at hSw); go_simp; (try with_reducible rfl)
        (try simp only [Act.put, List.setIfInBounds_toArray, List.set_cons_zero, List.set_cons_succ, List.getElem_toArray, List.getElem_cons_succ, List.getElem_cons_zero])
        refine wpAnyH_take (i := 9) (v := ?_) rfl (by kernel_rfl) (by kernel_rfl) (by kernel_rfl) (fun _ _ _ h => h) (Or.inl ⟨by rfl, ?_⟩) (by assumption) ?_
        rotate_left
        · intro w' hSw; (try dsimp only at hSw); go_simp; (try with_reducible rfl)
        (try simp only [Act.put, List.setIfInBounds_toArray, List.set_cons_zero, List.set_cons_succ, List.getElem_toArray, List.getElem_cons_succ, List.getElem_cons_zero])
        refine wpAnyH_take (i := 10) (v := ?_) rfl (by kernel_rfl) (by kernel_rfl) (by kernel_rfl) (fun _ _ _ h => h) (Or.inl ⟨by rfl, ?_⟩) (by assumption) ?_
        rotate_left
        · intro w' hSw; (try dsimp only at hSw); go_simp; (try with_reducible rfl)
        (try simp only [Act.put, List.setIfInBounds_toArray, List.set_cons_zero, List.set_cons_succ, List.getElem_toArray, List.getElem_cons_succ, List.getElem_cons_zero])
        refine wpAnyH_ready (rs := [5]) (by kernel_rfl) (by simp) ?_
        refine AllReadyH.cons rfl (fun K hK => ?_) AllReadyH.nil
        go_simp
        (go_at_call 11; refine (vec_reach b ka fa n nn P Q P' Q' x y _ (by first | exact HVV.out | exact HVV.out.drew | exact HVV.out.drew.drew) hn).mono ?_; rintro e w5 ⟨rfl, ho5, VV5⟩; have c1 := (ho5.cell wr.heap.size 1 l1 ra).trans q1; have c2 := (ho5.cell wr.heap.size 2 l1 ra).trans q2; have c3 := (ho5.cell wr.heap.size 3 l1 ra).trans q3; have l5 : wr.heap.size < w5.heap.size := Nat.lt_of_lt_of_le l1 ho5.size; have VX5 : VecAt w5 xb xk xf n P Q P' Q' := HVX.out.only (c := ka) (by first | exact ho5 | exact ⟨ho5.os, ho5.tape, ho5.output, ho5.size, ho5.block⟩) d1 d2 d3; have IS5 := HIS.out.only (c := ka) (w' := w5) (by first | exact ho5 | exact ⟨ho5.os, ho5.tape, ho5.output, ho5.size, ho5.block⟩) s1; have IM5 := HIM.out.only (c := ka) (w' := w5) (by first | exact ho5 | exact ⟨ho5.os, ho5.tape, ho5.output, ho5.size, ho5.block⟩) s5; have HB5 : Below w.heap.size w w5 := Below.trans (show Below w.heap.size w _ from (by (repeat' (first | (with_reducible exact Below.refl _ _) | (with_reducible assumption) | (with_reducible refine Below.trans ?_ (Below.mono (by with_reducible assumption) ?_)) | (with_reducible refine Below.alloc ?_ ?_ _) | (with_reducible refine Below.setCell ?_ ?_ _) | (with_reducible refine below_drewN ?_ _) | (with_reducible refine Below.drew ?_) | go_size)))) (ho5.below a1 (Nat.le_trans zr (by simp))))
        (try dsimp only)
        refine hK.out _ _ ?_ (fun hHeld => ?_)
        · exact ⟨c1, c2, c3⟩
        clear hK K
        (try simp only [Act.put, List.setIfInBounds_toArray, List.set_cons_zero, List.set_cons_succ, List.getElem_toArray, List.getElem_cons_succ, List.getElem_cons_zero])
        refine wpAnyH_ready (rs := [11]) (by kernel_rfl) (by simp) ?_
        refine AllReadyH.cons rfl (fun K hK => ?_) AllReadyH.nil
        go_simp
        (go_at_call 12; refine (ref20_reach xb xk xf n nn P Q P' Q' x y _ (by first | exact VX5 | exact VX5.drew | exact VX5.drew.drew) hn).mono ?_; rintro e w6 ⟨rfl, ho6, VX6⟩; have e1 := (ho6.cell wr.heap.size 1 l5 rc).trans c1; have e2 := (ho6.cell wr.heap.size 2 l5 rc).trans c2; have e3 := (ho6.cell wr.heap.size 3 l5 rc).trans c3)
        (try dsimp only)
        refine hK.out _ _ ?_ (fun hHeld => ?_)
        · exact ⟨e1, e2, e3⟩
        clear hK K
        (try simp only [Act.put, List.setIfInBounds_toArray, List.set_cons_zero, List.set_cons_succ, List.getElem_toArray, List.getElem_cons_succ, List.getElem_cons_zero])
        refine wpAnyH_take (i := 12) (v := ?_) rfl (by kernel_rfl) (by kernel_rfl) (by kernel_rfl) (fun _ _ _ h => h) (Or.inl ⟨by rfl, ?_⟩) (by assumption) ?_
        rotate_left
        · intro w' hSw; (try dsimp only at hSw); go_simp; (try with_reducible rfl)
        (try simp only [Act.put, List.setIfInBounds_toArray, List.set_cons_zero, List.set_cons_succ, List.getElem_toArray, List.getElem_cons_succ, List.getElem_cons_zero])
        refine wpAnyH_take (i := 13) (v := ?_) rfl (by kernel_rfl) (by kernel_rfl) (by kernel_rfl) (fun _ _ _ h => h) (Or.inl ⟨by rfl, ?_⟩) (by assumption) ?_
        rotate_left
        · intro w' hSw; (try dsimp only at hSw); go_simp; (try with_reducible rfl)
        (try simp only [Act.put, List.setIfInBounds_toArray, List.set_cons_zero, List.set_cons_succ, List.getElem_toArray, List.getElem_cons_succ, List.getElem_cons_zero])
        refine wpAnyH_done (by kernel_rfl) ?_ _
        have HVV6 := Lib.hid (VV5.only (w' := w6) (c := xk) (by first | exact ho6 | exact ⟨ho6.os, ho6.tape, ho6.output, ho6.size, ho6.block⟩) d7 d8 d9)
        have HVX6 := Lib.hid VX6
        have IS6 := IS5.only (w' := w6) (c := xk) (by first | exact ho6 | exact ⟨ho6.os, ho6.tape, ho6.output, ho6.size, ho6.block⟩) s3
        have IM6 := IM5.only (w' := w6) (c := xk) (by first | exact ho6 | exact ⟨ho6.os, ho6.tape, ho6.output, ho6.size, ho6.block⟩) s7
        have HB6 : Below w.heap.size w w6 := HB5.trans (ho6.below b1' HB5.size)
        have l6 : wr.heap.size < w6.heap.size := Nat.lt_of_lt_of_le l5 ho6.size
        have z6 := HB6.size
        clear ho5 ho6 VV5 VX5 VX6 IS5 IM5 HB5 c1 c2 c3 e2 e3 q1 q2 q3 l5 HVV HVX HIS HIM HBa
        have hup := HUK.out
        have hup2 := HUF0.out
        generalize rs n nn x y P Q = r at *
        generalize hP1 : stp n nn x y P Q = P1 at *
        generalize hQ1 : stq n nn x y P Q = Q1 at *
        clear hP1 hQ1
        have HKN := Lib.hid fun (W : World) (V : VecAt W b ka fa n P1 Q1 P' Q') => vec_known b ka fa n nn P1 Q1 P' Q' W V hn
        have HOF := Lib.hid fun (W : World) (V : VecAt W xb xk xf n P1 Q1 P' Q') => ref20_of xb xk xf n nn P1 Q1 P' Q' W V hn
        have HST := Lib.hid fun (W : World) (V : VecAt W b ka fa n P1 Q1 P' Q') => vec_stable b ka fa n P1 Q1 P' Q' W V hn
        have HRS := Lib.hid fun (W : World) (V : VecAt W xb xk xf n P1 Q1 P' Q') => ref20_stable xb xk xf n P1 Q1 P' Q' W V hn
        have HMK := Lib.hid fun (W : World) (V : VecAt W b ka fa n P1 Q1 P' Q') => vec_mark b ka fa n P1 Q1 P' Q' W V hn
        have HRM := Lib.hid fun (W : World) (V : VecAt W xb xk xf n P1 Q1 P' Q') => ref20_mark xb xk xf n P1 Q1 P' Q' W V hn
        generalize hm1 : mnS P1 Q1 n = mk at *
        generalize hm2 : mnS P' Q' n = mf at *
        have HM1 := Lib.hid hm1
        have HM2 := Lib.hid hm2
        clear hm1 hm2
        obtain ⟨k1, k2⟩ := mk
        obtain ⟨f1, f2⟩ := mf
        generalize kno n nn P1 = g0 at *
        generalize kno n nn Q1 = g1 at *
        generalize mnS P Q n = so at *
        obtain ⟨o1, o2⟩ := so
        simp only at IS6 IM6 hup hup2
        have HX6 : Below w6.heap.size w6 w6 := Below.refl _ _
        go_wp2_with fail
        refine wp_region_held_drew (S := (fun w' => w'.cell? ⟨wr.heap.size, 1, none⟩ = some (.int .i64 nn))) (by kernel_rfl) ?_ (fun hHeld => ?_)
        · exact e1
        refine wpAnyH_take (i := 0) (v := ?_) rfl (by kernel_rfl) (by kernel_rfl) (by kernel_rfl) (fun _ _ _ h => h) (Or.inl ⟨by rfl, ?_⟩) (by assumption) ?_
        rotate_left
        · intro w' hSw; (try dsimp only at hSw); go_simp; (try with_reducible rfl)
        (try simp only [Act.put, List.setIfInBounds_toArray, List.set_cons_zero, List.set_cons_succ, List.getElem_toArray, List.getElem_cons_succ, List.getElem_cons_zero])
        refine wpAnyH_take (i := 1) (v := ?_) rfl (by kernel_rfl) (by kernel_rfl) (by kernel_rfl) (fun _ _ _ h => h) (Or.inl ⟨by rfl, ?_⟩) (by assumption) ?_
        rotate_left
        · intro w' hSw; (try dsimp only at hSw); go_simp; (try with_reducible rfl)
        (try simp only [Act.put, List.setIfInBounds_toArray, List.set_cons_zero, List.set_cons_succ, List.getElem_toArray, List.getElem_cons_succ, List.getElem_cons_zero])
        refine wpAnyH_take (i := 2) (v := ?_) rfl (by kernel_rfl) (by kernel_rfl) (by kernel_rfl) (fun _ _ _ h => h) (Or.inl ⟨by rfl, ?_⟩) (by assumption) ?_
        rotate_left
        · intro w' hSw; (try dsimp only at hSw); go_simp; (try with_reducible rfl)
        (try simp only [Act.put, List.setIfInBounds_toArray, List.set_cons_zero, List.set_cons_succ, List.getElem_toArray, List.getElem_cons_succ, List.getElem_cons_zero])
        refine wpAnyH_take (i := 3) (v := ?_) rfl (by kernel_rfl) (by kernel_rfl) (by kernel_rfl) (fun _ _ _ h => h) (Or.inl ⟨by rfl, ?_⟩) (by assumption) ?_
        rotate_left
        · intro w' hSw; (try dsimp only at hSw); go_simp; (try with_reducible rfl)
        (try simp only [Act.put, List.setIfInBounds_toArray, List.set_cons_zero, List.set_cons_succ, List.getElem_toArray, List.getElem_cons_succ, List.getElem_cons_zero])
        refine wpAnyH_take (i := 4) (v := ?_) rfl (by kernel_rfl) (by kernel_rfl) (by kernel_rfl) (fun _ _ _ h => h) (Or.inl ⟨by rfl, ?_⟩) (by assumption) ?_
        rotate_left
        · intro w' hSw; (try dsimp only at hSw); go_simp; (try with_reducible rfl)
        (try simp only [Act.put, List.setIfInBounds_toArray, List.set_cons_zero, List.set_cons_succ, List.getElem_toArray, List.getElem_cons_succ, List.getElem_cons_zero])
        refine wpAnyH_take (i := 5) (v := ?_) rfl (by kernel_rfl) (by kernel_rfl) (by kernel_rfl) (fun _ _ _ h => h) (Or.inl ⟨by rfl, ?_⟩) (by assumption) ?_
        rotate_left
        · intro w' hSw; (try dsimp only at hSw); go_simp; (try with_reducible rfl)
        (try simp only [Act.put, List.setIfInBounds_toArray, List.set_cons_zero, List.set_cons_succ, List.getElem_toArray, List.getElem_cons_succ, List.getElem_cons_zero])
        refine wpAnyH_take (i := 7) (v := ?_) rfl (by kernel_rfl) (by kernel_rfl) (by kernel_rfl) (fun _ _ _ h => h) (Or.inl ⟨by rfl, ?_⟩) (by assumption) ?_
        rotate_left
        · intro w' hSw; (try dsimp only at hSw); go_simp; (try with_reducible rfl)
        (try simp only [Act.put, List.setIfInBounds_toArray, List.set_cons_zero, List.set_cons_succ, List.getElem_toArray, List.getElem_cons_succ, List.getElem_cons_zero])
        refine wpAnyH_take (i := 8) (v := ?_) rfl (by kernel_rfl) (by kernel_rfl) (by kernel_rfl) (fun _ _ _ h => h) (Or.inl ⟨by rfl, ?_⟩) (by assumption) ?_
        rotate_left
        · intro w' hSw; (try dsimp only at hSw); go_simp; (try with_reducible rfl)
        (try simp only [Act.put, List.setIfInBounds_toArray, List.set_cons_zero, List.set_cons_succ, List.getElem_toArray, List.getElem_cons_succ, List.getElem_cons_zero])
        refine wpAnyH_take (i := 9) (v := ?_) rfl (by kernel_rfl) (by kernel_rfl) (by kernel_rfl) (fun _ _ _ h => h) (Or.inl ⟨by rfl, ?_⟩) (by assumption) ?_
        rotate_left
        · intro w' hSw; (try dsimp only at hSw); go_simp; (try with_reducible rfl)
        (try simp only [Act.put, List.setIfInBounds_toArray, List.set_cons_zero, List.set_cons_succ, List.getElem_toArray, List.getElem_cons_succ, List.getElem_cons_zero])
        refine wpAnyH_ready (rs := [6]) (by kernel_rfl) (by simp) ?_
        refine AllReadyH.cons rfl (fun K hK => ?_) AllReadyH.nil
        go_simp
        (go_at_call 15; refine (HKN.out _ (HVV6.out.belowW (show Below w6.heap.size w6 _ from (by (repeat' (first | (with_reducible exact Below.refl _ _) | (with_reducible assumption) | (with_reducible refine Below.trans ?_ (Below.mono (by with_reducible assumption) ?_)) | (with_reducible refine Below.alloc ?_ ?_ _) | (with_reducible refine Below.setCell ?_ ?_ _) | (with_reducible refine below_drewN ?_ _) | (with_reducible refine Below.drew ?_) | go_size)))))).mono ?_; rintro e w7 ⟨rfl, hb7⟩; have HX7 : Below w6.heap.size w6 w7 := Below.trans (show Below w6.heap.size w6 _ from (by (repeat' (first | (with_reducible exact Below.refl _ _) | (with_reducible assumption) | (with_reducible refine Below.trans ?_ (Below.mono (by with_reducible assumption) ?_)) | (with_reducible refine Below.alloc ?_ ?_ _) | (with_reducible refine Below.setCell ?_ ?_ _) | (with_reducible refine below_drewN ?_ _) | (with_reducible refine Below.drew ?_) | go_size)))) (hb7.mono (Below.size (show Below w6.heap.size w6 _ from (by (repeat' (first | (with_reducible exact Below.refl _ _) | (with_reducible assumption) | (with_reducible refine Below.trans ?_ (Below.mono (by with_reducible assumption) ?_)) | (with_reducible refine Below.alloc ?_ ?_ _) | (with_reducible refine Below.setCell ?_ ?_ _) | (with_reducible refine below_drewN ?_ _) | (with_reducible refine Below.drew ?_) | go_size)))))); have c7 := (HX7.cell (p := ⟨wr.heap.size, 1, none⟩) l6).trans e1)
        (try dsimp only)
        refine hK.out _ _ ?_ (fun hHeld => ?_)
        · exact c7
        clear hK K
        (try simp only [Act.put, List.setIfInBounds_toArray, List.set_cons_zero, List.set_cons_succ, List.getElem_toArray, List.getElem_cons_succ, List.getElem_cons_zero])
        refine wpAnyH_ready (rs := [10]) (by kernel_rfl) (by simp) ?_
        refine AllReadyH.cons rfl (fun K hK => ?_) AllReadyH.nil
        go_simp
        (go_at_call 16; refine (HOF.out _ (HVX6.out.belowW (show Below w6.heap.size w6 _ from (by (repeat' (first | (with_reducible exact Below.refl _ _) | (with_reducible assumption) | (with_reducible refine Below.trans ?_ (Below.mono (by with_reducible assumption) ?_)) | (with_reducible refine Below.alloc ?_ ?_ _) | (with_reducible refine Below.setCell ?_ ?_ _) | (with_reducible refine below_drewN ?_ _) | (with_reducible refine Below.drew ?_) | go_size)))))).mono ?_; rintro e w8 ⟨rfl, hb8⟩; have HX8 : Below w6.heap.size w6 w8 := Below.trans (show Below w6.heap.size w6 _ from (by (repeat' (first | (with_reducible exact Below.refl _ _) | (with_reducible assumption) | (with_reducible refine Below.trans ?_ (Below.mono (by with_reducible assumption) ?_)) | (with_reducible refine Below.alloc ?_ ?_ _) | (with_reducible refine Below.setCell ?_ ?_ _) | (with_reducible refine below_drewN ?_ _) | (with_reducible refine Below.drew ?_) | go_size)))) (hb8.mono (Below.size (show Below w6.heap.size w6 _ from (by (repeat' (first | (with_reducible exact Below.refl _ _) | (with_reducible assumption) | (with_reducible refine Below.trans ?_ (Below.mono (by with_reducible assumption) ?_)) | (with_reducible refine Below.alloc ?_ ?_ _) | (with_reducible refine Below.setCell ?_ ?_ _) | (with_reducible refine below_drewN ?_ _) | (with_reducible refine Below.drew ?_) | go_size)))))); have c8 := (HX8.cell (p := ⟨wr.heap.size, 1, none⟩) l6).trans e1)
        (try dsimp only)
        refine hK.out _ _ ?_ (fun hHeld => ?_)
        · exact c8
        clear hK K
        (try simp only [Act.put, List.setIfInBounds_toArray, List.set_cons_zero, List.set_cons_succ, List.getElem_toArray, List.getElem_cons_succ, List.getElem_cons_zero])
        refine wpAnyH_take (i := 11) (v := ?_) rfl (by kernel_rfl) (by kernel_rfl) (by kernel_rfl) (fun _ _ _ h => h) (Or.inl ⟨by rfl, ?_⟩) (by assumption) ?_
        rotate_left
        · intro w' hSw; (try dsimp only at hSw); go_simp; (try with_reducible rfl)
        (try simp only [Act.put, List.setIfInBounds_toArray, List.set_cons_zero, List.set_cons_succ, List.getElem_toArray, List.getElem_cons_succ, List.getElem_cons_zero])
        refine wpAnyH_take (i := 12) (v := ?_) rfl (by kernel_rfl) (by kernel_rfl) (by kernel_rfl) (fun _ _ _ h => h) (Or.inl ⟨by rfl, ?_⟩) (by assumption) ?_
        rotate_left
        · intro w' hSw; (try dsimp only at hSw); go_simp; (try with_reducible rfl)
        (try simp only [Act.put, List.setIfInBounds_toArray, List.set_cons_zero, List.set_cons_succ, List.getElem_toArray, List.getElem_cons_succ, List.getElem_cons_zero])
        refine wpAnyH_take (i := 13) (v := ?_) rfl (by kernel_rfl) (by kernel_rfl) (by kernel_rfl) (fun _ _ _ h => h) (Or.inl ⟨by rfl, ?_⟩) (by assumption) ?_
        rotate_left
        · intro w' hSw; (try dsimp only at hSw); go_simp; (try with_reducible rfl)
        (try simp only [Act.put, List.setIfInBounds_toArray, List.set_cons_zero, List.set_cons_succ, List.getElem_toArray, List.getElem_cons_succ, List.getElem_cons_zero])
        refine wpAnyH_take (i := 14) (v := ?_) rfl (by kernel_rfl) (by kernel_rfl) (by kernel_rfl) (fun _ _ _ h => h) (Or.inl ⟨by rfl, ?_⟩) (by assumption) ?_
        rotate_left
        · intro w' hSw; (try dsimp only at hSw); go_simp; (try with_reducible rfl)
        (try simp only [Act.put, List.setIfInBounds_toArray, List.set_cons_zero, List.set_cons_succ, List.getElem_toArray, List.getElem_cons_succ, List.getElem_cons_zero])
        refine wpAnyH_take (i := 16) (v := ?_) rfl (by kernel_rfl) (by kernel_rfl) (by kernel_rfl) (fun _ _ _ h => h) (Or.inl ⟨by rfl, ?_⟩) (by assumption) ?_
        rotate_left
        · intro w' hSw; (try dsimp only at hSw); go_simp; (try with_reducible rfl)
        (try simp only [Act.put, List.setIfInBounds_toArray, List.set_cons_zero, List.set_cons_succ, List.getElem_toArray, List.getElem_cons_succ, List.getElem_cons_zero])
        refine wpAnyH_ready (rs := [15]) (by kernel_rfl) (by simp) ?_
        refine AllReadyH.cons rfl (fun K hK => ?_) AllReadyH.nil
        go_simp
        (go_at_call 17; refine (HST.out _ (HVV6.out.belowW (show Below w6.heap.size w6 _ from (by (repeat' (first | (with_reducible exact Below.refl _ _) | (with_reducible assumption) | (with_reducible refine Below.trans ?_ (Below.mono (by with_reducible assumption) ?_)) | (with_reducible refine Below.alloc ?_ ?_ _) | (with_reducible refine Below.setCell ?_ ?_ _) | (with_reducible refine below_drewN ?_ _) | (with_reducible refine Below.drew ?_) | go_size)))))).mono ?_; rintro e w9 ⟨rfl, hb9⟩; have HX9 : Below w6.heap.size w6 w9 := Below.trans (show Below w6.heap.size w6 _ from (by (repeat' (first | (with_reducible exact Below.refl _ _) | (with_reducible assumption) | (with_reducible refine Below.trans ?_ (Below.mono (by with_reducible assumption) ?_)) | (with_reducible refine Below.alloc ?_ ?_ _) | (with_reducible refine Below.setCell ?_ ?_ _) | (with_reducible refine below_drewN ?_ _) | (with_reducible refine Below.drew ?_) | go_size)))) (hb9.mono (Below.size (show Below w6.heap.size w6 _ from (by (repeat' (first | (with_reducible exact Below.refl _ _) | (with_reducible assumption) | (with_reducible refine Below.trans ?_ (Below.mono (by with_reducible assumption) ?_)) | (with_reducible refine Below.alloc ?_ ?_ _) | (with_reducible refine Below.setCell ?_ ?_ _) | (with_reducible refine below_drewN ?_ _) | (with_reducible refine Below.drew ?_) | go_size)))))); have c9 := (HX9.cell (p := ⟨wr.heap.size, 1, none⟩) l6).trans e1)
        (try dsimp only)
        refine hK.out _ _ ?_ (fun hHeld => ?_)
        · exact c9
        clear hK K
        (try simp only [Act.put, List.setIfInBounds_toArray, List.set_cons_zero, List.set_cons_succ, List.getElem_toArray, List.getElem_cons_succ, List.getElem_cons_zero])
        refine wpAnyH_ready (rs := [17]) (by kernel_rfl) (by simp) ?_
        refine AllReadyH.cons rfl (fun K hK => ?_) AllReadyH.nil
        go_simp
        (go_at_call 18; refine (HRS.out _ (HVX6.out.belowW (show Below w6.heap.size w6 _ from (by (repeat' (first | (with_reducible exact Below.refl _ _) | (with_reducible assumption) | (with_reducible refine Below.trans ?_ (Below.mono (by with_reducible assumption) ?_)) | (with_reducible refine Below.alloc ?_ ?_ _) | (with_reducible refine Below.setCell ?_ ?_ _) | (with_reducible refine below_drewN ?_ _) | (with_reducible refine Below.drew ?_) | go_size)))))).mono ?_; rintro e w10 ⟨rfl, hb10⟩; have HX10 : Below w6.heap.size w6 w10 := Below.trans (show Below w6.heap.size w6 _ from (by (repeat' (first | (with_reducible exact Below.refl _ _) | (with_reducible assumption) | (with_reducible refine Below.trans ?_ (Below.mono (by with_reducible assumption) ?_)) | (with_reducible refine Below.alloc ?_ ?_ _) | (with_reducible refine Below.setCell ?_ ?_ _) | (with_reducible refine below_drewN ?_ _) | (with_reducible refine Below.drew ?_) | go_size)))) (hb10.mono (Below.size (show Below w6.heap.size w6 _ from (by (repeat' (first | (with_reducible exact Below.refl _ _) | (with_reducible assumption) | (with_reducible refine Below.trans ?_ (Below.mono (by with_reducible assumption) ?_)) | (with_reducible refine Below.alloc ?_ ?_ _) | (with_reducible refine Below.setCell ?_ ?_ _) | (with_reducible refine below_drewN ?_ _) | (with_reducible refine Below.drew ?_) | go_size)))))); have c10 := (HX10.cell (p := ⟨wr.heap.size, 1, none⟩) l6).trans e1)
        (try dsimp only)
        refine hK.out _ _ ?_ (fun hHeld => ?_)
        · exact c10
        clear hK K
        (try simp only [Act.put, List.setIfInBounds_toArray, List.set_cons_zero, List.set_cons_succ, List.getElem_toArray, List.getElem_cons_succ, List.getElem_cons_zero])
        refine wpAnyH_take (i := 18) (v := ?_) rfl (by kernel_rfl) (by kernel_rfl) (by kernel_rfl) (fun _ _ _ h => h) (Or.inl ⟨by rfl, ?_⟩) (by assumption) ?_
        rotate_left
        · intro w' hSw; (try dsimp only at hSw); go_simp; (try with_reducible rfl)
        (try simp only [Act.put, List.setIfInBounds_toArray, List.set_cons_zero, List.set_cons_succ, List.getElem_toArray, List.getElem_cons_succ, List.getElem_cons_zero])
        refine wpAnyH_take (i := 19) (v := ?_) rfl (by kernel_rfl) (by kernel_rfl) (by kernel_rfl) (fun _ _ _ h => h) (Or.inl ⟨by rfl, ?_⟩) (by assumption) ?_
        rotate_left
        · intro w' hSw; (try dsimp only at hSw); go_simp; (try with_reducible rfl)
        (try simp only [Act.put, List.setIfInBounds_toArray, List.set_cons_zero, List.set_cons_succ, List.getElem_toArray, List.getElem_cons_succ, List.getElem_cons_zero])
        refine wpAnyH_take (i := 20) (v := ?_) rfl (by kernel_rfl) (by kernel_rfl) (by kernel_rfl) (fun _ _ _ h => h) (Or.inl ⟨by rfl, ?_⟩) (by assumption) ?_
        rotate_left
        · intro w' hSw; (try dsimp only at hSw); go_simp; (try with_reducible rfl)
        (try simp only [Act.put, List.setIfInBounds_toArray, List.set_cons_zero, List.set_cons_succ, List.getElem_toArray, List.getElem_cons_succ, List.getElem_cons_zero])
        refine wpAnyH_take (i := 21) (v := ?_) rfl (by kernel_rfl) (by kernel_rfl) (by kernel_rfl) (fun _ _ _ h => h) (Or.inl ⟨by rfl, ?_⟩) (by assumption) ?_
        rotate_left
        · intro w' hSw; (try dsimp only at hSw); go_simp; (try with_reducible rfl)
        (try simp only [Act.put, List.setIfInBounds_toArray, List.set_cons_zero, List.set_cons_succ, List.getElem_toArray, List.getElem_cons_succ, List.getElem_cons_zero])
        refine wpAnyH_take (i := 23) (v := ?_) rfl (by kernel_rfl) (by kernel_rfl) (by kernel_rfl) (fun _ _ _ h => h) (Or.inl ⟨by rfl, ?_⟩) (by assumption) ?_
        rotate_left
        · intro w' hSw; (try dsimp only at hSw); go_simp; (try with_reducible rfl)
        (try simp only [Act.put, List.setIfInBounds_toArray, List.set_cons_zero, List.set_cons_succ, List.getElem_toArray, List.getElem_cons_succ, List.getElem_cons_zero])
        refine wpAnyH_ready (rs := [22]) (by kernel_rfl) (by simp) ?_
        refine AllReadyH.cons rfl (fun K hK => ?_) AllReadyH.nil
        go_simp
        (go_at_call 19; refine (HMK.out _ (HVV6.out.belowW (show Below w6.heap.size w6 _ from (by (repeat' (first | (with_reducible exact Below.refl _ _) | (with_reducible assumption) | (with_reducible refine Below.trans ?_ (Below.mono (by with_reducible assumption) ?_)) | (with_reducible refine Below.alloc ?_ ?_ _) | (with_reducible refine Below.setCell ?_ ?_ _) | (with_reducible refine below_drewN ?_ _) | (with_reducible refine Below.drew ?_) | go_size)))))).mono ?_; rintro e w11 ⟨rfl, hb11⟩; have HX11 : Below w6.heap.size w6 w11 := Below.trans (show Below w6.heap.size w6 _ from (by (repeat' (first | (with_reducible exact Below.refl _ _) | (with_reducible assumption) | (with_reducible refine Below.trans ?_ (Below.mono (by with_reducible assumption) ?_)) | (with_reducible refine Below.alloc ?_ ?_ _) | (with_reducible refine Below.setCell ?_ ?_ _) | (with_reducible refine below_drewN ?_ _) | (with_reducible refine Below.drew ?_) | go_size)))) (hb11.mono (Below.size (show Below w6.heap.size w6 _ from (by (repeat' (first | (with_reducible exact Below.refl _ _) | (with_reducible assumption) | (with_reducible refine Below.trans ?_ (Below.mono (by with_reducible assumption) ?_)) | (with_reducible refine Below.alloc ?_ ?_ _) | (with_reducible refine Below.setCell ?_ ?_ _) | (with_reducible refine below_drewN ?_ _) | (with_reducible refine Below.drew ?_) | go_size)))))); have c11 := (HX11.cell (p := ⟨wr.heap.size, 1, none⟩) l6).trans e1)
        (try dsimp only)
        refine hK.out _ _ ?_ (fun hHeld => ?_)
        · exact c11
        clear hK K
        (try simp only [Act.put, List.setIfInBounds_toArray, List.set_cons_zero, List.set_cons_succ, List.getElem_toArray, List.getElem_cons_succ, List.getElem_cons_zero])
        refine wpAnyH_ready (rs := [24]) (by kernel_rfl) (by simp) ?_
        refine AllReadyH.cons rfl (fun K hK => ?_) AllReadyH.nil
        go_simp
        (go_at_call 20; refine (HRM.out _ (HVX6.out.belowW (show Below w6.heap.size w6 _ from (by (repeat' (first | (with_reducible exact Below.refl _ _) | (with_reducible assumption) | (with_reducible refine Below.trans ?_ (Below.mono (by with_reducible assumption) ?_)) | (with_reducible refine Below.alloc ?_ ?_ _) | (with_reducible refine Below.setCell ?_ ?_ _) | (with_reducible refine below_drewN ?_ _) | (with_reducible refine Below.drew ?_) | go_size)))))).mono ?_; rintro e w12 ⟨rfl, hb12⟩; have HX12 : Below w6.heap.size w6 w12 := Below.trans (show Below w6.heap.size w6 _ from (by (repeat' (first | (with_reducible exact Below.refl _ _) | (with_reducible assumption) | (with_reducible refine Below.trans ?_ (Below.mono (by with_reducible assumption) ?_)) | (with_reducible refine Below.alloc ?_ ?_ _) | (with_reducible refine Below.setCell ?_ ?_ _) | (with_reducible refine below_drewN ?_ _) | (with_reducible refine Below.drew ?_) | go_size)))) (hb12.mono (Below.size (show Below w6.heap.size w6 _ from (by (repeat' (first | (with_reducible exact Below.refl _ _) | (with_reducible assumption) | (with_reducible refine Below.trans ?_ (Below.mono (by with_reducible assumption) ?_)) | (with_reducible refine Below.alloc ?_ ?_ _) | (with_reducible refine Below.setCell ?_ ?_ _) | (with_reducible refine below_drewN ?_ _) | (with_reducible refine Below.drew ?_) | go_size)))))); have c12 := (HX12.cell (p := ⟨wr.heap.size, 1, none⟩) l6).trans e1)
        (try dsimp only)
        refine hK.out _ _ ?_ (fun hHeld => ?_)
        · exact c12
        clear hK K
        (try simp only [Act.put, List.setIfInBounds_toArray, List.set_cons_zero, List.set_cons_succ, List.getElem_toArray, List.getElem_cons_succ, List.getElem_cons_zero])
        refine wpAnyH_take (i := 25) (v := ?_) rfl (by kernel_rfl) (by kernel_rfl) (by kernel_rfl) (fun _ _ _ h => h) (Or.inl ⟨by rfl, ?_⟩) (by assumption) ?_
        rotate_left
        · intro w' hSw; (try dsimp only at hSw); go_simp; (try with_reducible rfl)
        (try simp only [Act.put, List.setIfInBounds_toArray, List.set_cons_zero, List.set_cons_succ, List.getElem_toArray, List.getElem_cons_succ, List.getElem_cons_zero])
        refine wpAnyH_take (i := 26) (v := ?_) rfl (by kernel_rfl) (by kernel_rfl) (by kernel_rfl) (fun _ _ _ h => h) (Or.inl ⟨by rfl, ?_⟩) (by assumption) ?_
        rotate_left
        · intro w' hSw; (try dsimp only at hSw); go_simp; (try with_reducible rfl)
        (try simp only [Act.put, List.setIfInBounds_toArray, List.set_cons_zero, List.set_cons_succ, List.getElem_toArray, List.getElem_cons_succ, List.getElem_cons_zero])
        refine wpAnyH_done (by kernel_rfl) ?_ _
        have VV12 := HVV6.out.belowW HX12
        have VX12 := HVX6.out.belowW HX12
        have IS12 := IS6.below HX12 IS6.lt
        have IM12 := IM6.below HX12 IM6.lt
        have HB12 := HB6.trans (HX12.mono HB6.size)
        have HVV := Lib.hid VV12
        have HVX := Lib.hid VX12
        have HIS := Lib.hid IS12
        have HIM := Lib.hid IM12
        have z12 := HB12.size
        have ls := IS12.lt
        have lm := IM12.lt
        have i0 := IS12.c0
        have i1 := IS12.c1
        have i2 := IM12.c0
        have i3 := IM12.c1
        clear hb7 hb8 hb9 hb10 hb11 hb12 HX6 HX7 HX8 HX9 HX10 HX11 HX12 c7 c8 c9 c10 c11 c12 VV12 VX12 IS12 IM12 IS6 IM6 HVV6 HVX6 e1 l6 HB6 z6
        have HX12 : Below w12.heap.size w12 w12 := Below.refl _ _
        go_wp2_with fail
        refine wp_region_held_drew (S := (fun w' => w'.cell? ⟨sb, 0, none⟩ = some (.int .i64 o1) ∧ w'.cell? ⟨sb, 1, none⟩ = some (.int .i64 o2) ∧ w'.cell? ⟨sb + 1, 0, none⟩ = some (.int .i64 f1) ∧ w'.cell? ⟨sb + 1, 1, none⟩ = some (.int .i64 f2))) (by kernel_rfl) ?_ (fun hHeld => ?_)
        · exact ⟨i0, i1, i2, i3⟩
        refine wpAnyH_take (i := 0) (v := ?_) rfl (by kernel_rfl) (by kernel_rfl) (by kernel_rfl) (fun _ _ _ h => h) (Or.inl ⟨by rfl, ?_⟩) (by assumption) ?_
        rotate_left
        · intro w' hSw; (try dsimp only at hSw); go_simp; (try with_reducible rfl)
        (try simp only [Act.put, List.setIfInBounds_toArray, List.set_cons_zero, List.set_cons_succ, List.getElem_toArray, List.getElem_cons_succ, List.getElem_cons_zero])
        refine wpAnyH_take (i := 2) (v := ?_) rfl (by kernel_rfl) (by kernel_rfl) (by kernel_rfl) (fun _ _ _ h => h) (Or.inl ⟨by rfl, ?_⟩) (by assumption) ?_
        rotate_left
        · intro w' hSw; (try dsimp only at hSw); go_simp; (try with_reducible rfl)
        (try simp only [Act.put, List.setIfInBounds_toArray, List.set_cons_zero, List.set_cons_succ, List.getElem_toArray, List.getElem_cons_succ, List.getElem_cons_zero])
        refine wpAnyH_ready (rs := [1]) (by kernel_rfl) (by simp) ?_
        refine AllReadyH.cons rfl (fun K hK => ?_) AllReadyH.nil
        go_simp
        (go_at_call 17; refine (HST.out _ (HVV.out.belowW (show Below w12.heap.size w12 _ from (by (repeat' (first | (with_reducible exact Below.refl _ _) | (with_reducible assumption) | (with_reducible refine Below.trans ?_ (Below.mono (by with_reducible assumption) ?_)) | (with_reducible refine Below.alloc ?_ ?_ _) | (with_reducible refine Below.setCell ?_ ?_ _) | (with_reducible refine below_drewN ?_ _) | (with_reducible refine Below.drew ?_) | go_size)))))).mono ?_; rintro e w13 ⟨rfl, hb13⟩; have HX13 : Below w12.heap.size w12 w13 := Below.trans (show Below w12.heap.size w12 _ from (by (repeat' (first | (with_reducible exact Below.refl _ _) | (with_reducible assumption) | (with_reducible refine Below.trans ?_ (Below.mono (by with_reducible assumption) ?_)) | (with_reducible refine Below.alloc ?_ ?_ _) | (with_reducible refine Below.setCell ?_ ?_ _) | (with_reducible refine below_drewN ?_ _) | (with_reducible refine Below.drew ?_) | go_size)))) (hb13.mono (Below.size (show Below w12.heap.size w12 _ from (by (repeat' (first | (with_reducible exact Below.refl _ _) | (with_reducible assumption) | (with_reducible refine Below.trans ?_ (Below.mono (by with_reducible assumption) ?_)) | (with_reducible refine Below.alloc ?_ ?_ _) | (with_reducible refine Below.setCell ?_ ?_ _) | (with_reducible refine below_drewN ?_ _) | (with_reducible refine Below.drew ?_) | go_size)))))); have c13 := (HX13.cell (p := ⟨sb, 0, none⟩) ls).trans i0; have d13' := (HX13.cell (p := ⟨sb, 1, none⟩) ls).trans i1; have e13' := (HX13.cell (p := ⟨sb + 1, 0, none⟩) lm).trans i2; have f13' := (HX13.cell (p := ⟨sb + 1, 1, none⟩) lm).trans i3)
        (try dsimp only)
        refine hK.out _ _ ?_ (fun hHeld => ?_)
        · exact ⟨c13, d13', e13', f13'⟩
        clear hK K
        (try simp only [Act.put, List.setIfInBounds_toArray, List.set_cons_zero, List.set_cons_succ, List.getElem_toArray, List.getElem_cons_succ, List.getElem_cons_zero])
        refine wpAnyH_ready (rs := [3]) (by kernel_rfl) (by simp) ?_
        refine AllReadyH.cons rfl (fun K hK => ?_) AllReadyH.nil
        go_simp
        (go_at_call 21; refine (ref10_compare _ _ _ _ _).mono ?_; rintro e w14 ⟨rfl, hb14⟩; have HX14 : Below w12.heap.size w12 w14 := Below.trans (show Below w12.heap.size w12 _ from (by (repeat' (first | (with_reducible exact Below.refl _ _) | (with_reducible assumption) | (with_reducible refine Below.trans ?_ (Below.mono (by with_reducible assumption) ?_)) | (with_reducible refine Below.alloc ?_ ?_ _) | (with_reducible refine Below.setCell ?_ ?_ _) | (with_reducible refine below_drewN ?_ _) | (with_reducible refine Below.drew ?_) | go_size)))) (hb14.mono (Below.size (show Below w12.heap.size w12 _ from (by (repeat' (first | (with_reducible exact Below.refl _ _) | (with_reducible assumption) | (with_reducible refine Below.trans ?_ (Below.mono (by with_reducible assumption) ?_)) | (with_reducible refine Below.alloc ?_ ?_ _) | (with_reducible refine Below.setCell ?_ ?_ _) | (with_reducible refine below_drewN ?_ _) | (with_reducible refine Below.drew ?_) | go_size)))))); have c14 := (HX14.cell (p := ⟨sb, 0, none⟩) ls).trans i0; have d14' := (HX14.cell (p := ⟨sb, 1, none⟩) ls).trans i1; have e14' := (HX14.cell (p := ⟨sb + 1, 0, none⟩) lm).trans i2; have f14' := (HX14.cell (p := ⟨sb + 1, 1, none⟩) lm).trans i3)
        (try dsimp only)
        refine hK.out _ _ ?_ (fun hHeld => ?_)
        · exact ⟨c14, d14', e14', f14'⟩
        clear hK K
        (try simp only [Act.put, List.setIfInBounds_toArray, List.set_cons_zero, List.set_cons_succ, List.getElem_toArray, List.getElem_cons_succ, List.getElem_cons_zero])
        refine wpAnyH_take (i := 4) (v := ?_) rfl (by kernel_rfl) (by kernel_rfl) (by kernel_rfl) (fun _ _ _ h => h) (Or.inl ⟨by rfl, ?_⟩) (by assumption) ?_
        rotate_left
        · intro w' hSw; (try dsimp only at hSw); go_simp; (try with_reducible rfl)
        (try simp only [Act.put, List.setIfInBounds_toArray, List.set_cons_zero, List.set_cons_succ, List.getElem_toArray, List.getElem_cons_succ, List.getElem_cons_zero])
        refine wpAnyH_take (i := 5) (v := ?_) rfl (by kernel_rfl) (by kernel_rfl) (by kernel_rfl) (fun _ _ _ h => h) (Or.inl ⟨by rfl, ?_⟩) (by assumption) ?_
        rotate_left
        · intro w' hSw; (try dsimp only at hSw); go_simp; (try with_reducible rfl)
        (try simp only [Act.put, List.setIfInBounds_toArray, List.set_cons_zero, List.set_cons_succ, List.getElem_toArray, List.getElem_cons_succ, List.getElem_cons_zero])
        refine wpAnyH_take (i := 6) (v := ?_) rfl (by kernel_rfl) (by kernel_rfl) (by kernel_rfl) (fun _ _ _ h => h) (Or.inl ⟨by rfl, ?_⟩) (by assumption) ?_
        rotate_left
        · intro w' hSw; (try dsimp only at hSw); go_simp; (try with_reducible rfl)
        (try simp only [Act.put, List.setIfInBounds_toArray, List.set_cons_zero, List.set_cons_succ, List.getElem_toArray, List.getElem_cons_succ, List.getElem_cons_zero])
        refine wpAnyH_take (i := 8) (v := ?_) rfl (by kernel_rfl) (by kernel_rfl) (by kernel_rfl) (fun _ _ _ h => h) (Or.inl ⟨by rfl, ?_⟩) (by assumption) ?_
        rotate_left
        · intro w' hSw; (try dsimp only at hSw); go_simp; (try with_reducible rfl)
        (try simp only [Act.put, List.setIfInBounds_toArray, List.set_cons_zero, List.set_cons_succ, List.getElem_toArray, List.getElem_cons_succ, List.getElem_cons_zero])
        refine wpAnyH_ready (rs := [7]) (by kernel_rfl) (by simp) ?_
        refine AllReadyH.cons rfl (fun K hK => ?_) AllReadyH.nil
        go_simp
        (go_at_call 19; refine (HMK.out _ (HVV.out.belowW (show Below w12.heap.size w12 _ from (by (repeat' (first | (with_reducible exact Below.refl _ _) | (with_reducible assumption) | (with_reducible refine Below.trans ?_ (Below.mono (by with_reducible assumption) ?_)) | (with_reducible refine Below.alloc ?_ ?_ _) | (with_reducible refine Below.setCell ?_ ?_ _) | (with_reducible refine below_drewN ?_ _) | (with_reducible refine Below.drew ?_) | go_size)))))).mono ?_; rintro e w15 ⟨rfl, hb15⟩; have HX15 : Below w12.heap.size w12 w15 := Below.trans (show Below w12.heap.size w12 _ from (by (repeat' (first | (with_reducible exact Below.refl _ _) | (with_reducible assumption) | (with_reducible refine Below.trans ?_ (Below.mono (by with_reducible assumption) ?_)) | (with_reducible refine Below.alloc ?_ ?_ _) | (with_reducible refine Below.setCell ?_ ?_ _) | (with_reducible refine below_drewN ?_ _) | (with_reducible refine Below.drew ?_) | go_size)))) (hb15.mono (Below.size (show Below w12.heap.size w12 _ from (by (repeat' (first | (with_reducible exact Below.refl _ _) | (with_reducible assumption) | (with_reducible refine Below.trans ?_ (Below.mono (by with_reducible assumption) ?_)) | (with_reducible refine Below.alloc ?_ ?_ _) | (with_reducible refine Below.setCell ?_ ?_ _) | (with_reducible refine below_drewN ?_ _) | (with_reducible refine Below.drew ?_) | go_size)))))); have c15 := (HX15.cell (p := ⟨sb, 0, none⟩) ls).trans i0; have d15' := (HX15.cell (p := ⟨sb, 1, none⟩) ls).trans i1; have e15' := (HX15.cell (p := ⟨sb + 1, 0, none⟩) lm).trans i2; have f15' := (HX15.cell (p := ⟨sb + 1, 1, none⟩) lm).trans i3)
        (try dsimp only)
        refine hK.out _ _ ?_ (fun hHeld => ?_)
        · exact ⟨c15, d15', e15', f15'⟩
        clear hK K
        (try simp only [Act.put, List.setIfInBounds_toArray, List.set_cons_zero, List.set_cons_succ, List.getElem_toArray, List.getElem_cons_succ, List.getElem_cons_zero])
        refine wpAnyH_ready (rs := [9]) (by kernel_rfl) (by simp) ?_
        refine AllReadyH.cons rfl (fun K hK => ?_) AllReadyH.nil
        go_simp
        (go_at_call 21; refine (ref10_compare _ _ _ _ _).mono ?_; rintro e w16 ⟨rfl, hb16⟩; have HX16 : Below w12.heap.size w12 w16 := Below.trans (show Below w12.heap.size w12 _ from (by (repeat' (first | (with_reducible exact Below.refl _ _) | (with_reducible assumption) | (with_reducible refine Below.trans ?_ (Below.mono (by with_reducible assumption) ?_)) | (with_reducible refine Below.alloc ?_ ?_ _) | (with_reducible refine Below.setCell ?_ ?_ _) | (with_reducible refine below_drewN ?_ _) | (with_reducible refine Below.drew ?_) | go_size)))) (hb16.mono (Below.size (show Below w12.heap.size w12 _ from (by (repeat' (first | (with_reducible exact Below.refl _ _) | (with_reducible assumption) | (with_reducible refine Below.trans ?_ (Below.mono (by with_reducible assumption) ?_)) | (with_reducible refine Below.alloc ?_ ?_ _) | (with_reducible refine Below.setCell ?_ ?_ _) | (with_reducible refine below_drewN ?_ _) | (with_reducible refine Below.drew ?_) | go_size)))))); have c16 := (HX16.cell (p := ⟨sb, 0, none⟩) ls).trans i0; have d16' := (HX16.cell (p := ⟨sb, 1, none⟩) ls).trans i1; have e16' := (HX16.cell (p := ⟨sb + 1, 0, none⟩) lm).trans i2; have f16' := (HX16.cell (p := ⟨sb + 1, 1, none⟩) lm).trans i3)
        (try dsimp only)
        refine hK.out _ _ ?_ (fun hHeld => ?_)
        · exact ⟨c16, d16', e16', f16'⟩
        clear hK K
        (try simp only [Act.put, List.setIfInBounds_toArray, List.set_cons_zero, List.set_cons_succ, List.getElem_toArray, List.getElem_cons_succ, List.getElem_cons_zero])
        refine wpAnyH_take (i := 10) (v := ?_) rfl (by kernel_rfl) (by kernel_rfl) (by kernel_rfl) (fun _ _ _ h => h) (Or.inl ⟨by rfl, ?_⟩) (by assumption) ?_
        rotate_left
        · intro w' hSw; (try dsimp only at hSw); go_simp; (try with_reducible rfl)
        (try simp only [Act.put, List.setIfInBounds_toArray, List.set_cons_zero, List.set_cons_succ, List.getElem_toArray, List.getElem_cons_succ, List.getElem_cons_zero])
        refine wpAnyH_take (i := 11) (v := ?_) rfl (by kernel_rfl) (by kernel_rfl) (by kernel_rfl) (fun _ _ _ h => h) (Or.inl ⟨by rfl, ?_⟩) (by assumption) ?_
        rotate_left
        · intro w' hSw; (try dsimp only at hSw); go_simp; (try with_reducible rfl)
        (try simp only [Act.put, List.setIfInBounds_toArray, List.set_cons_zero, List.set_cons_succ, List.getElem_toArray, List.getElem_cons_succ, List.getElem_cons_zero])
        refine wpAnyH_done (by kernel_rfl) ?_ _
        have HXE : Below w12.heap.size w12 w16 := HX16
        clear hb13 hb14 hb15 hb16 HX12 HX13 HX14 HX15 HX16 c13 c14 c15 c16 d13' d14' d15' d16' e13' e14' e15' e16' f13' f14' f15' f16' i0 i1 i2 i3
        go_wp2_with fail
        refine (HST.out _ (HVV.out.belowW HXE)).mono ?_; rintro e w17 ⟨rfl, hb17⟩
        have HX17 := HXE.trans (hb17.mono HXE.size)
        clear hb17
        go_wp2_with fail
        refine (HMK.out _ (HVV.out.belowW HX17)).mono ?_; rintro e w18 ⟨rfl, hb18⟩
        have HX18 := HX17.trans (hb18.mono HX17.size)
        have VV18 := HVV.out.belowW HX18
        have VX18 := HVX.out.belowW HX18
        have IS18 := HIS.out.below HX18 HIS.out.lt
        have IM18 := HIM.out.below HX18 HIM.out.lt
        have HB18 := HB12.trans (HX18.mono HB12.size)
        clear hb18 HXE HX17 HX18 HVV HVX HIS HIM
        have IS18' := IS18
        have IM18' := IM18
        obtain ⟨y0, y1, y2, y3, y4⟩ := IS18
        obtain ⟨u0, u1, u2, u3, u4⟩ := IM18
        have nsm : sb ≠ sb + 1 := by omega
        go_wp2
        go_roundw
        case rel =>
          refine ⟨k + 1, P1, Q1, P', Q', by omega, by go_num, ?_, ?_, ?_, ?_, ?_⟩
          · exact VecAt.set_out (VecAt.set_out (VecAt.set_out (VecAt.set_out VV18 sb_nb sb_nk sb_nf) sb_nb sb_nk sb_nf) sc_nb sc_nk sc_nf) sc_nb sc_nk sc_nf
          · exact VecAt.set_out (VecAt.set_out (VecAt.set_out (VecAt.set_out VX18 sx_nb sx_nk sx_nf) sx_nb sx_nk sx_nf) sy_nb sy_nk sy_nf) sy_nb sy_nk sy_nf
          · rw [HM1.out]; exact ((((IS18'.set0 _).set1 _).other (by simp) _).other (by simp) _)
          · rw [HM2.out]; exact ((((IM18'.other (by simp) _).other (by simp) _).set0 _).set1 _)
          · (repeat' (first | (with_reducible exact Below.refl _ _) | (with_reducible assumption) | (with_reducible refine Below.trans ?_ (Below.mono (by with_reducible assumption) ?_)) | (with_reducible refine Below.alloc ?_ ?_ _) | (with_reducible refine Below.setCell ?_ ?_ _) | (with_reducible refine below_drewN ?_ _) | (with_reducible refine Below.drew ?_) | go_size))
        case measure => simp [intOf]; omega
    · obtain rfl : k = L := by omega
      have z3 := HB.size
      go_wp2_with (go_at_call 10; refine (known20 _).mono ?_; rintro e w5 ⟨rfl, hb5⟩; obtain ⟨hc5, hf5⟩ := bcell hb5; have hz5 := hb5.size; (try simp only [World.size_alloc, World.size_setCell, World.heap_drewN] at hb5 hc5 hf5 hz5); (try have ha05 : w.heap.size < w5.heap.size := by omega); (try have ha15 : w.heap.size + 1 < w5.heap.size := by omega); (try have ha25 : w.heap.size + 2 < w5.heap.size := by omega); (try have hal5 : w.heap.size ≤ w5.heap.size := by omega); (try have ham5 : w.heap.size < w5.heap.size + 2 := by omega); (try have hb05 : wr.heap.size < w5.heap.size := by omega); (try have hb15 : wr.heap.size + 1 < w5.heap.size := by omega); (try have hb25 : wr.heap.size + 2 < w5.heap.size := by omega); (try have hbl5 : wr.heap.size ≤ w5.heap.size := by omega); (try have hbm5 : wr.heap.size < w5.heap.size + 2 := by omega))
      go_ret
      go_light
      exact ⟨rfl, by (repeat' (first | (with_reducible exact Below.refl _ _) | (with_reducible assumption) | (with_reducible refine Below.trans ?_ (Below.mono (by with_reducible assumption) ?_)) | (with_reducible refine Below.alloc ?_ ?_ _) | (with_reducible refine Below.setCell ?_ ?_ _) | (with_reducible refine below_drewN ?_ _) | (with_reducible refine Below.drew ?_) | go_size))⟩
set_option maxRecDepth 100000 in
theorem vecPlays_lifted (os : Os) (started : os.Started) (H : Type) (enc : TypeId × Value → H) :
    ReturnsInHanded {} Try.checked os 3 .any (Rows.vecPlaysSpec.pre6 enc Try.prog Try.f3 Rows.vecPlaysRow.domain false) (Rows.vecPlaysSpec.post enc Try.prog Try.f3 false true false false) := by
  refine returnsInHanded_of_change_sized (C := Try.checked) law_own started (by kernel_rfl) Try.func3
    (ChangeSpec.witness6 (enc := enc) (C := Try.checked) false ⟨#[], #[.int .i64 0, .slice none 0 0], []⟩ 8 (by kernel_rfl) (by kernel_rfl) (by kernel_rfl) (by kernel_rfl)) ?_
  intro W base args ds gs before hval0 hW hcnd hsz0 _
  have hval : ∀ (j : Nat) t v, Try.f3.params[j]? = some t → args[j]? = some v → Value.okWide Try.prog W .any base t v := hval0
  have hsz : (DataW.weightsEach Try.prog (Try.f3.params.toList ++ Rows.vecPlaysSpec.plain.varTypes Try.prog) (ds ++ gs)).all (· ≤ reachBytes) = true := hsz0
  have hW' := hW
  obtain ⟨p, q, hA0, hV, rfl, hfz, hnd⟩ := hW
  have hA : DataW.TrodAll enc Try.prog W 0 (fun _ => true) true Try.f3.params.toList args.toList ds p := hA0
  rw [Try.params3] at hA hval hsz
  have hsame : (Rows.vecPlaysSpec.fn H (ds ++ gs)).results = [.lit (.bool true)] ∧ (Rows.vecPlaysSpec.fn H (ds ++ gs)).args = ds ∧ (Rows.vecPlaysSpec.fn H (ds ++ gs)).vars = [] → ∀ W', Below W.heap.size W W' → Rows.vecPlaysSpec.post enc Try.prog Try.f3 false true false false W args (.bool true) W' :=
    fun h W' hb => law_post (tb := 4) hW' law_laid (by kernel_rfl) rfl Try.underlying4 h.1 h.2.1 rfl h.2.2 hb
  obtain ⟨v0, vs0, d0, ds0, p0, q0, hargs, rfl, rfl, h0, r0⟩ := trodAll_cons hA
  obtain ⟨v1, vs1, d1, ds1, p1, q1, rfl, rfl, rfl, h1, r1⟩ := trodAll_cons r0
  obtain ⟨rfl, rfl, rfl⟩ := trodAll_nil r1
  obtain rfl : args = #[v0, v1] := by cases args; simp_all
  obtain ⟨rfl, rfl⟩ := trodVars_none hV
  have hpost := hsame ⟨rfl, rfl, rfl⟩
  clear hsame hA0 hval0 hsz0
  obtain ⟨a0, rfl, rfl, rfl, wf0⟩ := open_int Try.underlying3 (hval 0 3 v0 rfl rfl) h0
  obtain ⟨A, L, c, z, rfl, hn, hz⟩ := open_flat_slice (m := 4) Try.underlying22 (by kernel_rfl) (by kernel_rfl) (by omega) (hval 1 22 v1 rfl rfl) h1
  by_cases h : 1 ≤ a0 ∧ a0 ≤ 5
  · obtain ⟨n, rfl⟩ := Int.eq_ofNat_of_zero_le (show 0 ≤ a0 from by omega)
    by_cases h' : L ≤ 300
    · exact (vecPlays_in n A L c z W hz (by omega) (by omega) h').mono fun e W' ⟨he, hb⟩ => ⟨_, he, hpost W' hb⟩
    · exact (vecPlays_long n A L c W (by omega) (by omega) (by omega)).mono fun e W' ⟨he, hb⟩ => ⟨_, he, hpost W' hb⟩
  · exact (vecPlays_out a0 A L c W (by omega)).mono fun e W' ⟨he, hb⟩ => ⟨_, he, hpost W' hb⟩
theorem vecPlays_holds : Rows.VecPlaysSaid :=
  OpenClaim.holds_of_wide 3 Try.f3 rfl rfl rfl rfl rfl rfl rfl ⟨rfl, rfl, rfl, rfl, rfl⟩ rfl rfl rfl rfl rfl (by kernel_rfl) Try.func3 (by kernel_rfl)
    (of_decide_eq_true (by kernel_rfl)) (by unfold Func.isWrapper; first | (rw [if_pos (by decide +kernel)]; kernel_rfl) | (rw [if_neg (by decide +kernel)]; exact ⟨rfl, rfl⟩))
    (fun os started H enc _ => vecPlays_lifted os started H enc)
end Go.Proofs.Ytpelglclkfabkaa
