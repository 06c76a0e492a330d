/- Stage 4: ScaleStep: a nanosecond later in UTC is a nanosecond later in TAI (written by gen/s4u.py). -/
import Derived.Test.YtklahiogcpojmaaUtc
import Derived.Test.YtklahiogcpojmaaKnown4
import Derived.Test.YtklahiogcpojmaaRef3Is
import Derived.Test.YtklahiogcpojmaaRef3Len
import Derived.Test.YtklahiogcpojmaaArgTable
import Derived.Test.YtklahiogcpojmaaLaw
set_option linter.unusedSimpArgs false
set_option linter.unusedVariables false
namespace Go.Proofs.Ytklahiogcpojmaa
open Go.ChangeShapes Go.WideShapes Go.ChangeAt Go.RowKit Go.Joins

set_option maxHeartbeats 2000000 in
theorem step_out (A : Option Addr) (n c : Nat) (x a : Int) (z : Nat → Int) (w : World) (hz : FlatAt w A 2 n z) (hn : n ≤ maxLen) (h : 200 < n ∨ (n ≤ 200 ∧ ¬ IsTab z n x) ∨ (n ≤ 200 ∧ IsTab z n x ∧ a < -4611686018427387904) ∨ (n ≤ 200 ∧ IsTab z n x ∧ 4611686018427387904 < a)) :
    Calls Try.prog 6 #[.agg #[.slice A n c, .int .i64 x], .int .i64 a] w fun e w' => e = .returned (.bool true) ∧ Below w.heap.size w w' := by
  have hud : undef = Value.tuple #[] := rfl
  have HB0 : Below w.heap.size w (w.alloc (.cells #[.slice A n c, .int .i64 x] 30)) := by (repeat' (first | (with_reducible exact Below.refl _ _) | (with_reducible assumption) | (with_reducible refine Below.trans ?_ (Below.mono (by with_reducible assumption) ?_)) | (with_reducible refine Below.alloc ?_ ?_ _) | (with_reducible refine Below.setCell ?_ ?_ _) | (with_reducible refine below_drewN ?_ _) | (with_reducible refine Below.drew ?_) | go_size))
  have HBB := Lib.hid HB0
  rcases h with h | ⟨h1, h⟩ | ⟨h1, h, h2⟩ | ⟨h1, h, h2⟩
  · have t1 : decide ((200 : Int) < (n : Int)) = true := by simp; omega
    clear h hz HB0
    go_enter Try.func6, Try.ntmps6
    go_wp2_with (go_at_call 14; refine (known4 _).mono ?_; rintro e w2 ⟨rfl, k2⟩; have HB2 := Lib.hid (HBB.out.trans (k2.mono HBB.out.size)))
    go_ret
    exact ⟨rfl, HB2.out⟩
  · have t1 : decide ((200 : Int) < (n : Int)) = false := by simp; omega
    have HI := Lib.hid (ref3_is A n c x z _ false (hz.below HB0) hn (by simp [h]))
    clear h hz HB0
    go_enter Try.func6, Try.ntmps6
    go_wp2_with (first | (go_at_call 19; refine HI.out.mono ?_; rintro e w1 ⟨rfl, k1⟩; have HB1 := Lib.hid (HBB.out.trans (k1.mono HBB.out.size))) | (go_at_call 14; refine (known4 _).mono ?_; rintro e w2 ⟨rfl, k2⟩; have HB2 := Lib.hid (HB1.out.trans (k2.mono HB1.out.size))))
    go_ret
    exact ⟨rfl, HB2.out⟩
  · have t1 : decide ((200 : Int) < (n : Int)) = false := by simp; omega
    have t2 : decide (a < -4611686018427387904) = true := by simpa using h2
    have HI := Lib.hid (ref3_is A n c x z _ true (hz.below HB0) hn (by simp [h]))
    clear h hz HB0 h2
    go_enter Try.func6, Try.ntmps6
    go_wp2_with (first | (go_at_call 19; refine HI.out.mono ?_; rintro e w1 ⟨rfl, k1⟩; have HB1 := Lib.hid (HBB.out.trans (k1.mono HBB.out.size))) | (go_at_call 14; refine (known4 _).mono ?_; rintro e w2 ⟨rfl, k2⟩; have HB2 := Lib.hid (HB1.out.trans (k2.mono HB1.out.size))))
    go_ret
    exact ⟨rfl, HB2.out⟩
  · have t1 : decide ((200 : Int) < (n : Int)) = false := by simp; omega
    have t2 : decide (a < -4611686018427387904) = false := by simp; omega
    have t3 : decide (4611686018427387904 < a) = true := by simpa using h2
    have HI := Lib.hid (ref3_is A n c x z _ true (hz.below HB0) hn (by simp [h]))
    clear h hz HB0 h2
    go_enter Try.func6, Try.ntmps6
    go_wp2_with (first | (go_at_call 19; refine HI.out.mono ?_; rintro e w1 ⟨rfl, k1⟩; have HB1 := Lib.hid (HBB.out.trans (k1.mono HBB.out.size))) | (go_at_call 14; refine (known4 _).mono ?_; rintro e w2 ⟨rfl, k2⟩; have HB2 := Lib.hid (HB1.out.trans (k2.mono HB1.out.size))))
    go_ret
    exact ⟨rfl, HB2.out⟩
set_option maxRecDepth 100000 in
set_option maxHeartbeats 8000000 in
theorem step_in (A : Option Addr) (n c : Nat) (x a : Int) (z : Nat → Int) (w : World) (hz : FlatAt w A 2 n z) (hn : n ≤ 200) (hT : IsTab z n x) (h0 : -4611686018427387904 ≤ a) (h1 : a ≤ 4611686018427387904) :
    Calls Try.prog 6 #[.agg #[.slice A n c, .int .i64 x], .int .i64 a] w fun e w' => e = .returned (.bool true) ∧ Below w.heap.size w w' := by
  have hud : undef = Value.tuple #[] := rfl
  have HB0 : Hid (Below w.heap.size w (w.alloc (.cells #[.slice A n c, .int .i64 x] 30))) := Lib.hid (by (repeat' (first | (with_reducible exact Below.refl _ _) | (with_reducible assumption) | (with_reducible refine Below.trans ?_ (Below.mono (by with_reducible assumption) ?_)) | (with_reducible refine Below.alloc ?_ ?_ _) | (with_reducible refine Below.setCell ?_ ?_ _) | (with_reducible refine below_drewN ?_ _) | (with_reducible refine Below.drew ?_) | go_size)))
  have HZ := Lib.hid (fun (W : World) (k : Below w.heap.size w W) => hz.below k)
  have HT := Lib.hid hT
  have HI := Lib.hid (ref3_is A n c x z _ true (HZ.out _ HB0.out) (by unfold maxLen; omega) (by simp [hT]))
  have c0 : (w.alloc (.cells #[.slice A n c, .int .i64 x] 30)).cell? ⟨w.heap.size, 0, none⟩ = some (.slice A n c) := by simp
  have c1 : (w.alloc (.cells #[.slice A n c, .int .i64 x] 30)).cell? ⟨w.heap.size, 1, none⟩ = some (.int .i64 x) := by simp
  have HC := Lib.hid (And.intro c0 c1)
  have t1 : decide ((200 : Int) < (n : Int)) = false := by simp; omega
  have t2 : decide (a < -4611686018427387904) = false := by simp; omega
  have t3 : decide (4611686018427387904 < a) = false := by simp; omega
  have hw1 : IntKind.i64.wrap (a + 1) = a + 1 := IntWalk.i64_in _ (by omega)
  clear hz hT c0 c1
  go_enter Try.func6, Try.ntmps6
  go_wp2_with fail
  refine HI.out.mono ?_; rintro e w1 ⟨rfl, k1⟩
  have HB1 := Lib.hid (HB0.out.trans (k1.mono HB0.out.size))
  have x0 := (k1.cell (p := ⟨w.heap.size, 0, none⟩) (by simp)).trans HC.out.1
  have x1 := (k1.cell (p := ⟨w.heap.size, 1, none⟩) (by simp)).trans HC.out.2
  have l1 : w.heap.size < w1.heap.size := by have := k1.size; simp at this; omega
  have HU := Lib.hid (scale_utc A n c x a z w1 (HZ.out _ HB1.out) HT.out (by omega) (by omega))
  have HX1 := Lib.hid (And.intro x0 x1)
  clear k1 HI HC HB0
  go_wp2_with fail
  refine HU.out.mono ?_; rintro e w2 ⟨⟨d, m, rfl, hu, hd0, hd1⟩, k2⟩
  have kA : Below w2.heap.size w2 (w2.alloc (.cells #[.int .i64 d, .int .i64 m] 32)) := (Below.refl _ _).alloc (Nat.le_refl _) _
  have k2a : Below w1.heap.size w1 (w2.alloc (.cells #[.int .i64 d, .int .i64 m] 32)) := k2.trans (kA.mono k2.size)
  have HB2 := Lib.hid (HB1.out.trans (k2a.mono HB1.out.size))
  have HU2 := Lib.hid (scale_utc A n c x (a + 1) z _ (HZ.out _ HB2.out) HT.out (by omega) (by omega))
  have HUA := Lib.hid hu
  have y0 := (k2a.cell (p := ⟨w.heap.size, 0, none⟩) l1).trans HX1.out.1
  have y1 := (k2a.cell (p := ⟨w.heap.size, 1, none⟩) l1).trans HX1.out.2
  have J2 : Ints2 (w2.alloc (.cells #[.int .i64 d, .int .i64 m] 32)) w2.heap.size d m := Ints2.new w2 d m 32
  have l2 : w.heap.size < w2.heap.size := by have := k2.size; omega
  have HX2 := Lib.hid (And.intro y0 (And.intro y1 J2))
  clear k2 kA k2a hu HU x0 x1 HX1 HB1 J2
  go_wp2_with fail
  refine HU2.out.mono ?_; rintro e w3 ⟨⟨d', m', rfl, hu', _, _⟩, k3⟩
  have kB : Below w3.heap.size w3 (w3.alloc (.cells #[.int .i64 d', .int .i64 m'] 32)) := (Below.refl _ _).alloc (Nat.le_refl _) _
  have k3a := k3.trans (kB.mono k3.size)
  have HB3 := Lib.hid (HB2.out.trans (k3a.mono HB2.out.size))
  have hlt2 : w2.heap.size < (w2.alloc (.cells #[.int .i64 d, .int .i64 m] 32)).heap.size := by simp
  have hlt1 : w.heap.size < (w2.alloc (.cells #[.int .i64 d, .int .i64 m] 32)).heap.size := by simp; omega
  have z0 := (k3a.cell (p := ⟨w.heap.size, 0, none⟩) hlt1).trans HX2.out.1
  have z1 := (k3a.cell (p := ⟨w.heap.size, 1, none⟩) hlt1).trans HX2.out.2.1
  have J3 := HX2.out.2.2.below k3a hlt2
  have I3 : Ints2 (w3.alloc (.cells #[.int .i64 d', .int .i64 m'] 32)) w3.heap.size d' m' := Ints2.new w3 d' m' 32
  have hnx := utc_next HT.out HUA.out hu'
  have HX3 := Lib.hid (And.intro z0 (And.intro z1 (And.intro J3 I3)))
  have hml := HUA.out.lo
  have hmh := HUA.out.hi
  have hob1 := offK_bd HT.out (d + 1) n (Nat.le_refl _)
  have hob0 := offK_bd HT.out d n (Nat.le_refl _)
  clear k3 kB k3a hu' HU2 y0 y1 HX2 HB2 J3 I3 hlt1 hlt2 HUA
  obtain ⟨W3, hW3⟩ : ∃ W3, w3.alloc (.cells #[.int .i64 d', .int .i64 m'] 32) = W3 := ⟨_, rfl⟩
  rw [hW3] at HB3 HX3
  have HW3 := Lib.hid hW3
  clear hW3
  generalize w2.heap.size = b1 at *
  obtain ⟨LL, hLL⟩ : ∃ LL, lenS z n d = LL := ⟨_, rfl⟩
  have hLe : (86400 + offK z (d + 1) n - offK z d n) = LL := by rw [← hLL]; rfl
  rw [hLe] at hnx hmh
  have hLb : 80000 ≤ LL ∧ LL ≤ 90000 := by omega
  have HLN := Lib.hid (fun (W : World) (k : Below w.heap.size w W) => ref3_length_yes A n c x d z W (HZ.out W k) HT.out (by omega) (by omega))
  rw [hLL] at HLN
  have e1 : IntKind.i64.wrap (m + 1) = m + 1 := IntWalk.i64_in _ (by omega)
  have e2 : IntKind.i64.wrap (LL * 1000000000) = LL * 1000000000 := IntWalk.i64_in _ (by omega)
  have e3 : IntKind.i64.wrap (d + 1) = d + 1 := IntWalk.i64_in _ (by omega)
  have HKE : Hid (∀ W, Below W3.heap.size W3 W → W.cell? ⟨w.heap.size, 0, none⟩ = some (.slice A n c) ∧ W.cell? ⟨w.heap.size, 1, none⟩ = some (.int .i64 x) ∧ W.cell? ⟨b1, 0, none⟩ = some (.int .i64 d) ∧ W.cell? ⟨b1, 1, none⟩ = some (.int .i64 m) ∧ W.cell? ⟨w3.heap.size, 0, none⟩ = some (.int .i64 d') ∧ W.cell? ⟨w3.heap.size, 1, none⟩ = some (.int .i64 m')) := Lib.hid (fun W k => by
    have q := HX3.out.2.2.1.lt
    exact ⟨(k.cell (p := ⟨w.heap.size, 0, none⟩) (by show w.heap.size < _; omega)).trans HX3.out.1, (k.cell (p := ⟨w.heap.size, 1, none⟩) (by show w.heap.size < _; omega)).trans HX3.out.2.1, (k.cell (p := ⟨b1, 0, none⟩) q).trans HX3.out.2.2.1.c0, (k.cell (p := ⟨b1, 1, none⟩) q).trans HX3.out.2.2.1.c1, (k.cell (p := ⟨w3.heap.size, 0, none⟩) HX3.out.2.2.2.lt).trans HX3.out.2.2.2.c0, (k.cell (p := ⟨w3.heap.size, 1, none⟩) HX3.out.2.2.2.lt).trans HX3.out.2.2.2.c1⟩)
  clear z0 z1 hLL hLe hob0 hob1
  by_cases hc : m + 1 < LL * 1000000000
  · have hq1 := (hnx.1 hc).1.symm
    have hq2 := (hnx.1 hc).2
    subst hq1
    subst hq2
    have t5 : decide (m + 1 < LL * 1000000000) = true := by simpa using hc
    clear hnx hc
    go_wp2_with fail
    rw [HW3.out]
    refine wp_region_held_drew (S := fun W => W.cell? ⟨w.heap.size, 0, none⟩ = some (.slice A n c) ∧ W.cell? ⟨w.heap.size, 1, none⟩ = some (.int .i64 x) ∧ W.cell? ⟨b1, 0, none⟩ = some (.int .i64 d) ∧ W.cell? ⟨b1, 1, none⟩ = some (.int .i64 m)) (by kernel_rfl) ?_ (fun hHeld => ?_)
    · exact ⟨HX3.out.1, HX3.out.2.1, HX3.out.2.2.1.c0, HX3.out.2.2.1.c1⟩
    refine wpAnyH_take (i := 0) (v := ?_) rfl (by kernel_rfl) (by kernel_rfl) (by kernel_rfl) (fun _ _ _ h => h) (Or.inl ⟨by rfl, ?_⟩) (by assumption) ?_
    rotate_left
    · intro w' hSw; (try dsimp only at hSw); go_simp; (try with_reducible rfl)
    (try simp only [Act.put, List.setIfInBounds_toArray, List.set_cons_zero, List.set_cons_succ, List.getElem_toArray, List.getElem_cons_succ, List.getElem_cons_zero])
    refine wpAnyH_take (i := 1) (v := ?_) rfl (by kernel_rfl) (by kernel_rfl) (by kernel_rfl) (fun _ _ _ h => h) (Or.inl ⟨by rfl, ?_⟩) (by assumption) ?_
    rotate_left
    · intro w' hSw; (try dsimp only at hSw); go_simp; (try with_reducible rfl)
    (try simp only [Act.put, List.setIfInBounds_toArray, List.set_cons_zero, List.set_cons_succ, List.getElem_toArray, List.getElem_cons_succ, List.getElem_cons_zero])
    refine wpAnyH_take (i := 2) (v := ?_) rfl (by kernel_rfl) (by kernel_rfl) (by kernel_rfl) (fun _ _ _ h => h) (Or.inl ⟨by rfl, ?_⟩) (by assumption) ?_
    rotate_left
    · intro w' hSw; (try dsimp only at hSw); go_simp; (try with_reducible rfl)
    (try simp only [Act.put, List.setIfInBounds_toArray, List.set_cons_zero, List.set_cons_succ, List.getElem_toArray, List.getElem_cons_succ, List.getElem_cons_zero])
    refine wpAnyH_take (i := 3) (v := ?_) rfl (by kernel_rfl) (by kernel_rfl) (by kernel_rfl) (fun _ _ _ h => h) (Or.inl ⟨by rfl, ?_⟩) (by assumption) ?_
    rotate_left
    · intro w' hSw; (try dsimp only at hSw); go_simp; (try with_reducible rfl)
    (try simp only [Act.put, List.setIfInBounds_toArray, List.set_cons_zero, List.set_cons_succ, List.getElem_toArray, List.getElem_cons_succ, List.getElem_cons_zero])
    refine wpAnyH_take (i := 4) (v := ?_) rfl (by kernel_rfl) (by kernel_rfl) (by kernel_rfl) (fun _ _ _ h => h) (Or.inl ⟨by rfl, ?_⟩) (by assumption) ?_
    rotate_left
    · intro w' hSw; (try dsimp only at hSw); go_simp; (try with_reducible rfl)
    (try simp only [Act.put, List.setIfInBounds_toArray, List.set_cons_zero, List.set_cons_succ, List.getElem_toArray, List.getElem_cons_succ, List.getElem_cons_zero])
    refine wpAnyH_take (i := 5) (v := ?_) rfl (by kernel_rfl) (by kernel_rfl) (by kernel_rfl) (fun _ _ _ h => h) (Or.inl ⟨by rfl, ?_⟩) (by assumption) ?_
    rotate_left
    · intro w' hSw; (try dsimp only at hSw); go_simp; (try with_reducible rfl)
    (try simp only [Act.put, List.setIfInBounds_toArray, List.set_cons_zero, List.set_cons_succ, List.getElem_toArray, List.getElem_cons_succ, List.getElem_cons_zero])
    refine wpAnyH_ready (rs := [6]) (by kernel_rfl) (by simp) ?_
    refine AllReadyH.cons rfl (fun K hK => ?_) AllReadyH.nil
    go_simp
    (go_at_call 21; refine (HLN.out _ HB3.out.drew).mono ?_; rintro e w4 ⟨rfl, k4⟩; have KW : Below W3.heap.size W3 w4 := (show Below W3.heap.size W3 W3.drew from (Below.refl _ _).drew).trans k4)
    (try dsimp only)
    refine hK.out _ _ ?_ (fun hHeld => ?_)
    · exact ⟨(HKE.out w4 KW).1, (HKE.out w4 KW).2.1, (HKE.out w4 KW).2.2.1, (HKE.out w4 KW).2.2.2.1⟩
    clear hK K
    (try simp only [Act.put, List.setIfInBounds_toArray, List.set_cons_zero, List.set_cons_succ, List.getElem_toArray, List.getElem_cons_succ, List.getElem_cons_zero])
    refine wpAnyH_take (i := 7) (v := ?_) rfl (by kernel_rfl) (by kernel_rfl) (by kernel_rfl) (fun _ _ _ h => h) (Or.inl ⟨by rfl, ?_⟩) (by assumption) ?_
    rotate_left
    · intro w' hSw; (try dsimp only at hSw); go_simp; (try with_reducible rfl)
    (try simp only [Act.put, List.setIfInBounds_toArray, List.set_cons_zero, List.set_cons_succ, List.getElem_toArray, List.getElem_cons_succ, List.getElem_cons_zero])
    refine wpAnyH_take (i := 8) (v := ?_) rfl (by kernel_rfl) (by kernel_rfl) (by kernel_rfl) (fun _ _ _ h => h) (Or.inl ⟨by rfl, ?_⟩) (by assumption) ?_
    rotate_left
    · intro w' hSw; (try dsimp only at hSw); go_simp; (try with_reducible rfl)
    (try simp only [Act.put, List.setIfInBounds_toArray, List.set_cons_zero, List.set_cons_succ, List.getElem_toArray, List.getElem_cons_succ, List.getElem_cons_zero])
    refine wpAnyH_done (by kernel_rfl) ?_ _
    obtain ⟨q0, q1, q2, q3, q4, q5⟩ := HKE.out w4 KW
    have HB4 := Lib.hid (HB3.out.trans (KW.mono HB3.out.size))
    clear KW
    go_wp2_with (go_at_call 14; refine (known4 _).mono ?_; rintro e w5 ⟨rfl, k5⟩; have HB5 := Lib.hid (HB4.out.trans (k5.mono HB4.out.size)))
    go_ret
    exact ⟨rfl, HB5.out⟩
  · have hq1 := (hnx.2 (by omega)).1
    have hq2 := (hnx.2 (by omega)).2
    subst hq1
    subst hq2
    have t5 : decide (m + 1 < LL * 1000000000) = false := by simpa using hc
    clear hnx hc
    go_wp2_with fail
    rw [HW3.out]
    refine wp_region_held_drew (S := fun W => W.cell? ⟨w.heap.size, 0, none⟩ = some (.slice A n c) ∧ W.cell? ⟨w.heap.size, 1, none⟩ = some (.int .i64 x) ∧ W.cell? ⟨b1, 0, none⟩ = some (.int .i64 d) ∧ W.cell? ⟨b1, 1, none⟩ = some (.int .i64 m)) (by kernel_rfl) ?_ (fun hHeld => ?_)
    · exact ⟨HX3.out.1, HX3.out.2.1, HX3.out.2.2.1.c0, HX3.out.2.2.1.c1⟩
    refine wpAnyH_take (i := 0) (v := ?_) rfl (by kernel_rfl) (by kernel_rfl) (by kernel_rfl) (fun _ _ _ h => h) (Or.inl ⟨by rfl, ?_⟩) (by assumption) ?_
    rotate_left
    · intro w' hSw; (try dsimp only at hSw); go_simp; (try with_reducible rfl)
    (try simp only [Act.put, List.setIfInBounds_toArray, List.set_cons_zero, List.set_cons_succ, List.getElem_toArray, List.getElem_cons_succ, List.getElem_cons_zero])
    refine wpAnyH_take (i := 1) (v := ?_) rfl (by kernel_rfl) (by kernel_rfl) (by kernel_rfl) (fun _ _ _ h => h) (Or.inl ⟨by rfl, ?_⟩) (by assumption) ?_
    rotate_left
    · intro w' hSw; (try dsimp only at hSw); go_simp; (try with_reducible rfl)
    (try simp only [Act.put, List.setIfInBounds_toArray, List.set_cons_zero, List.set_cons_succ, List.getElem_toArray, List.getElem_cons_succ, List.getElem_cons_zero])
    refine wpAnyH_take (i := 2) (v := ?_) rfl (by kernel_rfl) (by kernel_rfl) (by kernel_rfl) (fun _ _ _ h => h) (Or.inl ⟨by rfl, ?_⟩) (by assumption) ?_
    rotate_left
    · intro w' hSw; (try dsimp only at hSw); go_simp; (try with_reducible rfl)
    (try simp only [Act.put, List.setIfInBounds_toArray, List.set_cons_zero, List.set_cons_succ, List.getElem_toArray, List.getElem_cons_succ, List.getElem_cons_zero])
    refine wpAnyH_take (i := 3) (v := ?_) rfl (by kernel_rfl) (by kernel_rfl) (by kernel_rfl) (fun _ _ _ h => h) (Or.inl ⟨by rfl, ?_⟩) (by assumption) ?_
    rotate_left
    · intro w' hSw; (try dsimp only at hSw); go_simp; (try with_reducible rfl)
    (try simp only [Act.put, List.setIfInBounds_toArray, List.set_cons_zero, List.set_cons_succ, List.getElem_toArray, List.getElem_cons_succ, List.getElem_cons_zero])
    refine wpAnyH_take (i := 4) (v := ?_) rfl (by kernel_rfl) (by kernel_rfl) (by kernel_rfl) (fun _ _ _ h => h) (Or.inl ⟨by rfl, ?_⟩) (by assumption) ?_
    rotate_left
    · intro w' hSw; (try dsimp only at hSw); go_simp; (try with_reducible rfl)
    (try simp only [Act.put, List.setIfInBounds_toArray, List.set_cons_zero, List.set_cons_succ, List.getElem_toArray, List.getElem_cons_succ, List.getElem_cons_zero])
    refine wpAnyH_take (i := 5) (v := ?_) rfl (by kernel_rfl) (by kernel_rfl) (by kernel_rfl) (fun _ _ _ h => h) (Or.inl ⟨by rfl, ?_⟩) (by assumption) ?_
    rotate_left
    · intro w' hSw; (try dsimp only at hSw); go_simp; (try with_reducible rfl)
    (try simp only [Act.put, List.setIfInBounds_toArray, List.set_cons_zero, List.set_cons_succ, List.getElem_toArray, List.getElem_cons_succ, List.getElem_cons_zero])
    refine wpAnyH_ready (rs := [6]) (by kernel_rfl) (by simp) ?_
    refine AllReadyH.cons rfl (fun K hK => ?_) AllReadyH.nil
    go_simp
    (go_at_call 21; refine (HLN.out _ HB3.out.drew).mono ?_; rintro e w4 ⟨rfl, k4⟩; have KW : Below W3.heap.size W3 w4 := (show Below W3.heap.size W3 W3.drew from (Below.refl _ _).drew).trans k4)
    (try dsimp only)
    refine hK.out _ _ ?_ (fun hHeld => ?_)
    · exact ⟨(HKE.out w4 KW).1, (HKE.out w4 KW).2.1, (HKE.out w4 KW).2.2.1, (HKE.out w4 KW).2.2.2.1⟩
    clear hK K
    (try simp only [Act.put, List.setIfInBounds_toArray, List.set_cons_zero, List.set_cons_succ, List.getElem_toArray, List.getElem_cons_succ, List.getElem_cons_zero])
    refine wpAnyH_take (i := 7) (v := ?_) rfl (by kernel_rfl) (by kernel_rfl) (by kernel_rfl) (fun _ _ _ h => h) (Or.inl ⟨by rfl, ?_⟩) (by assumption) ?_
    rotate_left
    · intro w' hSw; (try dsimp only at hSw); go_simp; (try with_reducible rfl)
    (try simp only [Act.put, List.setIfInBounds_toArray, List.set_cons_zero, List.set_cons_succ, List.getElem_toArray, List.getElem_cons_succ, List.getElem_cons_zero])
    refine wpAnyH_take (i := 8) (v := ?_) rfl (by kernel_rfl) (by kernel_rfl) (by kernel_rfl) (fun _ _ _ h => h) (Or.inl ⟨by rfl, ?_⟩) (by assumption) ?_
    rotate_left
    · intro w' hSw; (try dsimp only at hSw); go_simp; (try with_reducible rfl)
    (try simp only [Act.put, List.setIfInBounds_toArray, List.set_cons_zero, List.set_cons_succ, List.getElem_toArray, List.getElem_cons_succ, List.getElem_cons_zero])
    refine wpAnyH_done (by kernel_rfl) ?_ _
    obtain ⟨q0, q1, q2, q3, q4, q5⟩ := HKE.out w4 KW
    have HB4 := Lib.hid (HB3.out.trans (KW.mono HB3.out.size))
    clear KW
    go_wp2_with (go_at_call 14; refine (known4 _).mono ?_; rintro e w5 ⟨rfl, k5⟩; have HB5 := Lib.hid (HB4.out.trans (k5.mono HB4.out.size)))
    go_ret
    exact ⟨rfl, HB5.out⟩
set_option maxRecDepth 100000 in
theorem scaleStep_lifted (os : Os) (started : os.Started) (H : Type) (enc : TypeId × Value → H) :
    ReturnsInHanded {} Try.checked os 6 .any (Rows.scaleStepSpec.pre6 enc Try.prog Try.f6 Rows.scaleStepRow.domain false) (Rows.scaleStepSpec.post enc Try.prog Try.f6 false true false false) := by
  refine returnsInHanded_of_change_sized (C := Try.checked) law_own started (by kernel_rfl) Try.func6
    (ChangeSpec.witness6 (enc := enc) (C := Try.checked) false ⟨#[], #[.agg #[.slice none 0 0, .int .i64 0], .int .i64 0], []⟩ 8 (by kernel_rfl) (by kernel_rfl) (by kernel_rfl) (by kernel_rfl)) ?_
  intro W base args ds gs before hval0 hW hcnd hsz0 _
  have hval : ∀ (j : Nat) t v, Try.f6.params[j]? = some t → args[j]? = some v → Value.okWide Try.prog W .any base t v := hval0
  have hsz : (DataW.weightsEach Try.prog (Try.f6.params.toList ++ Rows.scaleStepSpec.plain.varTypes Try.prog) (ds ++ gs)).all (· ≤ reachBytes) = true := hsz0
  have hW' := hW
  obtain ⟨p, q, hA0, hV, rfl, hfz, hnd⟩ := hW
  have hA : DataW.TrodAll enc Try.prog W 0 (fun _ => true) true Try.f6.params.toList args.toList ds p := hA0
  rw [Try.params6] at hA hval hsz
  have hsame : (Rows.scaleStepSpec.fn H (ds ++ gs)).results = [.lit (.bool true)] ∧ (Rows.scaleStepSpec.fn H (ds ++ gs)).args = ds ∧ (Rows.scaleStepSpec.fn H (ds ++ gs)).vars = [] → ∀ W', Below W.heap.size W W' → Rows.scaleStepSpec.post enc Try.prog Try.f6 false true false false W args (.bool true) W' :=
    fun h W' hb => law_post (tb := 4) hW' law_laid (by kernel_rfl) rfl Try.underlying4 h.1 h.2.1 rfl h.2.2 hb
  obtain ⟨v0, vs0, d0, ds0, p0, q0, hargs, rfl, rfl, h0, r0⟩ := trodAll_cons hA
  obtain ⟨v1, vs1, d1, ds1, p1, q1, rfl, rfl, rfl, h1, r1⟩ := trodAll_cons r0
  obtain ⟨rfl, rfl, rfl⟩ := trodAll_nil r1
  obtain rfl : args = #[v0, v1] := by cases args; simp_all
  obtain ⟨rfl, rfl⟩ := trodVars_none hV
  have hpost := hsame ⟨rfl, rfl, rfl⟩
  clear hsame hA0 hval0 hsz0
  obtain ⟨A, n, c, z, x, rfl, hn, hz, _⟩ := open_table (hval 0 30 v0 rfl rfl) h0
  obtain ⟨a, rfl, rfl, rfl, wfa⟩ := open_int Try.underlying3 (hval 1 3 v1 rfl rfl) h1
  by_cases h : 200 < n
  · exact (step_out A n c x a z W hz hn (.inl h)).mono fun e W' ⟨he, hb⟩ => ⟨_, he, hpost W' hb⟩
  by_cases hT : IsTab z n x
  · by_cases h2 : a < -4611686018427387904
    · exact (step_out A n c x a z W hz hn (.inr (.inr (.inl ⟨by omega, hT, h2⟩)))).mono fun e W' ⟨he, hb⟩ => ⟨_, he, hpost W' hb⟩
    by_cases h3 : 4611686018427387904 < a
    · exact (step_out A n c x a z W hz hn (.inr (.inr (.inr ⟨by omega, hT, h3⟩)))).mono fun e W' ⟨he, hb⟩ => ⟨_, he, hpost W' hb⟩
    exact (step_in A n c x a z W hz (by omega) hT (by omega) (by omega)).mono fun e W' ⟨he, hb⟩ => ⟨_, he, hpost W' hb⟩
  · exact (step_out A n c x a z W hz hn (.inr (.inl ⟨by omega, hT⟩))).mono fun e W' ⟨he, hb⟩ => ⟨_, he, hpost W' hb⟩
theorem scaleStep_holds : Rows.ScaleStepSaid :=
  OpenClaim.holds_of_wide 6 Try.f6 rfl rfl rfl rfl rfl rfl rfl ⟨rfl, rfl, rfl, rfl, rfl⟩ rfl rfl rfl rfl rfl (by kernel_rfl) Try.func6 (by kernel_rfl)
    (of_decide_eq_true (by kernel_rfl)) (by unfold Func.isWrapper; first | (rw [if_pos (by decide +kernel)]; kernel_rfl) | (rw [if_neg (by decide +kernel)]; exact ⟨rfl, rfl⟩))
    (fun os started H enc _ => scaleStep_lifted os started H enc)
end Go.Proofs.Ytklahiogcpojmaa
