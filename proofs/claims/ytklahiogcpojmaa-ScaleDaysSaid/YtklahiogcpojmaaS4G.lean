/- Stage 4: ScaleDays (written by gen/s4g.py). -/
import Derived.Test.YtklahiogcpojmaaS4E
import Derived.Test.YtklahiogcpojmaaRef3Len
set_option linter.unusedSimpArgs false
set_option linter.unusedVariables false
namespace Go.Proofs.Ytklahiogcpojmaa
open Go.ChangeShapes Go.WideShapes Go.ChangeAt Go.RowKit Go.Joins

set_option maxHeartbeats 2000000 in
theorem days_long (A : Option Addr) (n c : Nat) (x d m : Int) (w : World) (h : 200 < n) :
    Calls Try.prog 11 #[.agg #[.slice A n c, .int .i64 x], .int .i64 d, .int .i64 m] w fun e w' => e = .returned (.bool true) ∧ Below w.heap.size w w' := by
  have h' : (200 : Int) < (n : Int) := by omega
  go_enter Try.func11, Try.ntmps11
  go_wp2_with (go_at_call 14; refine (known4 _).mono ?_; rintro e w5 ⟨rfl, hb5⟩; obtain ⟨hc5, hf5⟩ := bcell hb5; have hz5 := hb5.size; (try simp only [World.size_alloc, World.size_setCell, World.heap_drewN] at hb5 hc5 hf5 hz5); (try have ha05 : w.heap.size < w5.heap.size := by omega); (try have ha15 : w.heap.size + 1 < w5.heap.size := by omega); (try have ha25 : w.heap.size + 2 < w5.heap.size := by omega); (try have hal5 : w.heap.size ≤ w5.heap.size := by omega); (try have ham5 : w.heap.size < w5.heap.size + 2 := by omega))
  go_ret
  go_light
  exact ⟨rfl, by (repeat' (first | (with_reducible exact Below.refl _ _) | (with_reducible assumption) | (with_reducible refine Below.trans ?_ (Below.mono (by with_reducible assumption) ?_)) | (with_reducible refine Below.alloc ?_ ?_ _) | (with_reducible refine Below.setCell ?_ ?_ _) | (with_reducible refine below_drewN ?_ _) | (with_reducible refine Below.drew ?_) | go_size))⟩
set_option maxRecDepth 100000 in
set_option maxHeartbeats 4000000 in
theorem days_no1 (A : Option Addr) (n c : Nat) (x d m : Int) (z : Nat → Int) (w : World) (hz : FlatAt w A 2 n z) (hn : n ≤ 200) (hi : IsAns A n c x z false) :
    Calls Try.prog 11 #[.agg #[.slice A n c, .int .i64 x], .int .i64 d, .int .i64 m] w fun e w' => e = .returned (.bool true) ∧ Below w.heap.size w w' := by
  have h' : decide ((200 : Int) < (n : Int)) = false := by simp; omega
  clear hn
  have HB0 : Below w.heap.size w (w.alloc (.cells #[.slice A n c, .int .i64 x] 30)) := by (repeat' (first | (with_reducible exact Below.refl _ _) | (with_reducible assumption) | (with_reducible refine Below.trans ?_ (Below.mono (by with_reducible assumption) ?_)) | (with_reducible refine Below.alloc ?_ ?_ _) | (with_reducible refine Below.setCell ?_ ?_ _) | (with_reducible refine below_drewN ?_ _) | (with_reducible refine Below.drew ?_) | go_size))
  have HZ := Lib.hid hz
  clear hz
  have HI := Lib.hid hi
  clear hi
  go_enter Try.func11, Try.ntmps11
  go_wp2_with fail
  refine (HI.out _ (HZ.out.below HB0)).mono ?_; rintro e w1 ⟨rfl, hb1⟩
  have HB1 : Below w.heap.size w w1 := HB0.trans (hb1.mono HB0.size)
  have p0 : w1.cell? ⟨w.heap.size, 0, none⟩ = some (.slice A n c) := (hb1.cell (p := ⟨w.heap.size, 0, none⟩) (by simp; try omega)).trans (by simp [go_sem])
  have p1 : w1.cell? ⟨w.heap.size, 1, none⟩ = some (.int .i64 x) := (hb1.cell (p := ⟨w.heap.size, 1, none⟩) (by simp; try omega)).trans (by simp [go_sem])
  have z1 : w.heap.size < w1.heap.size := by have := hb1.size; simp at this; omega
  clear hb1
  go_wp2_with (go_at_call 14; refine (known4 _).mono ?_; rintro e w5 ⟨rfl, hb5⟩; obtain ⟨hc5, hf5⟩ := bcell hb5; have hz5 := hb5.size; (try simp only [World.size_alloc, World.size_setCell, World.heap_drewN] at hb5 hc5 hf5 hz5); (try have ha05 : w.heap.size < w5.heap.size := by omega); (try have ha15 : w.heap.size + 1 < w5.heap.size := by omega); (try have ha25 : w.heap.size + 2 < w5.heap.size := by omega); (try have hal5 : w.heap.size ≤ w5.heap.size := by omega); (try have ham5 : w.heap.size < w5.heap.size + 2 := by omega))
  go_ret
  go_light
  exact ⟨rfl, by (repeat' (first | (with_reducible exact Below.refl _ _) | (with_reducible assumption) | (with_reducible refine Below.trans ?_ (Below.mono (by with_reducible assumption) ?_)) | (with_reducible refine Below.alloc ?_ ?_ _) | (with_reducible refine Below.setCell ?_ ?_ _) | (with_reducible refine below_drewN ?_ _) | (with_reducible refine Below.drew ?_) | go_size))⟩
set_option maxRecDepth 100000 in
set_option maxHeartbeats 4000000 in
theorem days_no3 (A : Option Addr) (n c : Nat) (x d m : Int) (z : Nat → Int) (w : World) (hz : FlatAt w A 2 n z) (hn : n ≤ 200) (hi : IsAns A n c x z true) (h : d < -90000 ∨ (-90000 ≤ d ∧ 90000 < d) ∨ (-90000 ≤ d ∧ d ≤ 90000 ∧ m < 0) ∨ (-90000 ≤ d ∧ d ≤ 90000 ∧ 0 ≤ m ∧ 600 < m)) :
    Calls Try.prog 11 #[.agg #[.slice A n c, .int .i64 x], .int .i64 d, .int .i64 m] w fun e w' => e = .returned (.bool true) ∧ Below w.heap.size w w' := by
  have h' : decide ((200 : Int) < (n : Int)) = false := by simp; omega
  clear hn
  have HB0 : Below w.heap.size w (w.alloc (.cells #[.slice A n c, .int .i64 x] 30)) := by (repeat' (first | (with_reducible exact Below.refl _ _) | (with_reducible assumption) | (with_reducible refine Below.trans ?_ (Below.mono (by with_reducible assumption) ?_)) | (with_reducible refine Below.alloc ?_ ?_ _) | (with_reducible refine Below.setCell ?_ ?_ _) | (with_reducible refine below_drewN ?_ _) | (with_reducible refine Below.drew ?_) | go_size))
  have HZ := Lib.hid hz
  clear hz
  have HI := Lib.hid hi
  clear hi
  have j0 : decide (d < -90000) = true ∨ decide (d < -90000) = false := by cases decide (d < -90000) <;> simp
  have j5 : decide (600 < m) = true ∨ decide (600 < m) = false := by cases decide (600 < m) <;> simp
  rcases (show decide (d < -90000) = true ∨ (decide (d < -90000) = false ∧ decide (90000 < d) = true) ∨ (decide (d < -90000) = false ∧ decide (90000 < d) = false ∧ decide (m < 0) = true) ∨ (decide (d < -90000) = false ∧ decide (90000 < d) = false ∧ decide (m < 0) = false ∧ decide (600 < m) = true) from by simp only [decide_eq_true_eq, decide_eq_false_iff_not]; omega) with k1 | ⟨k1, k2⟩ | ⟨k1, k2, k3⟩ | ⟨k1, k2, k3, k4⟩
  all_goals
    clear h j0 j5
    go_enter Try.func11, Try.ntmps11
    go_wp2_with fail
    refine (HI.out _ (HZ.out.below HB0)).mono ?_; rintro e w1 ⟨rfl, hb1⟩
    have HB1 : Below w.heap.size w w1 := HB0.trans (hb1.mono HB0.size)
    have p0 : w1.cell? ⟨w.heap.size, 0, none⟩ = some (.slice A n c) := (hb1.cell (p := ⟨w.heap.size, 0, none⟩) (by simp; try omega)).trans (by simp [go_sem])
    have p1 : w1.cell? ⟨w.heap.size, 1, none⟩ = some (.int .i64 x) := (hb1.cell (p := ⟨w.heap.size, 1, none⟩) (by simp; try omega)).trans (by simp [go_sem])
    have z1 : w.heap.size < w1.heap.size := by have := hb1.size; simp at this; omega
    clear hb1
    go_wp2_with (go_at_call 14; refine (known4 _).mono ?_; rintro e w5 ⟨rfl, hb5⟩; obtain ⟨hc5, hf5⟩ := bcell hb5; have hz5 := hb5.size; (try simp only [World.size_alloc, World.size_setCell, World.heap_drewN] at hb5 hc5 hf5 hz5); (try have ha05 : w.heap.size < w5.heap.size := by omega); (try have ha15 : w.heap.size + 1 < w5.heap.size := by omega); (try have ha25 : w.heap.size + 2 < w5.heap.size := by omega); (try have hal5 : w.heap.size ≤ w5.heap.size := by omega); (try have ham5 : w.heap.size < w5.heap.size + 2 := by omega))
    go_ret
    go_light
    exact ⟨rfl, by (repeat' (first | (with_reducible exact Below.refl _ _) | (with_reducible assumption) | (with_reducible refine Below.trans ?_ (Below.mono (by with_reducible assumption) ?_)) | (with_reducible refine Below.alloc ?_ ?_ _) | (with_reducible refine Below.setCell ?_ ?_ _) | (with_reducible refine below_drewN ?_ _) | (with_reducible refine Below.drew ?_) | go_size))⟩
set_option maxRecDepth 100000 in
set_option maxHeartbeats 8000000 in
theorem days_in (A : Option Addr) (n c : Nat) (x d m : Int) (z : Nat → Int) (w : World) (hz : FlatAt w A 2 n z) (hn : n ≤ 200) (hi : IsAns A n c x z true) (h1 : -90000 ≤ d) (h2 : d ≤ 90000) (h3 : 0 ≤ m) (h4 : m ≤ 600) (va vb : Int) (ht : TaiAns A n c x d 0 z va) (ht' : TaiAns A n c x (d + m) 0 z vb) (hl : LenAns A n c x z) (b : Int → Int) (hb : ∀ k : Int, 0 ≤ b k ∧ b k ≤ 1000) (hL : ∀ k : Int, lenS z n k = 86400 + b (k + 1) - b k)
    (s1 : IntKind.i64.wrap (vb - va) = (m * 86400 + b (d + m) - b d) * 1000000000) (s3 : IntKind.i64.wrap ((m * 86400 + b (d + m) - b d) * 1000000000) = (m * 86400 + b (d + m) - b d) * 1000000000) :
    Calls Try.prog 11 #[.agg #[.slice A n c, .int .i64 x], .int .i64 d, .int .i64 m] w fun e w' => e = .returned (.bool true) ∧ Below w.heap.size w w' := by
  have h' : decide ((200 : Int) < (n : Int)) = false := by simp; omega
  clear hn
  have HB0 : Below w.heap.size w (w.alloc (.cells #[.slice A n c, .int .i64 x] 30)) := by (repeat' (first | (with_reducible exact Below.refl _ _) | (with_reducible assumption) | (with_reducible refine Below.trans ?_ (Below.mono (by with_reducible assumption) ?_)) | (with_reducible refine Below.alloc ?_ ?_ _) | (with_reducible refine Below.setCell ?_ ?_ _) | (with_reducible refine below_drewN ?_ _) | (with_reducible refine Below.drew ?_) | go_size))
  have HZ := Lib.hid hz
  clear hz
  have hs : IntKind.i64.wrap (d + m) = d + m := IntWalk.i64_in _ (by omega)
  have k1 : decide (d < -90000) = false := by simp only [decide_eq_false_iff_not]; omega
  have k2 : decide (90000 < d) = false := by simp only [decide_eq_false_iff_not]; omega
  have k3 : decide (m < 0) = false := by simp only [decide_eq_false_iff_not]; omega
  have k4 : decide (600 < m) = false := by simp only [decide_eq_false_iff_not]; omega
  have HI := Lib.hid hi
  have HT := Lib.hid ht
  have HT' := Lib.hid ht'
  have HL := Lib.hid hl
  have HBB := Lib.hid hb
  have HLL := Lib.hid hL
  have S1 := Lib.hid s1
  have S3 := Lib.hid s3
  clear hi ht ht' hl hb hL s1 s3
  go_enter Try.func11, Try.ntmps11
  go_wp2_with fail
  refine (HI.out _ (HZ.out.below HB0)).mono ?_; rintro e w1 ⟨rfl, hb1⟩
  have HB1 : Below w.heap.size w w1 := HB0.trans (hb1.mono HB0.size)
  have p0 : w1.cell? ⟨w.heap.size, 0, none⟩ = some (.slice A n c) := (hb1.cell (p := ⟨w.heap.size, 0, none⟩) (by simp; try omega)).trans (by simp [go_sem])
  have p1 : w1.cell? ⟨w.heap.size, 1, none⟩ = some (.int .i64 x) := (hb1.cell (p := ⟨w.heap.size, 1, none⟩) (by simp; try omega)).trans (by simp [go_sem])
  have z1 : w.heap.size < w1.heap.size := by have := hb1.size; simp at this; omega
  clear hb1
  go_wp2_with fail
  refine (HT.out _ (HZ.out.below HB1)).mono ?_; rintro e w2 ⟨rfl, hb2⟩
  have HB2 : Below w.heap.size w w2 := HB1.trans (hb2.mono HB1.size)
  have p0 := (hb2.cell (p := ⟨w.heap.size, 0, none⟩) z1).trans p0
  have p1 := (hb2.cell (p := ⟨w.heap.size, 1, none⟩) z1).trans p1
  have z2 := Nat.lt_of_lt_of_le z1 hb2.size
  clear hb2
  go_wp2_with fail
  refine (HT'.out _ (HZ.out.below HB2)).mono ?_; rintro e w3 ⟨rfl, hb3⟩
  have HB3 : Below w.heap.size w w3 := HB2.trans (hb3.mono HB2.size)
  have p0 := (hb3.cell (p := ⟨w.heap.size, 0, none⟩) z2).trans p0
  have p1 := (hb3.cell (p := ⟨w.heap.size, 1, none⟩) z2).trans p1
  have z3 := Nat.lt_of_lt_of_le z2 hb3.size
  clear hb3
  go_wp2_with fail
  go_loopw [11, 12] (fun s i wr => ∃ k : Nat, (k : Int) ≤ m ∧ i = .int .i64 k ∧ s = .int .i64 (k * 86400 + b (d + k) - b d) ∧ wr.cell? ⟨w.heap.size, 0, none⟩ = some (.slice A n c) ∧ wr.cell? ⟨w.heap.size, 1, none⟩ = some (.int .i64 x) ∧ w.heap.size < wr.heap.size ∧ Below w.heap.size w wr) (fun _ i _ => m.toNat - (intOf i).toNat)
  case atStart => exact ⟨0, h3, rfl, by simp, p0, p1, z3, HB3⟩
  case round =>
    obtain ⟨k, hk, rfl, rfl, q0, q1, zr, HB⟩ := hrel
    clear p0 p1 HB0 HB1 HB2 HB3
    have hb0 := HBB.out d
    have hb1 := HBB.out (d + k)
    have hb2 := HBB.out (d + (k + 1))
    by_cases hlt : (k : Int) < m
    · have w1' : IntKind.i64.wrap (d + k) = d + k := IntWalk.i64_in _ (by omega)
      have e1 : lenS z n (d + k) = 86400 + b (d + (k + 1)) - b (d + k) := by rw [HLL.out, Int.add_assoc]
      have w2' : IntKind.i64.wrap (k * 86400 + b (d + k) - b d + lenS z n (d + k)) = (k + 1 : Nat) * 86400 + b (d + (k + 1 : Nat)) - b d := by
        rw [e1, show ((k + 1 : Nat) : Int) = (k : Int) + 1 from by omega]
        refine (IntWalk.i64_in _ (by omega)).trans ?_
        omega
      have W2 := Lib.hid w2'
      clear e1 w2'
      go_wp2_with fail
      refine (HL.out (d + k) _ (by omega) (by omega) (HZ.out.below HB)).mono ?_; rintro e w5 ⟨rfl, hb5⟩
      have q0 := (hb5.cell (p := ⟨w.heap.size, 0, none⟩) zr).trans q0
      have q1 := (hb5.cell (p := ⟨w.heap.size, 1, none⟩) zr).trans q1
      have HB := HB.trans (hb5.mono HB.size)
      have zr := Nat.lt_of_lt_of_le zr hb5.size
      clear hb5
      generalize lenS z n (d + k) = L at *
      have w2' := W2.out
      go_wp2_with fail
      go_roundw
      case rel => exact ⟨k + 1, by omega, by go_num, by first | rfl | rw [W2.out], q0, q1, zr, HB⟩
      case measure => simp [intOf]; omega
    · obtain rfl : (k : Int) = m := by omega
      have s1 := S1.out
      have s3 := S3.out
      go_wp2_with (go_at_call 14; refine (known4 _).mono ?_; rintro e w5 ⟨rfl, hb5⟩; obtain ⟨hc5, hf5⟩ := bcell hb5; have hz5 := hb5.size; (try simp only [World.size_alloc, World.size_setCell, World.heap_drewN] at hb5 hc5 hf5 hz5); (try have ha05 : w.heap.size < w5.heap.size := by omega); (try have ha15 : w.heap.size + 1 < w5.heap.size := by omega); (try have ha25 : w.heap.size + 2 < w5.heap.size := by omega); (try have hal5 : w.heap.size ≤ w5.heap.size := by omega); (try have ham5 : w.heap.size < w5.heap.size + 2 := by omega); (try have hb05 : wr.heap.size < w5.heap.size := by omega); (try have hb15 : wr.heap.size + 1 < w5.heap.size := by omega); (try have hb25 : wr.heap.size + 2 < w5.heap.size := by omega); (try have hbl5 : wr.heap.size ≤ w5.heap.size := by omega); (try have hbm5 : wr.heap.size < w5.heap.size + 2 := by omega))
      go_ret
      go_light
      exact ⟨rfl, by (repeat' (first | (with_reducible exact Below.refl _ _) | (with_reducible assumption) | (with_reducible refine Below.trans ?_ (Below.mono (by with_reducible assumption) ?_)) | (with_reducible refine Below.alloc ?_ ?_ _) | (with_reducible refine Below.setCell ?_ ?_ _) | (with_reducible refine below_drewN ?_ _) | (with_reducible refine Below.drew ?_) | go_size))⟩

set_option maxRecDepth 100000 in
theorem scaleDays_lifted (os : Os) (started : os.Started) (H : Type) (enc : TypeId × Value → H) :
    ReturnsInHanded {} Try.checked os 11 .any (Rows.scaleDaysSpec.pre6 enc Try.prog Try.f11 Rows.scaleDaysRow.domain false) (Rows.scaleDaysSpec.post enc Try.prog Try.f11 false true false false) := by
  refine returnsInHanded_of_change_sized (C := Try.checked) law_own started (by kernel_rfl) Try.func11
    (ChangeSpec.witness6 (enc := enc) (C := Try.checked) false ⟨#[], #[.agg #[.slice none 0 0, .int .i64 0], .int .i64 0, .int .i64 0], []⟩ 8 (by kernel_rfl) (by kernel_rfl) (by kernel_rfl) (by kernel_rfl)) ?_
  intro W base args ds gs before hval0 hW hcnd hsz0 _
  have hval : ∀ (j : Nat) t v, Try.f11.params[j]? = some t → args[j]? = some v → Value.okWide Try.prog W .any base t v := hval0
  have hsz : (DataW.weightsEach Try.prog (Try.f11.params.toList ++ Rows.scaleDaysSpec.plain.varTypes Try.prog) (ds ++ gs)).all (· ≤ reachBytes) = true := hsz0
  have hW' := hW
  obtain ⟨p, q, hA0, hV, rfl, hfz, hnd⟩ := hW
  have hA : DataW.TrodAll enc Try.prog W 0 (fun _ => true) true Try.f11.params.toList args.toList ds p := hA0
  rw [Try.params11] at hA hval hsz
  have hsame : (Rows.scaleDaysSpec.fn H (ds ++ gs)).results = [.lit (.bool true)] ∧ (Rows.scaleDaysSpec.fn H (ds ++ gs)).args = ds ∧ (Rows.scaleDaysSpec.fn H (ds ++ gs)).vars = [] → ∀ W', Below W.heap.size W W' → Rows.scaleDaysSpec.post enc Try.prog Try.f11 false true false false W args (.bool true) W' :=
    fun h W' hb => law_post (tb := 4) hW' law_laid (by kernel_rfl) rfl Try.underlying4 h.1 h.2.1 rfl h.2.2 hb
  obtain ⟨v0, vs0, d0, ds0, p0, q0, hargs, rfl, rfl, h0, r0⟩ := trodAll_cons hA
  obtain ⟨v1, vs1, d1, ds1, p1, q1, rfl, rfl, rfl, h1, r1⟩ := trodAll_cons r0
  obtain ⟨v2, vs2, d2, ds2, p2, q2, rfl, rfl, rfl, h2, r2⟩ := trodAll_cons r1
  obtain ⟨rfl, rfl, rfl⟩ := trodAll_nil r2
  obtain rfl : args = #[v0, v1, v2] := by cases args; simp_all
  obtain ⟨rfl, rfl⟩ := trodVars_none hV
  have hpost := hsame ⟨rfl, rfl, rfl⟩
  clear hsame hA0 hval0 hsz0
  obtain ⟨A, n, c, z, x, rfl, hn, hz, _⟩ := open_table (hval 0 30 v0 rfl rfl) h0
  obtain ⟨a1, rfl, _, _, wf1⟩ := open_int Try.underlying3 (hval 1 3 v1 rfl rfl) h1
  obtain ⟨a2, rfl, _, _, wf2⟩ := open_int Try.underlying3 (hval 2 3 v2 rfl rfl) h2
  by_cases h : 200 < n
  · exact (days_long A n c x a1 a2 W h).mono fun e W' ⟨he, hb⟩ => ⟨_, he, hpost W' hb⟩
  have g0 : n ≤ 200 := by omega
  rcases is_ans A n c x z g0 with ⟨t, i⟩ | i
  · by_cases k : -90000 ≤ a1 ∧ a1 ≤ 90000 ∧ 0 ≤ a2 ∧ a2 ≤ 600
    · obtain ⟨k0, k1, k2, k3⟩ := k
      have bb : ∀ k : Int, 0 ≤ offK z k n ∧ offK z k n ≤ 1000 := fun k => offK_bd t k n (Nat.le_refl _)
      have b1 := bb a1
      have b2 := bb (a1 + a2)
      have e : taiV z n (a1 + a2) 0 - taiV z n a1 0 = (a2 * 86400 + offK z (a1 + a2) n - offK z a1 n) * 1000000000 := by unfold taiV begS; omega
      exact (days_in A n c x a1 a2 z W hz g0 i k0 k1 k2 k3 _ _ (tai_ans A n c x a1 0 z t (by omega) (by omega) (by omega) (by omega)) (tai_ans A n c x (a1 + a2) 0 z t (by omega) (by omega) (by omega) (by omega)) (fun k w' l0 l1 hw => ref3_length_yes A n c x k z w' hw t l0 l1) (fun k => offK z k n) bb (fun k => rfl) (by rw [e]; exact IntWalk.i64_in _ (by omega)) (IntWalk.i64_in _ (by omega))).mono fun e W' ⟨he, hb⟩ => ⟨_, he, hpost W' hb⟩
    · exact (days_no3 A n c x a1 a2 z W hz g0 i (by omega)).mono fun e W' ⟨he, hb⟩ => ⟨_, he, hpost W' hb⟩
  · exact (days_no1 A n c x a1 a2 z W hz g0 i).mono fun e W' ⟨he, hb⟩ => ⟨_, he, hpost W' hb⟩
theorem scaleDays_holds : Rows.ScaleDaysSaid :=
  OpenClaim.holds_of_wide 11 Try.f11 rfl rfl rfl rfl rfl rfl rfl ⟨rfl, rfl, rfl, rfl, rfl⟩ rfl rfl rfl rfl rfl (by kernel_rfl) Try.func11 (by kernel_rfl)
    (of_decide_eq_true (by kernel_rfl)) (by unfold Func.isWrapper; first | (rw [if_pos (by decide +kernel)]; kernel_rfl) | (rw [if_neg (by decide +kernel)]; exact ⟨rfl, rfl⟩))
    (fun os started H enc _ => scaleDays_lifted os started H enc)
end Go.Proofs.Ytklahiogcpojmaa
