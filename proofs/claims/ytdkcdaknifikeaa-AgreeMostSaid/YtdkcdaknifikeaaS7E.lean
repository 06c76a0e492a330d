/- Stage 7: AgreeMost. -/
import Derived.Test.YtdkcdaknifikeaaRef7
import Derived.Test.YtdkcdaknifikeaaLaw
set_option linter.unusedSimpArgs false
set_option linter.unusedVariables false
namespace Go.Proofs.Ytdkcdaknifikeaa
open Go.ChangeShapes Go.WideShapes Go.ChangeAt Go.RowKit Go.Joins

theorem agreeMost_out (A : Option Addr) (n c : Nat) (w : World) (h : 200 < n) (hn : n ≤ maxLen) :
    Calls Try.prog 3 #[.slice A n c] w fun e w' => e = .returned (.bool true) ∧ Below w.heap.size w w' := by
  unfold maxLen at hn
  have h' : (200 : Int) < (n : Int) := by omega
  go_enter Try.func3, Try.ntmps3
  go_wp2
  go_ret
  exact ⟨rfl, Below.refl _ _⟩
/-- A call's world behind what was made. -/
theorem below_box {w W W' : World} (h : Below w.heap.size w W) (k : Below W.heap.size W W') (o : Obj) : Below w.heap.size w (W'.alloc o) := (h.trans (k.mono h.size)).alloc (h.trans (k.mono h.size)).size o
set_option maxRecDepth 100000 in
set_option maxHeartbeats 8000000 in
theorem agreeMost_in (z : Nat → Int) (A : Option Addr) (n c : Nat) (w : World) (hn : n ≤ 200) (hA : A = none → n = 0 ∧ c = 0) (hz : FlatAt w A 2 n z) :
    Calls Try.prog 3 #[.slice A n c] w fun e w' => e = .returned (.bool true) ∧ Below w.heap.size w w' := by
  have hn' : (n : Int) ≤ 200 := by omega
  have HT := Lib.hid (FlatAt.tells hz)
  have HZ := Lib.hid hz
  have C0 := Lib.hid (own7_any z A n c w hA hz (by omega))
  have HL := Lib.hid (ivs_len z n)
  clear hz hA
  go_enter Try.func3, Try.ntmps3
  go_wp2_with fail
  refine C0.out.mono ?_; rintro e w1 ⟨v, rfl, hP, HB1⟩
  obtain ⟨A1, c1, hv, hf⟩ := hP.flat HT.out
  rw [HL.out] at hv
  subst hv
  have HF := Lib.hid hf
  have HLN : (ivs z n).length ≤ 100000 := by rw [HL.out]; omega
  have CM := Lib.hid (fun (W : World) (h : Below w1.heap.size w1 W) => most_list (c := c1) (hf.below h) HLN)
  have CJ := Lib.hid (fun (W : World) (h : Below w1.heap.size w1 W) => maj_list (c := c1) (hf.below h) HLN)
  clear hf hP C0 HLN
  rw [HL.out] at CM CJ
  go_wp2_with fail
  refine (CM.out _ (Below.refl _ _)).mono ?_; rintro e w2 ⟨a, b, m, rfl, hm, hb2⟩
  have hml := most_le hm
  rw [HL.out] at hml
  have hml2 : (m : Int) ≤ 200 := by omega
  have HM := Lib.hid hm
  have B2 := below_box (Below.refl w1.heap.size w1) hb2 (.cells #[.int .i64 a, .int .i64 b] 25)
  have J2 := Ints2.new w2 a b 25
  clear hb2 hm
  go_wp2_with fail
  generalize w2.heap.size = x2 at *
  generalize w2.alloc (.cells #[.int .i64 a, .int .i64 b] 25) = W2 at *
  have CR := Lib.hid (ref7_most z A n c W2 (by omega) (HZ.out.below (HB1.trans (B2.mono HB1.size))))
  have HJ2 := Lib.hid J2
  clear J2
  refine CR.out.mono ?_; rintro e w3 ⟨a', b', m', rfl, hm, hb3⟩
  obtain ⟨rfl, rfl, rfl⟩ := HM.out.unique hm
  have J2 := (HJ2.out.below hb3 HJ2.out.lt).alloc (.cells #[.int .i64 a, .int .i64 b] 25)
  have B3 := below_box B2 hb3 (.cells #[.int .i64 a, .int .i64 b] 25)
  have J3 := Ints2.new w3 a b 25
  clear hb3 hm CR HJ2
  go_wp2_with fail
  generalize w3.heap.size = x3 at *
  generalize w3.alloc (.cells #[.int .i64 a, .int .i64 b] 25) = W3 at *
  have HJ2 := Lib.hid J2
  have HJ3 := Lib.hid J3
  clear J2 J3
  have CQ := Lib.hid (CJ.out W3 B3)
  refine CQ.out.mono ?_; rintro e w4 ⟨a', b', m', rfl, hm, hb4⟩
  obtain ⟨rfl, rfl, rfl⟩ := HM.out.unique hm
  rw [HL.out]
  generalize hva : majV n m a = va at *
  generalize hvb : majV n m b = vb at *
  generalize hve : majE n m = ve at *
  have HVA := Lib.hid hva
  have HVB := Lib.hid hvb
  have HVE := Lib.hid hve
  have J2 := (HJ2.out.below hb4 HJ2.out.lt).alloc (.cells #[.int .i64 va, .int .i64 vb] 25)
  have J3 := (HJ3.out.below hb4 HJ3.out.lt).alloc (.cells #[.int .i64 va, .int .i64 vb] 25)
  have B4 := below_box B3 hb4 (.cells #[.int .i64 va, .int .i64 vb] 25)
  have J4 := Ints2.new w4 va vb 25
  clear hb4 hm CQ HJ2 HJ3 hva hvb hve CM CJ
  go_wp2_with fail
  generalize w4.heap.size = x4 at *
  generalize w4.alloc (.cells #[.int .i64 va, .int .i64 vb] 25) = W4 at *
  have HJ2 := Lib.hid J2
  have HJ3 := Lib.hid J3
  have HJ4 := Lib.hid J4
  clear J2 J3 J4
  have CQ := Lib.hid (ref7_maj z A n c W4 (by omega) (HZ.out.below (HB1.trans (B4.mono HB1.size))))
  refine CQ.out.mono ?_; rintro e w5 ⟨a', b', m', rfl, hm, hb5⟩
  obtain ⟨rfl, rfl, rfl⟩ := HM.out.unique hm
  rw [HL.out, HVA.out, HVB.out, HVE.out]
  have J2 := (HJ2.out.below hb5 HJ2.out.lt).alloc (.cells #[.int .i64 va, .int .i64 vb] 25)
  have J3 := (HJ3.out.below hb5 HJ3.out.lt).alloc (.cells #[.int .i64 va, .int .i64 vb] 25)
  have J4 := (HJ4.out.below hb5 HJ4.out.lt).alloc (.cells #[.int .i64 va, .int .i64 vb] 25)
  have B5 := below_box B4 hb5 (.cells #[.int .i64 va, .int .i64 vb] 25)
  have J5 := Ints2.new w5 va vb 25
  clear hb5 hm CQ HJ2 HJ3 HJ4
  go_wp2
  generalize w5.heap.size = x5 at *
  generalize w5.alloc (.cells #[.int .i64 va, .int .i64 vb] 25) = W5 at *
  have HJ2 := Lib.hid J2
  have HJ3 := Lib.hid J3
  have HJ4 := Lib.hid J4
  have HJ5 := Lib.hid J5
  clear J2 J3 J4 J5
  have HB5 := Lib.hid (HB1.trans (B5.mono HB1.size))
  have HB15 := Lib.hid B5
  clear B2 B3 B4 B5
  go_loopw [12] (fun i wr => ∃ k : Nat, k ≤ n ∧ i = .int .i64 k ∧ Ints2 wr x2 a b ∧ Ints2 wr x3 a b ∧ Ints2 wr x4 va vb ∧ Ints2 wr x5 va vb ∧ Below w1.heap.size w1 wr) (fun i _ => n - (intOf i).toNat)
  case atStart => exact ⟨0, Nat.zero_le _, rfl, HJ2.out, HJ3.out, HJ4.out, HJ5.out, HB15.out⟩
  case round =>
    obtain ⟨k, hk, rfl, J2, J3, J4, J5, HB⟩ := hrel
    clear HJ2 HJ3 HJ4 HJ5
    have HBw := HB1.trans (HB.mono HB1.size)
    have zr := HBw.size
    by_cases hlt : k < n
    · obtain ⟨B, O, rfl, hB, hcells⟩ := HZ.out (by omega)
      obtain ⟨B', O', rfl, hB', hcells'⟩ := HF.out (by rw [HL.out]; omega)
      have x0 : wr.cell? ⟨B, O + k * 2, none⟩ = some (.int .i64 (z (k * 2))) := (HBw.cell (p := ⟨B, O + k * 2, none⟩) hB).trans (hcells (k * 2) (by omega)).1
      have x1 : wr.cell? ⟨B, O + k * 2 + 1, none⟩ = some (.int .i64 (z (k * 2 + 1))) := (HBw.cell (p := ⟨B, O + (k * 2 + 1), none⟩) hB).trans (hcells (k * 2 + 1) (by omega)).1
      have y0 : wr.cell? ⟨B', O' + k * 2, none⟩ = some (.int .i64 (z (k * 2))) := by
        have := (HB.cell (p := ⟨B', O' + k * 2, none⟩) hB').trans (hcells' (k * 2) (by rw [HL.out]; omega)).1
        rwa [zl_ivs z n _ (by omega)] at this
      have y1 : wr.cell? ⟨B', O' + k * 2 + 1, none⟩ = some (.int .i64 (z (k * 2 + 1))) := by
        have := (HB.cell (p := ⟨B', O' + (k * 2 + 1), none⟩) hB').trans (hcells' (k * 2 + 1) (by rw [HL.out]; omega)).1
        rwa [zl_ivs z n _ (by omega)] at this
      have lk : (k : Int) < (n : Int) := by omega
      clear hcells hcells'
      generalize z (k * 2) = lo at *
      generalize z (k * 2 + 1) = hi at *
      go_wp2
      go_quiet (fail)
      go_wp2
      go_roundw
      case rel => exact ⟨k + 1, by omega, by go_num, J2.drewN _, J3.drewN _, J4.drewN _, J5.drewN _, below_drewN HB _⟩
      case measure => simp [intOf]; omega
    · obtain rfl : k = n := by omega
      obtain ⟨p0, p1, _, _, _⟩ := J2
      obtain ⟨q0, q1, _, _, _⟩ := J3
      obtain ⟨r0, r1, _, _, _⟩ := J4
      obtain ⟨s0, s1, _, _, _⟩ := J5
      clear HB
      go_wp2_with (go_at_call 14; refine (known7 _).mono ?_; rintro e w5 ⟨rfl, hb5⟩; obtain ⟨hc5, hf5⟩ := bcell hb5; have hz5 := hb5.size; (try simp only [World.size_alloc, World.size_setCell, World.heap_drewN] at hb5 hc5 hf5 hz5); (try have ha05 : w.heap.size < w5.heap.size := by omega); (try have ha15 : w.heap.size + 1 < w5.heap.size := by omega); (try have ha25 : w.heap.size + 2 < w5.heap.size := by omega); (try have hal5 : w.heap.size ≤ w5.heap.size := by omega); (try have ham5 : w.heap.size < w5.heap.size + 2 := by omega))
      go_ret
      go_light
      exact ⟨rfl, by (repeat' (first | (with_reducible exact Below.refl _ _) | (with_reducible assumption) | (with_reducible refine Below.trans ?_ (Below.mono (by with_reducible assumption) ?_)) | (with_reducible refine Below.alloc ?_ ?_ _) | (with_reducible refine Below.setCell ?_ ?_ _) | (with_reducible refine below_drewN ?_ _) | (with_reducible refine Below.drew ?_) | go_size))⟩
set_option maxRecDepth 100000 in
theorem agreeMost_lifted (os : Os) (started : os.Started) (H : Type) (enc : TypeId × Value → H) :
    ReturnsInHanded {} Try.checked os 3 .any (Rows.agreeMostSpec.pre6 enc Try.prog Try.f3 Rows.agreeMostRow.domain false) (Rows.agreeMostSpec.post enc Try.prog Try.f3 false true false false) := by
  refine returnsInHanded_of_change_sized (C := Try.checked) law_own started (by kernel_rfl) Try.func3
    (ChangeSpec.witness6 (enc := enc) (C := Try.checked) false ⟨#[], #[.slice none 0 0], []⟩ 8 (by kernel_rfl) (by kernel_rfl) (by kernel_rfl) (by kernel_rfl)) ?_
  intro W base args ds gs before hval0 hW hcnd hsz0 _
  have hval : ∀ (j : Nat) t v, Try.f3.params[j]? = some t → args[j]? = some v → Value.okWide Try.prog W .any base t v := hval0
  have hsz : (DataW.weightsEach Try.prog (Try.f3.params.toList ++ Rows.agreeMostSpec.plain.varTypes Try.prog) (ds ++ gs)).all (· ≤ reachBytes) = true := hsz0
  have hW' := hW
  obtain ⟨p, q, hA0, hV, rfl, hfz, hnd⟩ := hW
  have hA : DataW.TrodAll enc Try.prog W 0 (fun _ => true) true Try.f3.params.toList args.toList ds p := hA0
  rw [Try.params3] at hA hval hsz
  have hsame : (Rows.agreeMostSpec.fn H (ds ++ gs)).results = [.lit (.bool true)] ∧ (Rows.agreeMostSpec.fn H (ds ++ gs)).args = ds ∧ (Rows.agreeMostSpec.fn H (ds ++ gs)).vars = [] → ∀ W', Below W.heap.size W W' → Rows.agreeMostSpec.post enc Try.prog Try.f3 false true false false W args (.bool true) W' :=
    fun h W' hb => law_post (tb := 4) hW' law_laid (by kernel_rfl) rfl Try.underlying4 h.1 h.2.1 rfl h.2.2 hb
  obtain ⟨v0, vs0, d0, ds0, p0, q0, hargs, rfl, rfl, h0, r0⟩ := trodAll_cons hA
  obtain ⟨rfl, rfl, rfl⟩ := trodAll_nil r0
  obtain rfl : args = #[v0] := by cases args; simp_all
  obtain ⟨rfl, rfl⟩ := trodVars_none hV
  have hpost := hsame ⟨rfl, rfl, rfl⟩
  clear hsame hA0 hval0 hsz0
  obtain ⟨A, n, c, z, rfl, hn, hz⟩ := open_flat_slice (m := 2) Try.underlying22 (by kernel_rfl) (by kernel_rfl) (by omega) (hval 0 22 v0 rfl rfl) h0
  have hAn : A = none → n = 0 ∧ c = 0 := fun e => by subst e; exact nil_shape Try.underlying22 h0
  by_cases h : n ≤ 200
  · exact (agreeMost_in z A n c W h hAn hz).mono fun e W' ⟨he, hb⟩ => ⟨_, he, hpost W' hb⟩
  · exact (agreeMost_out A n c W (by omega) hn).mono fun e W' ⟨he, hb⟩ => ⟨_, he, hpost W' hb⟩
theorem agreeMost_holds : Rows.AgreeMostSaid :=
  OpenClaim.holds_of_wide 3 Try.f3 rfl rfl rfl rfl rfl rfl rfl ⟨rfl, rfl, rfl, rfl, rfl⟩ rfl rfl rfl rfl rfl (by kernel_rfl) Try.func3 (by kernel_rfl)
    (of_decide_eq_true (by kernel_rfl)) (by unfold Func.isWrapper; first | (rw [if_pos (by decide +kernel)]; kernel_rfl) | (rw [if_neg (by decide +kernel)]; exact ⟨rfl, rfl⟩))
    (fun os started H enc _ => agreeMost_lifted os started H enc)
end Go.Proofs.Ytdkcdaknifikeaa
