/- Numbers and days as text: meridianref1.Dec, leap.dayText, the reference's date. -/
import Derived.Test.YtonleiffbfdikaaDoorPrt3
import Derived.Test.YtonleiffbfdikaaDoorRef2Date
import Derived.Test.YtonleiffbfdikaaDoorCalDate
set_option linter.unusedSimpArgs false
set_option linter.unusedVariables false
namespace Go.Proofs.YtonleiffbfdikaaDoor
open Go.RowKit Go.Sort

theorem decDigits_snoc {n : Nat} (h : ¬ n < 10) : Lib.decDigits n = Lib.decDigits (n / 10) ++ [UInt8.ofNat (48 + n % 10)] := by
  conv => lhs; rw [Lib.decDigits, dif_neg h]
set_option maxHeartbeats 1000000 in
theorem ref1_dec (n : Nat) (w : World) (hn : n < 10000) : Calls Tryd.prog 34 #[.int .i64 n] w fun e w' => e = .returned (.string (strOf (Lib.decDigits n))) ∧ Below w.heap.size w w' := by
  have HB0 := Below.refl w.heap.size w
  have hl4 := (pad_eq 3 n hn).2
  have h0 : Hid (strOf [] = ⟨#[]⟩) := rfl
  go_enter Tryd.func34, Tryd.ntmps34
  go_wp2
  go_loopw [0, 3] (fun x s wr => ∃ (m : Nat) (l : List UInt8), x = .int .i64 m ∧ s = .string (strOf l) ∧ Hid (Lib.decDigits n = Lib.decDigits m ++ l) ∧ m ≤ n ∧ Below w.heap.size w wr) (fun x _ _ => (intOf x).toNat)
  case atStart => exact ⟨n, [], rfl, by rw [h0.out], Lib.hid (by simp), Nat.le_refl _, HB0⟩
  case round =>
    obtain ⟨m, l, rfl, rfl, HL, hm, HB⟩ := hrel
    clear HB0
    have hll : l.length ≤ 4 := by
      have := congrArg List.length HL.out
      rw [List.length_append] at this
      omega
    have hS : (strOf l).size ≤ 10 := by rw [strOf_size]; omega
    have HC := Lib.hid (strOf_cons (UInt8.ofNat (48 + m % 10)) l).symm
    have hm0 : (0 : Int) ≤ (m : Int) := by omega
    have hm1 : (m : Int) ≤ 10000 := by omega
    have hcv : (convert 53 9 (.slice (some ⟨wr.heap.size, 0, none⟩) 1 1)).run Tryd.prog (wr.alloc (.cells #[.int .u8 (48 + (m : Int) % 10)] 5)) = .ok (.string ⟨#[UInt8.ofNat (48 + m % 10)]⟩) (wr.alloc (.cells #[.int .u8 (48 + (m : Int) % 10)] 5)) := by
      refine run_convert_bytes_back _ _ _ 5 ⟨wr.heap.size, 0, none⟩ 1 [UInt8.ofNat (48 + m % 10)] Tryd.underlying53 Tryd.underlying5 Tryd.underlying9 ?_
      intro j hj
      simp only [List.length_cons, List.length_nil] at hj
      obtain rfl : j = 0 := by omega
      have hb : (UInt8.ofNat (48 + m % 10)).toNat = 48 + m % 10 := by rw [UInt8.toNat_ofNat']; omega
      show (wr.alloc _).cell? ((⟨wr.heap.size, 0, none⟩ : Addr).add 0) = _
      rw [show ((⟨wr.heap.size, 0, none⟩ : Addr).add 0) = ⟨wr.heap.size, 0, none⟩ from by unfold Addr.add; simp]
      simp [hb]
      omega
    have zr := HB.size
    by_cases h10 : m < 10
    · have hz : (m : Int) / 10 = 0 := by omega
      have HR : Hid (strOf (UInt8.ofNat (48 + m % 10) :: l) = strOf (Lib.decDigits n)) := by
        show _ = _
        rw [HL.out, Lib.decDigits_one h10, Nat.mod_eq_of_lt h10]
        rfl
      generalize strOf l = S at *
      generalize UInt8.ofNat (48 + m % 10) = cb at *
      clear h10
      go_wp2
      go_ret
      exact ⟨by rw [← HR.out, HC.out]; rfl, by (repeat' (first | (with_reducible exact Below.refl _ _) | (with_reducible assumption) | (with_reducible refine Below.trans ?_ (Below.mono (by with_reducible assumption) ?_)) | (with_reducible refine Below.alloc ?_ ?_ _) | (with_reducible refine Below.setCell ?_ ?_ _) | (with_reducible refine below_drewN ?_ _) | (with_reducible refine Below.drew ?_) | go_size))⟩
    · have hz : ¬ (m : Int) / 10 = 0 := by omega
      have hz2 : ((m : Int) / 10 == 0) = false := by simp; omega
      have HR : Hid (Lib.decDigits n = Lib.decDigits (m / 10) ++ (UInt8.ofNat (48 + m % 10) :: l)) := by
        show _ = _
        rw [HL.out, decDigits_snoc h10]
        simp
      have hmm : m / 10 < m := by omega
      generalize hSS : strOf l = S at *
      have HSS := Lib.hid hSS
      clear hSS
      generalize hcb : UInt8.ofNat (48 + m % 10) = cb at *
      clear hcb h10
      go_wp2
      go_roundw
      case rel => exact ⟨m / 10, cb :: l, by go_num, by rw [HC.out], HR, by omega, by (repeat' (first | (with_reducible exact Below.refl _ _) | (with_reducible assumption) | (with_reducible refine Below.trans ?_ (Below.mono (by with_reducible assumption) ?_)) | (with_reducible refine Below.alloc ?_ ?_ _) | (with_reducible refine Below.setCell ?_ ?_ _) | (with_reducible refine below_drewN ?_ _) | (with_reducible refine Below.drew ?_) | go_size))⟩
      case measure => simp [intOf]; omega
/-- A day as text. -/
noncomputable def dayS (n : Int) : ByteArray := by
  classical exact if h : ∃ s, ∃ y m d : Nat, Cal.Vld y m d ∧ n = Cal.num y m d ∧ s = dateS y m d then h.choose else ⟨#[]⟩
theorem dayS_eq (y m d : Nat) (hv : Cal.Vld y m d) : dayS (Cal.num y m d) = dateS y m d := by
  have h : ∃ s, ∃ y' m' d' : Nat, Cal.Vld y' m' d' ∧ Cal.num y m d = Cal.num y' m' d' ∧ s = dateS y' m' d' := ⟨_, y, m, d, hv, rfl, rfl⟩
  unfold dayS
  rw [dif_pos h]
  obtain ⟨y', m', d', hv', hn, hs⟩ := h.choose_spec
  obtain ⟨e1, e2, e3⟩ := Cal.num_inj hv hv' hn
  obtain rfl : y = y' := by omega
  obtain rfl : m = m' := by omega
  obtain rfl : d = d' := by omega
  exact hs
theorem day_nat (n : Int) (h1 : -719162 ≤ n) (h2 : n ≤ 2932896) : ∃ y m d : Nat, Cal.Vld y m d ∧ n = Cal.num y m d := by
  obtain ⟨y, m, d, hv, hn⟩ := Cal.date_ex n h1 h2
  have hv' := hv
  obtain ⟨a1, a2, a3, a4, a5, a6⟩ := hv'
  obtain ⟨Y, rfl⟩ := Int.eq_ofNat_of_zero_le (show 0 ≤ y by omega)
  obtain ⟨M, rfl⟩ := Int.eq_ofNat_of_zero_le (show 0 ≤ m by omega)
  obtain ⟨D, rfl⟩ := Int.eq_ofNat_of_zero_le (show 0 ≤ d by omega)
  exact ⟨Y, M, D, hv, hn.symm⟩
theorem dayS_size (n : Int) (h1 : -719162 ≤ n) (h2 : n ≤ 2932896) : (dayS n).size = 10 := by
  obtain ⟨y, m, d, hv, rfl⟩ := day_nat n h1 h2
  rw [dayS_eq y m d hv]
  unfold dateS
  rw [strOf_size]
  simp [lowd_len]
set_option maxHeartbeats 1000000 in
theorem leap_dayText (n : Int) (w : World) (ht : Tab w) (h1 : -719162 ≤ n) (h2 : n ≤ 2932896) : Calls Tryd.prog 30 #[.int .i64 n] w fun e w' => e = .returned (.string (dayS n)) ∧ Below w.heap.size w w' := by
  obtain ⟨y, m, d, hv, rfl⟩ := day_nat n h1 h2
  rw [dayS_eq y m d hv]
  have H1 := Lib.hid fun w => cal_date_yes y m d _ w hv rfl
  have H2 := Lib.hid fun w h => cal_print_yes y m d w h hv
  have HT := Lib.hid ht
  have HB0 := Below.refl w.heap.size w
  generalize dateS y m d = S at *
  generalize Cal.num y m d = q at *
  clear ht hv h1 h2
  go_enter Tryd.func30, Tryd.ntmps30
  go_wp2_with fail
  refine (H1.out _).mono ?_; rintro e w1 ⟨rfl, hb1⟩; obtain ⟨hc1, hf1⟩ := bcell hb1; have hz1 := hb1.size; (try simp only [World.size_alloc, World.size_setCell, World.heap_drewN] at hb1 hc1 hf1 hz1); (try have ha01 : w.heap.size < w1.heap.size := by omega); (try have ha11 : w.heap.size + 1 < w1.heap.size := by omega); (try have ha21 : w.heap.size + 2 < w1.heap.size := by omega); (try have hal1 : w.heap.size ≤ w1.heap.size := by omega); (try have ham1 : w.heap.size < w1.heap.size + 2 := by omega)
  go_wp2_with fail
  refine (H2.out _ (HT.out.below (by (repeat' (first | (with_reducible exact Below.refl _ _) | (with_reducible assumption) | (with_reducible refine Below.trans ?_ (Below.mono (by with_reducible assumption) ?_)) | (with_reducible refine Below.alloc ?_ ?_ _) | (with_reducible refine Below.setCell ?_ ?_ _) | (with_reducible refine below_drewN ?_ _) | (with_reducible refine Below.drew ?_) | go_size))))).mono ?_; rintro e w2 ⟨rfl, hb2⟩; obtain ⟨hc2, hf2⟩ := bcell hb2; have hz2 := hb2.size; (try simp only [World.size_alloc, World.size_setCell, World.heap_drewN] at hb2 hc2 hf2 hz2); (try have ha02 : w.heap.size < w2.heap.size := by omega); (try have ha12 : w.heap.size + 1 < w2.heap.size := by omega); (try have ha22 : w.heap.size + 2 < w2.heap.size := by omega); (try have hal2 : w.heap.size ≤ w2.heap.size := by omega); (try have ham2 : w.heap.size < w2.heap.size + 2 := by omega); (try have hb02 : w1.heap.size < w2.heap.size := by omega); (try have hb12 : w1.heap.size + 1 < w2.heap.size := by omega); (try have hb22 : w1.heap.size + 2 < w2.heap.size := by omega); (try have hbl2 : w1.heap.size ≤ w2.heap.size := by omega); (try have hbm2 : w1.heap.size < w2.heap.size + 2 := by omega)
  go_wp2
  go_ret
  exact ⟨rfl, by (repeat' (first | (with_reducible exact Below.refl _ _) | (with_reducible assumption) | (with_reducible refine Below.trans ?_ (Below.mono (by with_reducible assumption) ?_)) | (with_reducible refine Below.alloc ?_ ?_ _) | (with_reducible refine Below.setCell ?_ ?_ _) | (with_reducible refine below_drewN ?_ _) | (with_reducible refine Below.drew ?_) | go_size))⟩
set_option maxHeartbeats 1000000 in
theorem ref3_date (n : Int) (w : World) (h1 : -719162 ≤ n) (h2 : n ≤ 2932896) : Calls Tryd.prog 33 #[.int .i64 n] w fun e w' => e = .returned (.string (dayS n)) ∧ Below w.heap.size w w' := by
  obtain ⟨y, m, d, hv, rfl⟩ := day_nat n h1 h2
  rw [dayS_eq y m d hv]
  have H1 := Lib.hid fun w => ref2_date_yes y m d _ w hv rfl
  have H2 := Lib.hid fun w => ref2_print_yes y m d w hv
  have HB0 := Below.refl w.heap.size w
  generalize dateS y m d = S at *
  generalize Cal.num y m d = q at *
  clear hv h1 h2
  go_enter Tryd.func33, Tryd.ntmps33
  go_wp2_with fail
  refine (H1.out _).mono ?_; rintro e w1 ⟨rfl, hb1⟩; obtain ⟨hc1, hf1⟩ := bcell hb1; have hz1 := hb1.size; (try simp only [World.size_alloc, World.size_setCell, World.heap_drewN] at hb1 hc1 hf1 hz1); (try have ha01 : w.heap.size < w1.heap.size := by omega); (try have ha11 : w.heap.size + 1 < w1.heap.size := by omega); (try have ha21 : w.heap.size + 2 < w1.heap.size := by omega); (try have hal1 : w.heap.size ≤ w1.heap.size := by omega); (try have ham1 : w.heap.size < w1.heap.size + 2 := by omega)
  go_wp2_with fail
  refine (H2.out _).mono ?_; rintro e w2 ⟨rfl, hb2⟩; obtain ⟨hc2, hf2⟩ := bcell hb2; have hz2 := hb2.size; (try simp only [World.size_alloc, World.size_setCell, World.heap_drewN] at hb2 hc2 hf2 hz2); (try have ha02 : w.heap.size < w2.heap.size := by omega); (try have ha12 : w.heap.size + 1 < w2.heap.size := by omega); (try have ha22 : w.heap.size + 2 < w2.heap.size := by omega); (try have hal2 : w.heap.size ≤ w2.heap.size := by omega); (try have ham2 : w.heap.size < w2.heap.size + 2 := by omega); (try have hb02 : w1.heap.size < w2.heap.size := by omega); (try have hb12 : w1.heap.size + 1 < w2.heap.size := by omega); (try have hb22 : w1.heap.size + 2 < w2.heap.size := by omega); (try have hbl2 : w1.heap.size ≤ w2.heap.size := by omega); (try have hbm2 : w1.heap.size < w2.heap.size + 2 := by omega)
  go_wp2
  go_ret
  exact ⟨rfl, by (repeat' (first | (with_reducible exact Below.refl _ _) | (with_reducible assumption) | (with_reducible refine Below.trans ?_ (Below.mono (by with_reducible assumption) ?_)) | (with_reducible refine Below.alloc ?_ ?_ _) | (with_reducible refine Below.setCell ?_ ?_ _) | (with_reducible refine below_drewN ?_ _) | (with_reducible refine Below.drew ?_) | go_size))⟩
end Go.Proofs.YtonleiffbfdikaaDoor
