/- The reference's Hear of any list. -/
import Derived.Test.YtmbopdabbegbiaaRef10Clk
import Derived.Test.YtmbopdabbegbiaaS10P
set_option linter.unusedSimpArgs false
set_option linter.unusedVariables false
namespace Go.Proofs.Ytmbopdabbegbiaa
open Go.RowKit

/-- A stamp ahead of a list. -/
def shZ (m c : Int) (z : Nat → Int) : Nat → Int
  | 0 => m
  | 1 => c
  | j + 2 => z j
theorem cells_sh (m c : Int) (z : Nat → Int) (k : Nat) : ([.int .i64 m, .int .i64 c] : List Value) ++ cellsOf z k = cellsOf (shZ m c z) (k + 2) := by
  apply List.ext_getElem?
  intro j
  rcases j with _ | _ | j
  · rw [cellsOf_at _ _ _ (by omega)]; rfl
  · rw [cellsOf_at _ _ _ (by omega)]; rfl
  · show (cellsOf z k)[j]? = _
    by_cases h : j < k
    · rw [cellsOf_at _ _ _ h, cellsOf_at _ _ _ (by omega)]; rfl
    · rw [List.getElem?_eq_none (by rw [cellsOf_len]; omega), List.getElem?_eq_none (by rw [cellsOf_len]; omega)]
theorem mx_sh (m c : Int) (z : Nat → Int) (k : Nat) : mxS (fun j => shZ m c z (j * 2)) (fun j => shZ m c z (j * 2 + 1)) (k + 1) = hrS m c (fun j => z (j * 2)) (fun j => z (j * 2 + 1)) k := by
  induction k with
  | zero => rfl
  | succ k ih =>
    rw [mxS_step _ _ (k + 1) (by omega), ih]
    have e1 : shZ m c z ((k + 1) * 2) = z (k * 2) := by rw [show (k + 1) * 2 = k * 2 + 2 from by omega]; rfl
    have e2 : shZ m c z ((k + 1) * 2 + 1) = z (k * 2 + 1) := by rw [show (k + 1) * 2 + 1 = k * 2 + 1 + 2 from by omega]; rfl
    simp only [e1, e2]
    rfl
theorem ref10_hear_arg (b : Nat) (t : Int) (v : Value) (w : World) (ht : isMilliB t = false) : Calls Try.prog 20 #[.pointer (some ⟨b, 0, none⟩), .int .i64 t, v] w fun e w' => e = .returned (.int .i64 1) ∧ w = w' := by
  rcases milli_no ht with t1 | ⟨t1, t2⟩
  all_goals
    clear ht
    go_enter Try.func20, Try.ntmps20
    go_wp2
    go_ret
    exact ⟨rfl, rfl⟩
set_option maxHeartbeats 4000000 in
theorem ref10_hear_bad (b : Nat) (A : Option Addr) (n c' : Nat) (t : Int) (p q : Nat → Int) (w : World) (hz : PairsAt w A n p q) (ht : isMilliB t = true) (hn : n ≤ 100000) (hb : badL p q n) :
    Calls Try.prog 20 #[.pointer (some ⟨b, 0, none⟩), .int .i64 t, .slice A n c'] w fun e w' => e = .returned (.int .i64 1) ∧ Below w.heap.size w w' := by
  have HZ := Lib.hid hz
  have HD := Lib.hid hb
  have tb : 0 ≤ t ∧ t ≤ 281474976710655 := by simpa [isMilliB] using ht
  have t1 : decide (t < 0) = false := by simp only [decide_eq_false_iff_not]; omega
  have t2 : decide (281474976710655 < t) = false := by simp only [decide_eq_false_iff_not]; omega
  clear hz hb ht tb
  go_enter Try.func20, Try.ntmps20
  go_wp2
  go_loopw [7] (fun i wr => ∃ k : Nat, k ≤ n ∧ i = .int .i64 k ∧ (∀ j, j < k → isStampB (p j) (q j) = true) ∧ Below w.heap.size w wr) (fun i _ => n - (intOf i).toNat)
  case atStart => exact ⟨0, Nat.zero_le _, rfl, fun j hj => absurd hj (by omega), Below.refl _ _⟩
  case round =>
    obtain ⟨k, hk, rfl, hok, HB⟩ := hrel
    have HK := Lib.hid hok
    clear hok
    have zr := HB.size
    by_cases hlt : k < n
    · obtain ⟨B, O, rfl, hB, hcells⟩ := HZ.out (by omega)
      have lk : (k : Int) < (n : Int) := by omega
      have lB : B < wr.heap.size := Nat.lt_of_lt_of_le hB zr
      have x2 : wr.cell? ⟨B, O + k * 2, none⟩ = some (.int .i64 (p k)) := (HB.cell (p := ⟨B, O + k * 2, none⟩) hB).trans (hcells k hlt).1
      have x3 : wr.cell? ⟨B, O + k * 2 + 1, none⟩ = some (.int .i64 (q k)) := (HB.cell (p := ⟨B, O + k * 2 + 1, none⟩) hB).trans (hcells k hlt).2
      clear hcells
      cases hs : isStampB (p k) (q k)
      · have HS := Lib.hid (ref10_is (p k) (q k))
        rw [hs] at HS
        clear hs
        generalize p k = pk at *
        generalize q k = qk at *
        go_wp2_with fail
        refine (HS.out _).mono ?_; rintro e w5 ⟨rfl, hb5⟩
        have HB5 : Below w.heap.size w w5 := Below.trans (show Below w.heap.size w _ from (by (repeat' (first | (with_reducible exact Below.refl _ _) | (with_reducible assumption) | (with_reducible refine Below.trans ?_ (Below.mono (by with_reducible assumption) ?_)) | (with_reducible refine Below.alloc ?_ ?_ _) | (with_reducible refine Below.setCell ?_ ?_ _) | (with_reducible refine below_drewN ?_ _) | (with_reducible refine Below.drew ?_) | go_size)))) (hb5.mono (by first | exact zr | (simp; omega)))
        have z5 := HB5.size
        clear hb5
        go_wp2
        go_ret
        go_light
        exact ⟨rfl, HB5⟩
      · have HK' : Hid (∀ j, j < k + 1 → isStampB (p j) (q j) = true) := Lib.hid fun j hj => by
          rcases (show j < k ∨ j = k from by omega) with h | rfl
          · exact HK.out j h
          · exact hs
        have HS := Lib.hid (ref10_is (p k) (q k))
        rw [hs] at HS
        clear hs
        generalize p k = pk at *
        generalize q k = qk at *
        go_wp2_with fail
        refine (HS.out _).mono ?_; rintro e w5 ⟨rfl, hb5⟩
        have HB5 : Below w.heap.size w w5 := Below.trans (show Below w.heap.size w _ from (by (repeat' (first | (with_reducible exact Below.refl _ _) | (with_reducible assumption) | (with_reducible refine Below.trans ?_ (Below.mono (by with_reducible assumption) ?_)) | (with_reducible refine Below.alloc ?_ ?_ _) | (with_reducible refine Below.setCell ?_ ?_ _) | (with_reducible refine below_drewN ?_ _) | (with_reducible refine Below.drew ?_) | go_size)))) (hb5.mono (by first | exact zr | (simp; omega)))
        have z5 := HB5.size
        clear hb5
        go_wp2
        go_roundw
        case rel => exact ⟨k + 1, by omega, by go_num, HK'.out, HB5⟩
        case measure => simp [intOf]; omega
    · exfalso
      obtain ⟨j, hj, h⟩ := HD.out
      have := HK.out j (by omega)
      rw [h] at this
      exact Bool.noConfusion this
set_option maxRecDepth 100000 in
set_option maxHeartbeats 8000000 in
theorem ref10_hear_ok (b : Nat) (A : Option Addr) (n c' : Nat) (m c bd t : Int) (z : Nat → Int) (w : World) (K : Ints3 w b m c bd) (hz : FlatAt w A 2 n z) (hnil : A = none → n = 0 ∧ c' = 0) (ht : isMilliB t = true) (hn : n ≤ 1000) (hb : ¬ badL (fun j => z (j * 2)) (fun j => z (j * 2 + 1)) n) :
    Calls Try.prog 20 #[.pointer (some ⟨b, 0, none⟩), .int .i64 t, .slice A n c'] w fun e w' => (farL t (fun j => z (j * 2)) n ∧ e = .returned (.int .i64 16) ∧ Below w.heap.size w w') ∨ (¬ farL t (fun j => z (j * 2)) n ∧ e = .returned (.int .i64 0) ∧ Only b w w' ∧ Ints3 w' b (hrS m c (fun j => z (j * 2)) (fun j => z (j * 2 + 1)) n).1 (hrS m c (fun j => z (j * 2)) (fun j => z (j * 2 + 1)) n).2 bd) := by
  obtain ⟨i0, hi, hz0, hz1, hz2⟩ := info_parts stamp_info
  have HZ := Lib.hid hz
  have HPZ := Lib.hid hz.pairs
  have HD := Lib.hid hb
  have HK0 := Lib.hid K
  have lb := K.lt
  have tb : 0 ≤ t ∧ t ≤ 281474976710655 := by simpa [isMilliB] using ht
  have t1 : decide (t < 0) = false := by simp only [decide_eq_false_iff_not]; omega
  have t2 : decide (281474976710655 < t) = false := by simp only [decide_eq_false_iff_not]; omega
  have tw : IntKind.i64.wrap (t + 60000) = t + 60000 := IntWalk.i64_in _ (by omega)
  have HMX := Lib.hid (mx_sh m c z n)
  have HNIL := Lib.hid hnil
  have Hn := Lib.hid hn
  generalize hp : (fun j => z (j * 2)) = p at *
  generalize hq : (fun j => z (j * 2 + 1)) = q at *
  clear hz hb K ht hp hq hnil hn
  go_enter Try.func20, Try.ntmps20
  go_wp2
  go_loopw [7] (fun i wr => ∃ k : Nat, k ≤ n ∧ i = .int .i64 k ∧ Below w.heap.size w wr) (fun i _ => n - (intOf i).toNat)
  case atStart => exact ⟨0, Nat.zero_le _, rfl, Below.refl _ _⟩
  case round =>
    obtain ⟨k, hk, rfl, HB⟩ := hrel
    have hn := Hn.out
    have zr := HB.size
    by_cases hlt : k < n
    · obtain ⟨B, O, rfl, hB, hcells⟩ := HPZ.out (by omega)
      have lk : (k : Int) < (n : Int) := by omega
      have lB : B < wr.heap.size := Nat.lt_of_lt_of_le hB zr
      have x2 : wr.cell? ⟨B, O + k * 2, none⟩ = some (.int .i64 (p k)) := (HB.cell (p := ⟨B, O + k * 2, none⟩) hB).trans (hcells k hlt).1
      have x3 : wr.cell? ⟨B, O + k * 2 + 1, none⟩ = some (.int .i64 (q k)) := (HB.cell (p := ⟨B, O + k * 2 + 1, none⟩) hB).trans (hcells k hlt).2
      clear hcells
      have hs : isStampB (p k) (q k) = true := by
        cases h3 : isStampB (p k) (q k)
        · exact absurd ⟨k, hlt, h3⟩ HD.out
        · rfl
      have HS := Lib.hid (ref10_is (p k) (q k))
      rw [hs] at HS
      clear hs
      generalize p k = pk at *
      generalize q k = qk at *
      go_wp2_with fail
      refine (HS.out _).mono ?_; rintro e w5 ⟨rfl, hb5⟩
      have HB5 : Below w.heap.size w w5 := Below.trans (show Below w.heap.size w _ from (by (repeat' (first | (with_reducible exact Below.refl _ _) | (with_reducible assumption) | (with_reducible refine Below.trans ?_ (Below.mono (by with_reducible assumption) ?_)) | (with_reducible refine Below.alloc ?_ ?_ _) | (with_reducible refine Below.setCell ?_ ?_ _) | (with_reducible refine below_drewN ?_ _) | (with_reducible refine Below.drew ?_) | go_size)))) (hb5.mono (by first | exact zr | (simp; omega)))
      have z5 := HB5.size
      clear hb5
      go_wp2
      go_roundw
      case rel => exact ⟨k + 1, by omega, by go_num, HB5⟩
      case measure => simp [intOf]; omega
    · obtain rfl : k = n := by omega
      have HB1 := Lib.hid HB
      clear HB
      go_wp2
      go_loopw [8] (fun i wr => ∃ k' : Nat, k' ≤ k ∧ i = .int .i64 k' ∧ (∀ j, j < k' → p j ≤ t + 60000) ∧ Below w.heap.size w wr) (fun i _ => k - (intOf i).toNat)
      case atStart => exact ⟨0, Nat.zero_le _, rfl, fun j hj => absurd hj (by omega), HB1.out⟩
      case round =>
        obtain ⟨j, hj, rfl, hok, HB⟩ := hrel
        have HF := Lib.hid hok
        clear hok zr
        have zr := HB.size
        by_cases hlt : j < k
        · obtain ⟨B, O, rfl, hB, hcells⟩ := HPZ.out (by omega)
          have lk : (j : Int) < (k : Int) := by omega
          have lB : B < wr.heap.size := Nat.lt_of_lt_of_le hB zr
          have x2 : wr.cell? ⟨B, O + j * 2, none⟩ = some (.int .i64 (p j)) := (HB.cell (p := ⟨B, O + j * 2, none⟩) hB).trans (hcells j hlt).1
          clear hcells
          by_cases hd : p j ≤ t + 60000
          · have HF' : Hid (∀ i, i < j + 1 → p i ≤ t + 60000) := Lib.hid fun i hi => by
              rcases (show i < j ∨ i = j from by omega) with h | rfl
              · exact HF.out i h
              · exact hd
            generalize p j = pk at *
            have hd' : decide (t + 60000 < pk) = false := by simp only [decide_eq_false_iff_not]; omega
            go_wp2
            go_roundw
            case rel => exact ⟨j + 1, by omega, by go_num, HF'.out, by (repeat' (first | (with_reducible exact Below.refl _ _) | (with_reducible assumption) | (with_reducible refine Below.trans ?_ (Below.mono (by with_reducible assumption) ?_)) | (with_reducible refine Below.alloc ?_ ?_ _) | (with_reducible refine Below.setCell ?_ ?_ _) | (with_reducible refine below_drewN ?_ _) | (with_reducible refine Below.drew ?_) | go_size))⟩
            case measure => simp [intOf]; omega
          · have HFF := Lib.hid (show farL t p k from ⟨j, hlt, by omega⟩)
            generalize p j = pk at *
            have hd' : decide (t + 60000 < pk) = true := by simp only [decide_eq_true_eq]; omega
            go_wp2
            go_ret
            go_light
            exact .inl ⟨HFF.out, rfl, by (repeat' (first | (with_reducible exact Below.refl _ _) | (with_reducible assumption) | (with_reducible refine Below.trans ?_ (Below.mono (by with_reducible assumption) ?_)) | (with_reducible refine Below.alloc ?_ ?_ _) | (with_reducible refine Below.setCell ?_ ?_ _) | (with_reducible refine below_drewN ?_ _) | (with_reducible refine Below.drew ?_) | go_size))⟩
        · obtain rfl : j = k := by omega
          have HFF : Hid (¬ farL t p j) := Lib.hid fun ⟨i, hi, h⟩ => by
            have := HF.out i hi
            omega
          have K2 := HK0.out.below HB HK0.out.lt
          have lb2 := K2.lt
          have K2' := K2
          obtain ⟨c0, c1, c2, f0, f1, f2, _⟩ := K2'
          clear HF HB1
          have HW0 : Below w.heap.size w (wr.alloc (.cells #[.int .i64 m, .int .i64 c] 32)) := HB.alloc zr _
          have k1 : Ints3 (wr.alloc (.cells #[.int .i64 m, .int .i64 c] 32)) b m c bd := K2.alloc _
          rcases A with _ | ad
          · obtain ⟨rfl, rfl⟩ := HNIL.out rfl
            go_wp2_with fail
            have hp1 : PairsAt (wr.alloc (.cells #[.int .i64 m, .int .i64 c] 32)) (some ⟨wr.heap.size, 0, none⟩) 1 (fun i => if i = 0 then m else 0) (fun i => if i = 0 then c else 0) := by
              intro _
              refine ⟨wr.heap.size, 0, rfl, by simp, fun i hi => ?_⟩
              obtain rfl : i = 0 := by omega
              exact ⟨by simp [go_sem], by simp [go_sem]⟩
            refine (ref10_max_any _ _ (some ⟨wr.heap.size, 0, none⟩) 1 1 _ (by omega) hp1).mono ?_; rintro e w2 ⟨rfl, hb2⟩
            clear hp1
            have k2 := k1.below hb2 k1.lt
            have HB2 : Below w.heap.size w w2 := HW0.trans (hb2.mono HW0.size)
            have HO2 : Only b w w2 := Only.of_below HB2
            have z2 := HB2.size
            have e2 : (mxS (fun i => if i = 0 then m else 0) (fun i => if i = 0 then c else 0) 1) = (m, c) := rfl
            rw [e2]
            have k2' := k2
            obtain ⟨y0, y1, y2, g0, g1, g2, _⟩ := k2'
            clear hb2 c0 c1 c2 f0 f1 f2 K2 k1
            go_wp2
            go_ret
            go_light
            refine .inr ⟨HFF.out, rfl, by (repeat' (first | (with_reducible exact Only.refl _ _) | (with_reducible assumption) | (with_reducible refine Only.alloc ?_ _) | (with_reducible refine Only.setB ?_ _) | (refine Only.setCell ?_ (Or.inr ?_) _) | (with_reducible refine Only.drewN ?_ _) | (with_reducible refine Only.drew ?_) | (with_reducible refine Only.trans ?_ (by with_reducible assumption)) | (with_reducible refine Only.trans ?_ (Only.of_below (by with_reducible assumption))) | go_size)), ?_⟩
            show Ints3 _ b m c bd
            (repeat' (first | (with_reducible assumption) | (with_reducible apply Ints3.set0) | (with_reducible apply Ints3.set1) | (with_reducible apply Ints3.set2) | (with_reducible refine Ints3.other ?_ ?_ _) | (with_reducible refine Ints3.alloc ?_ _) | (with_reducible refine Ints3.drewN ?_ _) | (with_reducible refine Ints3.drew ?_) | (with_reducible exact Ints3.new _ _ _ _ _) | go_size))
          · have hsrc := (HZ.out.below HW0).cells
            go_wp2_with (at_builtin; refine wpList_append_own _ rfl (.tmp 46) (.tmp 47) _ rfl wr.heap.size 32 i0 _ 2 16 Try.underlying61 hi hz0 hz1 hz2 rfl (by decide) (.slice (some ⟨wr.heap.size, 0, none⟩) 1 1) 1 [.int .i64 m, .int .i64 c] rfl ⟨by simp, .inr ⟨wr.heap.size, 1, #[.int .i64 m, .int .i64 c], rfl, Nat.le_refl _, heap_alloc_new wr _, by omega, by unfold maxLen; omega, rfl, by simp⟩⟩ ad j c' (cellsOf z (j * 2)) rfl (cellsOf_len _ _) hsrc (cellsOf_one _ _) (by unfold maxLen; omega) (by omega) (by simp) ?_; intro v1 w1 hown1 hg1 hat1)
            have hown : w1.ownsRow wr.heap.size 32 2 v1 (j + 1) (cellsOf (shZ m c z) ((j + 1) * 2)) := by
              rw [show (j + 1) * 2 = j * 2 + 2 from by omega, ← cells_sh, Nat.add_comm j 1]
              exact hown1
            have HBw1 : Below wr.heap.size wr w1 := (Below.alloc (Below.refl _ _) (Nat.le_refl _) _).grown hg1 (by simp) (fun k hk => by simp [Value.ownBlock] at hk; omega)
            have HB1 : Below w.heap.size w w1 := HB.trans (HBw1.mono zr)
            have k2 := K2.below HBw1 lb2
            obtain ⟨A1, c1', rfl, hp⟩ := own_pairs hown
            clear hown hown1 hg1 hat1 hsrc HW0 c0 c1 c2 f0 f1 f2 K2 k1
            have HMM := Lib.hid (ref10_max_any _ _ A1 (j + 1) c1' _ (by omega) hp)
            rw [HMX.out] at HMM
            have k2' := k2
            obtain ⟨y0, y1, y2, g0, g1, g2, _⟩ := k2'
            refine HMM.out.mono ?_; rintro e w2 ⟨rfl, hb2⟩
            have k3 := k2.below hb2 k2.lt
            have HB2 : Below w.heap.size w w2 := HB1.trans (hb2.mono HB1.size)
            have HO2 : Only b w w2 := Only.of_below HB2
            have z2 := HB2.size
            clear y0 y1 y2 g0 g1 g2 k2 hb2 hp
            have k3' := k3
            obtain ⟨y0, y1, y2, g0, g1, g2, _⟩ := k3'
            go_wp2
            go_ret
            go_light
            refine .inr ⟨HFF.out, rfl, by (repeat' (first | (with_reducible exact Only.refl _ _) | (with_reducible assumption) | (with_reducible refine Only.alloc ?_ _) | (with_reducible refine Only.setB ?_ _) | (refine Only.setCell ?_ (Or.inr ?_) _) | (with_reducible refine Only.drewN ?_ _) | (with_reducible refine Only.drew ?_) | (with_reducible refine Only.trans ?_ (by with_reducible assumption)) | (with_reducible refine Only.trans ?_ (Only.of_below (by with_reducible assumption))) | go_size)), ?_⟩
            (repeat' (first | (with_reducible assumption) | (with_reducible apply Ints3.set0) | (with_reducible apply Ints3.set1) | (with_reducible apply Ints3.set2) | (with_reducible refine Ints3.other ?_ ?_ _) | (with_reducible refine Ints3.alloc ?_ _) | (with_reducible refine Ints3.drewN ?_ _) | (with_reducible refine Ints3.drew ?_) | (with_reducible exact Ints3.new _ _ _ _ _) | go_size))
end Go.Proofs.Ytmbopdabbegbiaa
