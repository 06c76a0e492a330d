/- hlc.Hear of any list of stamps. -/
import Derived.Test.YtmbopdabbegbiaaS10C
import Derived.Test.YtmbopdabbegbiaaHlcMax
set_option linter.unusedSimpArgs false
set_option linter.unusedVariables false
namespace Go.Proofs.Ytmbopdabbegbiaa
open Go.RowKit

/-- The greatest of one stamp and the first k others. -/
def hrS (m c : Int) (p q : Nat → Int) : Nat → Int × Int
  | 0 => (m, c)
  | k + 1 => (mx1 (hrS m c p q k).1 (hrS m c p q k).2 (p k) (q k), mx2 (hrS m c p q k).1 (hrS m c p q k).2 (p k) (q k))
def badL (p q : Nat → Int) (n : Nat) : Prop := ∃ j, j < n ∧ isStampB (p j) (q j) = false
def farL (t : Int) (p : Nat → Int) (n : Nat) : Prop := ∃ j, j < n ∧ t + 60000 < p j
theorem hr_stamp {m c : Int} {p q : Nat → Int} {n : Nat} (h : isStampB m c = true) (hb : ¬ badL p q n) : ∀ k, k ≤ n → isStampB (hrS m c p q k).1 (hrS m c p q k).2 = true := by
  intro k
  induction k with
  | zero => exact fun _ => h
  | succ k ih =>
    intro hk
    have h1 := ih (by omega)
    have h2 : isStampB (p k) (q k) = true := by
      cases h3 : isStampB (p k) (q k)
      · exact absurd ⟨k, by omega, h3⟩ hb
      · rfl
    show isStampB (mx1 _ _ _ _) (mx2 _ _ _ _) = true
    unfold mx1 mx2
    split <;> assumption
set_option maxHeartbeats 4000000 in
theorem hlc_hear_bad (b : Nat) (A : Option Addr) (n c' : Nat) (t : Int) (p q : Nat → Int) (w : World) (hz : PairsAt w A n p q) (ht : isMilliB t = true) (hn : n ≤ 100000) (hb : badL p q n) :
    Calls Try.prog 19 #[.pointer (some ⟨b, 0, none⟩), .int .i64 t, .slice A n c'] w fun e w' => e = .returned (.int .i64 1) ∧ Below w.heap.size w w' := by
  have HZ := Lib.hid hz
  have HD := Lib.hid hb
  clear hz hb
  go_enter Try.func19, Try.ntmps19
  go_wp2_with (go_at_call 34; refine (hlc_isMilli _ _).mono ?_; rintro e w' ⟨rfl, rfl⟩)
  go_loopw [22] (fun i wr => ∃ k : Nat, k ≤ n ∧ i = .int .i64 k ∧ (∀ j, j < k → isStampB (p j) (q j) = true) ∧ Below w.heap.size w wr) (fun i _ => n - (intOf i).toNat)
  case atStart => exact ⟨0, Nat.zero_le _, rfl, fun j hj => absurd hj (by omega), Below.refl _ _⟩
  case round =>
    obtain ⟨k, hk, rfl, hok, HB⟩ := hrel
    have HK := Lib.hid hok
    clear hok
    have zr := HB.size
    by_cases hlt : k < n
    · obtain ⟨B, O, rfl, hB, hcells⟩ := HZ.out (by omega)
      have lk : (k : Int) < (n : Int) := by omega
      have lB : B < wr.heap.size := Nat.lt_of_lt_of_le hB zr
      have x2 : wr.cell? ⟨B, O + k * 2, none⟩ = some (.int .i64 (p k)) := (HB.cell (p := ⟨B, O + k * 2, none⟩) hB).trans (hcells k hlt).1
      have x3 : wr.cell? ⟨B, O + k * 2 + 1, none⟩ = some (.int .i64 (q k)) := (HB.cell (p := ⟨B, O + k * 2 + 1, none⟩) hB).trans (hcells k hlt).2
      clear hcells
      cases hs : isStampB (p k) (q k)
      · have HS := Lib.hid (hlc_isStamp (p k) (q k))
        rw [hs] at HS
        clear hs
        generalize p k = pk at *
        generalize q k = qk at *
        go_wp2_with fail
        refine (HS.out _).mono ?_; rintro e w5 ⟨rfl, hb5⟩
        have HB5 : Below w.heap.size w w5 := Below.trans (show Below w.heap.size w _ from (by (repeat' (first | (with_reducible exact Below.refl _ _) | (with_reducible assumption) | (with_reducible refine Below.trans ?_ (Below.mono (by with_reducible assumption) ?_)) | (with_reducible refine Below.alloc ?_ ?_ _) | (with_reducible refine Below.setCell ?_ ?_ _) | (with_reducible refine below_drewN ?_ _) | (with_reducible refine Below.drew ?_) | go_size)))) (hb5.mono (by simp; omega))
        have z5 := HB5.size
        clear hb5
        go_wp2
        go_ret
        go_light
        exact ⟨rfl, HB5⟩
      · have HK' : Hid (∀ j, j < k + 1 → isStampB (p j) (q j) = true) := Lib.hid fun j hj => by
          rcases (show j < k ∨ j = k from by omega) with h | rfl
          · exact HK.out j h
          · exact hs
        have HS := Lib.hid (hlc_isStamp (p k) (q k))
        rw [hs] at HS
        clear hs
        generalize p k = pk at *
        generalize q k = qk at *
        go_wp2_with fail
        refine (HS.out _).mono ?_; rintro e w5 ⟨rfl, hb5⟩
        have HB5 : Below w.heap.size w w5 := Below.trans (show Below w.heap.size w _ from (by (repeat' (first | (with_reducible exact Below.refl _ _) | (with_reducible assumption) | (with_reducible refine Below.trans ?_ (Below.mono (by with_reducible assumption) ?_)) | (with_reducible refine Below.alloc ?_ ?_ _) | (with_reducible refine Below.setCell ?_ ?_ _) | (with_reducible refine below_drewN ?_ _) | (with_reducible refine Below.drew ?_) | go_size)))) (hb5.mono (by simp; omega))
        have z5 := HB5.size
        clear hb5
        go_wp2
        go_roundw
        case rel => exact ⟨k + 1, by omega, by go_num, HK'.out, HB5⟩
        case measure => simp [intOf]; omega
    · exfalso
      obtain ⟨j, hj, h⟩ := HD.out
      have := HK.out j (by omega)
      rw [h] at this
      exact Bool.noConfusion this
set_option maxRecDepth 100000 in
set_option maxHeartbeats 8000000 in
theorem hlc_hear_ok (b : Nat) (A : Option Addr) (n c' : Nat) (m c bd t : Int) (p q : Nat → Int) (w : World) (K : Ints3 w b m c bd) (hz : PairsAt w A n p q) (hA : ∀ B O, A = some ⟨B, O, none⟩ → B ≠ b) (ht : isMilliB t = true) (hn : n ≤ 100000) (hb : ¬ badL p q n) :
    Calls Try.prog 19 #[.pointer (some ⟨b, 0, none⟩), .int .i64 t, .slice A n c'] w fun e w' => (farL t p n ∧ e = .returned (.int .i64 16) ∧ Below w.heap.size w w') ∨ (¬ farL t p n ∧ e = .returned (.int .i64 0) ∧ Only b w w' ∧ Ints3 w' b (hrS m c p q n).1 (hrS m c p q n).2 bd) := by
  have HZ := Lib.hid hz
  have HD := Lib.hid hb
  have HA := Lib.hid hA
  have HK0 := Lib.hid K
  have lb := K.lt
  have tb : 0 ≤ t ∧ t ≤ 281474976710655 := by simpa [isMilliB] using ht
  have tw : IntKind.i64.wrap (t + 60000) = t + 60000 := IntWalk.i64_in _ (by omega)
  clear hz hb hA K
  go_enter Try.func19, Try.ntmps19
  go_wp2_with (go_at_call 34; refine (hlc_isMilli _ _).mono ?_; rintro e w' ⟨rfl, rfl⟩)
  go_loopw [22] (fun i wr => ∃ k : Nat, k ≤ n ∧ i = .int .i64 k ∧ Below w.heap.size w wr) (fun i _ => n - (intOf i).toNat)
  case atStart => exact ⟨0, Nat.zero_le _, rfl, Below.refl _ _⟩
  case round =>
    obtain ⟨k, hk, rfl, HB⟩ := hrel
    have zr := HB.size
    by_cases hlt : k < n
    · obtain ⟨B, O, rfl, hB, hcells⟩ := HZ.out (by omega)
      have lk : (k : Int) < (n : Int) := by omega
      have lB : B < wr.heap.size := Nat.lt_of_lt_of_le hB zr
      have x2 : wr.cell? ⟨B, O + k * 2, none⟩ = some (.int .i64 (p k)) := (HB.cell (p := ⟨B, O + k * 2, none⟩) hB).trans (hcells k hlt).1
      have x3 : wr.cell? ⟨B, O + k * 2 + 1, none⟩ = some (.int .i64 (q k)) := (HB.cell (p := ⟨B, O + k * 2 + 1, none⟩) hB).trans (hcells k hlt).2
      clear hcells
      have hs : isStampB (p k) (q k) = true := by
        cases h3 : isStampB (p k) (q k)
        · exact absurd ⟨k, hlt, h3⟩ HD.out
        · rfl
      have HS := Lib.hid (hlc_isStamp (p k) (q k))
      rw [hs] at HS
      clear hs
      generalize p k = pk at *
      generalize q k = qk at *
      go_wp2_with fail
      refine (HS.out _).mono ?_; rintro e w5 ⟨rfl, hb5⟩
      have HB5 : Below w.heap.size w w5 := Below.trans (show Below w.heap.size w _ from (by (repeat' (first | (with_reducible exact Below.refl _ _) | (with_reducible assumption) | (with_reducible refine Below.trans ?_ (Below.mono (by with_reducible assumption) ?_)) | (with_reducible refine Below.alloc ?_ ?_ _) | (with_reducible refine Below.setCell ?_ ?_ _) | (with_reducible refine below_drewN ?_ _) | (with_reducible refine Below.drew ?_) | go_size)))) (hb5.mono (by simp; omega))
      have z5 := HB5.size
      clear hb5
      go_wp2
      go_roundw
      case rel => exact ⟨k + 1, by omega, by go_num, HB5⟩
      case measure => simp [intOf]; omega
    · obtain rfl : k = n := by omega
      have HB1 := Lib.hid HB
      clear HB
      go_wp2
      go_loopw [32] (fun i wr => ∃ k' : Nat, k' ≤ k ∧ i = .int .i64 k' ∧ (∀ j, j < k' → p j ≤ t + 60000) ∧ Below w.heap.size w wr) (fun i _ => k - (intOf i).toNat)
      case atStart => exact ⟨0, Nat.zero_le _, rfl, fun j hj => absurd hj (by omega), HB1.out⟩
      case round =>
        obtain ⟨j, hj, rfl, hok, HB⟩ := hrel
        have HF := Lib.hid hok
        clear hok zr
        have zr := HB.size
        by_cases hlt : j < k
        · obtain ⟨B, O, rfl, hB, hcells⟩ := HZ.out (by omega)
          have lk : (j : Int) < (k : Int) := by omega
          have lB : B < wr.heap.size := Nat.lt_of_lt_of_le hB zr
          have x2 : wr.cell? ⟨B, O + j * 2, none⟩ = some (.int .i64 (p j)) := (HB.cell (p := ⟨B, O + j * 2, none⟩) hB).trans (hcells j hlt).1
          have x3 : wr.cell? ⟨B, O + j * 2 + 1, none⟩ = some (.int .i64 (q j)) := (HB.cell (p := ⟨B, O + j * 2 + 1, none⟩) hB).trans (hcells j hlt).2
          clear hcells
          by_cases hd : p j ≤ t + 60000
          · have HF' : Hid (∀ i, i < j + 1 → p i ≤ t + 60000) := Lib.hid fun i hi => by
              rcases (show i < j ∨ i = j from by omega) with h | rfl
              · exact HF.out i h
              · exact hd
            generalize p j = pk at *
            generalize q j = qk at *
            have hd' : decide (t + 60000 < pk) = false := by simp only [decide_eq_false_iff_not]; omega
            go_wp2
            go_roundw
            case rel => exact ⟨j + 1, by omega, by go_num, HF'.out, by (repeat' (first | (with_reducible exact Below.refl _ _) | (with_reducible assumption) | (with_reducible refine Below.trans ?_ (Below.mono (by with_reducible assumption) ?_)) | (with_reducible refine Below.alloc ?_ ?_ _) | (with_reducible refine Below.setCell ?_ ?_ _) | (with_reducible refine below_drewN ?_ _) | (with_reducible refine Below.drew ?_) | go_size))⟩
            case measure => simp [intOf]; omega
          · have HFF := Lib.hid (show farL t p k from ⟨j, hlt, by omega⟩)
            generalize p j = pk at *
            generalize q j = qk at *
            have hd' : decide (t + 60000 < pk) = true := by simp only [decide_eq_true_eq]; omega
            go_wp2
            go_ret
            go_light
            exact .inl ⟨HFF.out, rfl, by (repeat' (first | (with_reducible exact Below.refl _ _) | (with_reducible assumption) | (with_reducible refine Below.trans ?_ (Below.mono (by with_reducible assumption) ?_)) | (with_reducible refine Below.alloc ?_ ?_ _) | (with_reducible refine Below.setCell ?_ ?_ _) | (with_reducible refine below_drewN ?_ _) | (with_reducible refine Below.drew ?_) | go_size))⟩
        · obtain rfl : j = k := by omega
          have HFF : Hid (¬ farL t p j) := Lib.hid fun ⟨i, hi, h⟩ => by
            have := HF.out i hi
            omega
          have HB2 := Lib.hid HB
          clear HF HB
          have K2 := Lib.hid (HK0.out.below HB2.out HK0.out.lt)
          go_wp2
          go_loopw [44] (fun i wr => ∃ k' : Nat, k' ≤ j ∧ i = .int .i64 k' ∧ Only b w wr ∧ Ints3 wr b (hrS m c p q k').1 (hrS m c p q k').2 bd) (fun i _ => j - (intOf i).toNat)
          case atStart => exact ⟨0, Nat.zero_le _, rfl, Only.of_below HB2.out, K2.out⟩
          case round =>
            obtain ⟨i, hi, rfl, HO, I⟩ := hrel
            clear zr K2 HB2
            have zr := HO.size
            by_cases hlt : i < j
            · obtain ⟨B, O, rfl, hB, hcells⟩ := HZ.out (by omega)
              have lk : (i : Int) < (j : Int) := by omega
              have nB := HA.out B O rfl
              have lB : B < wr.heap.size := Nat.lt_of_lt_of_le hB zr
              have x2 : wr.cell? ⟨B, O + i * 2, none⟩ = some (.int .i64 (p i)) := (HO.cell B _ hB nB).trans (hcells i hlt).1
              have x3 : wr.cell? ⟨B, O + i * 2 + 1, none⟩ = some (.int .i64 (q i)) := (HO.cell B _ hB nB).trans (hcells i hlt).2
              clear hcells
              have HS : Hid ((hrS m c p q (i + 1)).1 = mx1 (hrS m c p q i).1 (hrS m c p q i).2 (p i) (q i) ∧ (hrS m c p q (i + 1)).2 = mx2 (hrS m c p q i).1 (hrS m c p q i).2 (p i) (q i)) := Lib.hid ⟨rfl, rfl⟩
              generalize p i = pk at *
              generalize q i = qk at *
              generalize (hrS m c p q i).1 = h1 at *
              generalize (hrS m c p q i).2 = h2 at *
              have I' := I
              obtain ⟨c0, c1, c2, f0, f1, f2, lt⟩ := I'
              have l1 : b < wr.heap.size + 1 := by omega
              have n0 : wr.heap.size ≠ b := by omega
              go_wp2
              go_region_with (first | (go_at_call 32; refine (hlc_max2 (wr.heap.size + 1) h1 h2 pk qk _ (by simp [go_sem]) (by simp [go_sem]) (by simp [go_sem]) (by simp [go_sem]) (by simp)).mono ?_; rintro e w2 ⟨rfl, hb2⟩; have K2 : Ints3 w2 b h1 h2 bd := (((I.alloc _).alloc _).drew).below hb2 (by simp; omega); have y0 := K2.c0; have y1 := K2.c1; have g0 := K2.f0; have g1 := K2.f1))
              all_goals
                have HO2 : Only b w w2 := Only.trans (show Only b w _ from (by (repeat' (first | (with_reducible exact Only.refl _ _) | (with_reducible assumption) | (with_reducible refine Only.alloc ?_ _) | (with_reducible refine Only.setB ?_ _) | (refine Only.setCell ?_ (Or.inr ?_) _) | (with_reducible refine Only.drewN ?_ _) | (with_reducible refine Only.drew ?_) | (with_reducible refine Only.trans ?_ (by with_reducible assumption)) | (with_reducible refine Only.trans ?_ (Only.of_below (by with_reducible assumption))) | go_size)))) (Only.of_below hb2)
                have z2 := HO2.size
                have lb2 := K2.lt
                clear hb2
                go_wp2
                go_roundw
                case rel =>
                  refine ⟨i + 1, by omega, by go_num, by (repeat' (first | (with_reducible exact Only.refl _ _) | (with_reducible assumption) | (with_reducible refine Only.alloc ?_ _) | (with_reducible refine Only.setB ?_ _) | (refine Only.setCell ?_ (Or.inr ?_) _) | (with_reducible refine Only.drewN ?_ _) | (with_reducible refine Only.drew ?_) | (with_reducible refine Only.trans ?_ (by with_reducible assumption)) | (with_reducible refine Only.trans ?_ (Only.of_below (by with_reducible assumption))) | go_size)), ?_⟩
                  rw [HS.out.1, HS.out.2]
                  (repeat' (first | (with_reducible assumption) | (with_reducible apply Ints3.set0) | (with_reducible apply Ints3.set1) | (with_reducible apply Ints3.set2) | (with_reducible refine Ints3.other ?_ ?_ _) | (with_reducible refine Ints3.alloc ?_ _) | (with_reducible refine Ints3.drewN ?_ _) | (with_reducible refine Ints3.drew ?_) | (with_reducible exact Ints3.new _ _ _ _ _) | go_size))
                case measure => simp [intOf]; omega
            · obtain rfl : i = j := by omega
              go_wp2
              go_ret
              go_light
              exact .inr ⟨HFF.out, rfl, HO, I⟩
end Go.Proofs.Ytmbopdabbegbiaa
