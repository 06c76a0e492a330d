/- The contract of meridianref2.Date. -/
import Derived.Test.YtepdnkpmkhjlgaaGreatBase
/- Plain facts on dates, with no program in sight: the count of a valid date, one by one. -/
set_option linter.unusedSimpArgs false
set_option linter.unusedVariables false
namespace Go.Proofs.YtepdnkpmkhjlgaaGreat.Cal

/-- 1 in a leap year. -/
def lp (y : Int) : Int := if y % 4 = 0 ∧ (y % 100 ≠ 0 ∨ y % 400 = 0) then 1 else 0
/-- How many days a month has. -/
def dim (y m : Int) : Int := if m = 2 then 28 + lp y else if m = 4 ∨ m = 6 ∨ m = 9 ∨ m = 11 then 30 else 31
/-- How many days are ahead of a year. -/
def yr (y : Int) : Int := 365 * (y - 1) + (y - 1) / 4 - (y - 1) / 100 + (y - 1) / 400
/-- How many days of a year are ahead of a month. -/
def cum (y m : Int) : Int :=
  if m ≤ 1 then 0 else if m = 2 then 31 else if m = 3 then 59 + lp y else if m = 4 then 90 + lp y else if m = 5 then 120 + lp y else if m = 6 then 151 + lp y
  else if m = 7 then 181 + lp y else if m = 8 then 212 + lp y else if m = 9 then 243 + lp y else if m = 10 then 273 + lp y else if m = 11 then 304 + lp y else if m = 12 then 334 + lp y else 365 + lp y
def num (y m d : Int) : Int := yr y + cum y m + d - 1 - 719162
/-- Is it a date? -/
def Vld (y m d : Int) : Prop := 1 ≤ y ∧ y ≤ 9999 ∧ 1 ≤ m ∧ m ≤ 12 ∧ 1 ≤ d ∧ d ≤ dim y m

theorem lp_01 (y : Int) : 0 ≤ lp y ∧ lp y ≤ 1 := by unfold lp; split <;> omega
theorem lp_eq (y : Int) : lp y = y / 4 - (y - 1) / 4 - (y / 100 - (y - 1) / 100) + (y / 400 - (y - 1) / 400) := by
  unfold lp; split <;> omega
theorem yr_succ (y : Int) : yr (y + 1) = yr y + 365 + lp y := by
  have := lp_eq y; unfold yr; rw [Int.add_sub_cancel]; omega
theorem dim_bd (y m : Int) : 28 ≤ dim y m ∧ dim y m ≤ 31 := by
  have := lp_01 y; unfold dim; repeat' split
  all_goals omega
theorem cum_succ (y m : Int) (h1 : 1 ≤ m) (h2 : m ≤ 12) : cum y (m + 1) = cum y m + dim y m := by
  have := lp_01 y
  obtain h | h | h | h | h | h | h | h | h | h | h | h : m = 1 ∨ m = 2 ∨ m = 3 ∨ m = 4 ∨ m = 5 ∨ m = 6 ∨ m = 7 ∨ m = 8 ∨ m = 9 ∨ m = 10 ∨ m = 11 ∨ m = 12 := by omega
  all_goals (subst h; simp [cum, dim]; try omega)
theorem cum_13 (y : Int) : cum y 13 = 365 + lp y := by simp [cum]
theorem cum_1 (y : Int) : cum y 1 = 0 := by simp [cum]
theorem cum_mono (y a b : Int) (h1 : 1 ≤ a) (h : a ≤ b) (h2 : b ≤ 13) : cum y a ≤ cum y b := by
  obtain ⟨k, rfl⟩ : ∃ k : Nat, b = a + k := ⟨(b - a).toNat, by omega⟩
  induction k with
  | zero => simp
  | succ k ih =>
    have e : a + ((k + 1 : Nat) : Int) = (a + k) + 1 := by omega
    rw [e, cum_succ y (a + k) (by omega) (by omega)]
    have := ih (by omega) (by omega)
    have := dim_bd y (a + k)
    omega
theorem cum_bd (y m : Int) (h1 : 1 ≤ m) (h2 : m ≤ 13) : 0 ≤ cum y m ∧ cum y m ≤ 366 := by
  have a := cum_mono y 1 m (by omega) h1 h2
  have b := cum_mono y m 13 h1 h2 (by omega)
  have := lp_01 y
  rw [cum_1] at a; rw [cum_13] at b
  omega
theorem yr_mono (a b : Int) (h : a ≤ b) : yr a ≤ yr b := by unfold yr; omega
theorem yr_bd (y : Int) (h1 : 1 ≤ y) (h2 : y ≤ 10400) : 0 ≤ yr y ∧ yr y ≤ 3798370 := by unfold yr; omega

/-- Two valid dates of one count are one. -/
theorem num_inj {y m d y' m' d' : Int} (h : Vld y m d) (h' : Vld y' m' d') (e : num y m d = num y' m' d') : y = y' ∧ m = m' ∧ d = d' := by
  obtain ⟨a1, a2, a3, a4, a5, a6⟩ := h
  obtain ⟨b1, b2, b3, b4, b5, b6⟩ := h'
  unfold num at e
  have c1 := cum_succ y m a3 a4
  have c2 := cum_succ y' m' b3 b4
  have d1 := cum_mono y (m + 1) 13 (by omega) (by omega) (by omega)
  have d2 := cum_mono y' (m' + 1) 13 (by omega) (by omega) (by omega)
  have k1 := (cum_bd y m (by omega) (by omega)).1
  have k2 := (cum_bd y' m' (by omega) (by omega)).1
  rw [cum_13] at d1 d2
  have s1 := yr_succ y
  have s2 := yr_succ y'
  have hy : y = y' := by
    rcases Int.lt_trichotomy y y' with h | h | h
    · have := yr_mono (y + 1) y' (by omega); omega
    · exact h
    · have := yr_mono (y' + 1) y (by omega); omega
  subst hy
  have hm : m = m' := by
    rcases Int.lt_trichotomy m m' with h | h | h
    · have := cum_mono y (m + 1) m' (by omega) (by omega) (by omega); omega
    · exact h
    · have := cum_mono y (m' + 1) m (by omega) (by omega) (by omega); omega
  subst hm
  exact ⟨rfl, rfl, by omega⟩

theorem num_bd {y m d : Int} (h : Vld y m d) : -719162 ≤ num y m d ∧ num y m d ≤ 2932896 := by
  obtain ⟨a1, a2, a3, a4, a5, a6⟩ := h
  have c1 := cum_succ y m a3 a4
  have d1 := cum_mono y (m + 1) 13 (by omega) (by omega) (by omega)
  rw [cum_13] at d1
  have s1 := yr_succ y
  have k1 := (cum_bd y m (by omega) (by omega)).1
  have := yr_mono (y + 1) 10000 (by omega)
  have e : yr 10000 = 3652059 := by decide
  have := (yr_bd y a1 (by omega)).1
  unfold num
  omega

/-- Every count in range is a date's. -/
theorem date_ex (n : Int) (h1 : -719162 ≤ n) (h2 : n ≤ 2932896) : ∃ y m d, Vld y m d ∧ num y m d = n := by
  have hy : ∀ k : Nat, k ≤ 9998 → n + 719162 < yr (k + 2) → ∃ y, 1 ≤ y ∧ y ≤ 9999 ∧ yr y ≤ n + 719162 ∧ n + 719162 < yr (y + 1) := by
    intro k
    induction k with
    | zero =>
      intro _ hk
      have e : yr 1 = 0 := by decide
      exact ⟨1, by omega, by omega, by omega, by simpa using hk⟩
    | succ k ih =>
      intro hk hlt
      by_cases c : n + 719162 < yr (k + 2)
      · exact ih (by omega) c
      · exact ⟨k + 2, by omega, by omega, by omega, by
          have e : ((k + 1 : Nat) : Int) + 2 = (k : Int) + 2 + 1 := by omega
          rw [e] at hlt; exact hlt⟩
  obtain ⟨y, y1, y2, y3, y4⟩ := hy 9998 (by omega) (by rw [show ((9998 : Nat) : Int) + 2 = 10000 from by omega, show yr 10000 = 3652059 from by decide]; omega)
  rw [yr_succ] at y4
  have hm : ∀ k : Nat, k ≤ 11 → n + 719162 - yr y < cum y (k + 2) → ∃ m, 1 ≤ m ∧ m ≤ 12 ∧ cum y m ≤ n + 719162 - yr y ∧ n + 719162 - yr y < cum y (m + 1) := by
    intro k
    induction k with
    | zero => intro _ hk; exact ⟨1, by omega, by omega, by rw [cum_1]; omega, by simpa using hk⟩
    | succ k ih =>
      intro hk hlt
      by_cases c : n + 719162 - yr y < cum y (k + 2)
      · exact ih (by omega) c
      · exact ⟨k + 2, by omega, by omega, by omega, by
          have e : ((k + 1 : Nat) : Int) + 2 = (k : Int) + 2 + 1 := by omega
          rw [e] at hlt; exact hlt⟩
  obtain ⟨m, m1, m2, m3, m4⟩ := hm 11 (by omega) (by rw [show ((11 : Nat) : Int) + 2 = 13 from rfl, cum_13]; omega)
  rw [cum_succ y m m1 m2] at m4
  exact ⟨y, m, n + 719162 - yr y - cum y m + 1, ⟨y1, y2, m1, m2, by omega, by omega⟩, by unfold num; omega⟩

/-! The way of cal: years from March on. -/
def ahead (k : Int) : Int := k * 365 + k / 4 - k / 100 + k / 400
def march (k : Int) : Int := (153 * k + 2) / 5
theorem march_cum (y m : Int) (h3 : 3 ≤ m) (h12 : m ≤ 12) : march (m - 3) = cum y m - 59 - lp y := by
  obtain h | h | h | h | h | h | h | h | h | h : m = 3 ∨ m = 4 ∨ m = 5 ∨ m = 6 ∨ m = 7 ∨ m = 8 ∨ m = 9 ∨ m = 10 ∨ m = 11 ∨ m = 12 := by omega
  all_goals (subst h; simp [cum, march]; try omega)
theorem march_jan (y m : Int) (h1 : 1 ≤ m) (h2 : m ≤ 2) : march (m + 9) = cum y m + 306 := by
  obtain h | h : m = 1 ∨ m = 2 := by omega
  all_goals (subst h; simp [cum, march])
theorem ahead_mod (y : Int) : y / 400 * 146097 + ahead (y % 400) = ahead y := by unfold ahead; omega
theorem yr_ahead (y : Int) : yr (y + 1) = ahead y := by unfold yr ahead; rw [Int.add_sub_cancel]; omega
/-- The march year's count is the count. -/
theorem num_late (y m d : Int) (h3 : 3 ≤ m) (h12 : m ≤ 12) : y / 400 * 146097 + ahead (y % 400) + march (m - 3) + d - 1 - 719468 = num y m d := by
  rw [ahead_mod, march_cum y m h3 h12, ← yr_ahead, yr_succ]; unfold num; omega
theorem num_early (y m d : Int) (h1 : 1 ≤ m) (h2 : m ≤ 2) : (y - 1) / 400 * 146097 + ahead ((y - 1) % 400) + march (m + 9) + d - 1 - 719468 = num y m d := by
  rw [ahead_mod, march_jan y m h1 h2, ← yr_ahead]; rw [Int.sub_add_cancel]; unfold num; omega

theorem ahead_succ (k : Int) : ahead (k + 1) = ahead k + 365 + lp (k + 1) := by
  have a := yr_ahead k; have b := yr_ahead (k + 1); have c := yr_succ (k + 1); omega
theorem lp_mod (q k : Int) : lp (q * 400 + k) = lp k := by
  unfold lp; congr 1; apply propext; constructor <;> (intro h; omega)
/-- What the two loops of cal.Date have found is a date, and its count. -/
theorem from_march (n q k r mo : Int) (hq : 0 ≤ q) (k0 : 0 ≤ k) (k1 : k ≤ 399) (hD : n + 719468 = q * 146097 + r) (r0 : ahead k ≤ r) (r1 : r < ahead (k + 1)) (m0 : 0 ≤ mo) (m1 : mo ≤ 11)
    (hm : march mo ≤ r - ahead k) (hm2 : mo = 11 ∨ r - ahead k < march (mo + 1)) (n0 : -719162 ≤ n) (n1 : n ≤ 2932896) :
    (mo ≤ 9 → Vld (q * 400 + k) (mo + 3) (r - ahead k - march mo + 1) ∧ num (q * 400 + k) (mo + 3) (r - ahead k - march mo + 1) = n) ∧
    (10 ≤ mo → Vld (q * 400 + k + 1) (mo - 9) (r - ahead k - march mo + 1) ∧ num (q * 400 + k + 1) (mo - 9) (r - ahead k - march mo + 1) = n) := by
  have s1 := ahead_succ k
  have l1 := lp_01 (k + 1)
  have l2 := lp_mod q (k + 1)
  have e1 : (q * 400 + k) / 400 = q := by omega
  have e2 : (q * 400 + k) % 400 = k := by omega
  have A : q * 146097 + ahead k = ahead (q * 400 + k) := by have := ahead_mod (q * 400 + k); rw [e1, e2] at this; exact this
  have dimR : ∀ y : Int, 3 ≤ mo + 3 → mo + 3 ≤ 12 → march (mo + 1) = march mo + dim y (mo + 3) := by
    intro y _ h12
    have l := lp_01 y
    obtain h | h | h | h | h | h | h | h | h | h : mo = 0 ∨ mo = 1 ∨ mo = 2 ∨ mo = 3 ∨ mo = 4 ∨ mo = 5 ∨ mo = 6 ∨ mo = 7 ∨ mo = 8 ∨ mo = 9 := by omega
    all_goals (subst h; simp [march, dim])
  constructor
  · intro h9
    have dd := dimR (q * 400 + k) (by omega) (by omega)
    have hy0 : 1 ≤ q * 400 + k := by
      rcases (show q * 400 + k < 1 ∨ 1 ≤ q * 400 + k from by omega) with h | h
      · have hq0 : q = 0 := by omega
        have hk0 : k = 0 := by omega
        subst hq0; subst hk0
        have a0 : ahead 0 = 0 := by decide
        have : march (mo + 1) ≤ 306 := by unfold march; omega
        omega
      · exact h
    have hy1 : q * 400 + k ≤ 9999 := by
      rcases (show 9999 < q * 400 + k ∨ q * 400 + k ≤ 9999 from by omega) with h | h
      · have : 3652425 ≤ ahead (q * 400 + k) := by unfold ahead; omega
        omega
      · exact h
    refine ⟨⟨hy0, hy1, by omega, by omega, by omega, by omega⟩, ?_⟩
    rw [← num_late _ _ _ (by omega) (by omega), e1, e2, show mo + 3 - 3 = mo from by omega]; omega
  · intro h10
    have hy1 : q * 400 + k + 1 ≤ 9999 := by
      rcases (show 9999 < q * 400 + k + 1 ∨ q * 400 + k + 1 ≤ 9999 from by omega) with h | h
      · have h1 : 3652059 ≤ ahead (q * 400 + k) := by unfold ahead; omega
        have h2 : 306 ≤ march mo := by unfold march; omega
        omega
      · exact h
    refine ⟨⟨by omega, hy1, by omega, by omega, by omega, ?_⟩, ?_⟩
    · obtain h | h : mo = 10 ∨ mo = 11 := by omega
      · subst h
        have a : march 10 = 306 := by decide
        have b : march (10 + 1) = 337 := by decide
        simp [dim]; omega
      · subst h
        have a : march 11 = 337 := by decide
        have e3 : q * 400 + k + 1 = q * 400 + (k + 1) := by omega
        simp [dim]; rw [e3, l2]; omega
    · have e4 : q * 400 + k + 1 - 1 = q * 400 + k := by omega
      rw [← num_early _ _ _ (by omega) (by omega), e4, e1, e2, show mo - 9 + 9 = mo from by omega]; omega
end Go.Proofs.YtepdnkpmkhjlgaaGreat.Cal

/- cal.daysAhead, cal.marchDays. -/
namespace Go.Proofs.YtepdnkpmkhjlgaaGreat
open Go.RowKit

theorem cal_ahead (k : Int) (w : World) (h0 : 0 ≤ k) (h1 : k ≤ 100000) :
    Calls Tryz.prog 93 #[.int .i64 k] w fun e w' => e = .returned (.int .i64 (Cal.ahead k)) ∧ w = w' := by
  go_enter Tryz.func93, Tryz.ntmps93
  go_wp2
  go_ret
  exact ⟨rfl, rfl⟩
theorem cal_march (k : Int) (w : World) (h0 : 0 ≤ k) (h1 : k ≤ 100000) :
    Calls Tryz.prog 94 #[.int .i64 k] w fun e w' => e = .returned (.int .i64 (Cal.march k)) ∧ w = w' := by
  go_enter Tryz.func94, Tryz.ntmps94
  go_wp2
  go_ret
  exact ⟨rfl, rfl⟩
theorem ahead_bd (k : Int) (h0 : 0 ≤ k) (h1 : k ≤ 10000) : 0 ≤ Cal.ahead k ∧ Cal.ahead k ≤ 3700000 := by unfold Cal.ahead; omega
theorem march_bd (k : Int) (h0 : 0 ≤ k) (h1 : k ≤ 12) : 0 ≤ Cal.march k ∧ Cal.march k ≤ 400 := by unfold Cal.march; omega
end Go.Proofs.YtepdnkpmkhjlgaaGreat

/- The contract of cal.Date. -/
namespace Go.Proofs.YtepdnkpmkhjlgaaGreat
open Go.RowKit


set_option maxHeartbeats 400000 in
theorem cal_date_no (n : Int) (w : World) (h : n < -719162 ∨ 2932896 < n) :
    Calls Tryz.prog 78 #[.int .i64 n] w fun e w' => e = .returned (.tuple #[.agg #[.int .i64 0, .int .i64 0, .int .i64 0], .int .i64 11]) ∧ Below w.heap.size w w' := by
  rcases h with h | h
  · go_enter Tryz.func78, Tryz.ntmps78
    go_wp2
    refine bodyPost_ret (v := .tuple #[.agg #[.int .i64 0, .int .i64 0, .int .i64 0], .int .i64 11]) (by simp [results, Tryz.results78, go_sem]) rfl ⟨rfl, ?_⟩
    go_light
    (repeat' (first | (with_reducible exact Below.refl _ _) | (with_reducible assumption) | (with_reducible refine Below.trans ?_ (Below.mono (by with_reducible assumption) ?_)) | (with_reducible refine Below.alloc ?_ ?_ _) | (with_reducible refine Below.setCell ?_ ?_ _) | (with_reducible refine below_drewN ?_ _) | (with_reducible refine Below.drew ?_) | go_size))
  · go_enter Tryz.func78, Tryz.ntmps78
    go_wp2
    refine bodyPost_ret (v := .tuple #[.agg #[.int .i64 0, .int .i64 0, .int .i64 0], .int .i64 11]) (by simp [results, Tryz.results78, go_sem]) rfl ⟨rfl, ?_⟩
    go_light
    (repeat' (first | (with_reducible exact Below.refl _ _) | (with_reducible assumption) | (with_reducible refine Below.trans ?_ (Below.mono (by with_reducible assumption) ?_)) | (with_reducible refine Below.alloc ?_ ?_ _) | (with_reducible refine Below.setCell ?_ ?_ _) | (with_reducible refine below_drewN ?_ _) | (with_reducible refine Below.drew ?_) | go_size))

theorem ahead_guess (r : Int) (h0 : 0 ≤ r) (h1 : r < 146097) : Cal.ahead (r / 366) ≤ r := by unfold Cal.ahead; omega
set_option maxHeartbeats 2000000 in
theorem cal_date_yes (y m d n : Int) (w : World) (hv : Cal.Vld y m d) (hn : n = Cal.num y m d) :
    Calls Tryz.prog 78 #[.int .i64 n] w fun e w' => e = .returned (.tuple #[.agg #[.int .i64 y, .int .i64 m, .int .i64 d], .int .i64 0]) ∧ Below w.heap.size w w' := by
  have hb := Cal.num_bd hv
  rw [← hn] at hb
  obtain ⟨n0, n1⟩ := hb
  have HN := Lib.hid hn
  clear hn
  have g0 := ahead_guess ((n + 719468) % 146097) (by omega) (by omega)
  go_enter Tryz.func78, Tryz.ntmps78
  go_wp2
  go_loop [6] (fun t => ∃ k : Int, 0 ≤ k ∧ k ≤ 399 ∧ Cal.ahead k ≤ (n + 719468) % 146097 ∧ t = .int .i64 k) (fun t => (399 - intOf t).toNat)
  case atStart => exact ⟨_, by omega, by omega, g0, rfl⟩
  case round =>
    obtain ⟨k, k0, k1, k2, rfl⟩ := hrel
    clear g0
    by_cases hc : k < 399 ∧ Cal.ahead (k + 1) ≤ (n + 719468) % 146097
    · obtain ⟨hlt, hle⟩ := hc
      go_wp2_with (go_at_call 93; refine (cal_ahead _ _ (by omega) (by omega)).mono ?_; rintro e w' ⟨rfl, rfl⟩)
      go_round
      case rel => exact ⟨k + 1, by omega, by omega, hle, rfl⟩
      case measure => simp [intOf]; omega
    · have hz : (n + 719468) % 146097 < Cal.ahead (k + 1) := by
        by_cases e : k = 399
        · have : Cal.ahead (399 + 1) = 146097 := by decide
          rw [e]; omega
        · omega
      clear hc
      by_cases hlt : k < 399
      all_goals
        have s1 := ahead_bd k k0 (by omega)
        go_wp2_with (go_at_call 93; refine (cal_ahead _ _ (by omega) (by omega)).mono ?_; rintro e w' ⟨rfl, rfl⟩)
        go_loop [7] (fun t => ∃ mo : Int, 0 ≤ mo ∧ mo ≤ 11 ∧ Cal.march mo ≤ (n + 719468) % 146097 - Cal.ahead k ∧ t = .int .i64 mo) (fun t => (11 - intOf t).toNat)
        case atStart => exact ⟨0, by omega, by omega, by have : Cal.march 0 = 0 := by decide
                                                         omega, rfl⟩
        case round =>
          obtain ⟨mo, m0, m1, m2, rfl⟩ := hrel
          by_cases hc : mo < 11 ∧ Cal.march (mo + 1) ≤ (n + 719468) % 146097 - Cal.ahead k
          · obtain ⟨hlt', hle⟩ := hc
            go_wp2_with (go_at_call 94; refine (cal_march _ _ (by omega) (by omega)).mono ?_; rintro e w' ⟨rfl, rfl⟩)
            go_round
            case rel => exact ⟨mo + 1, by omega, by omega, hle, rfl⟩
            case measure => simp [intOf]; omega
          · have hm2 : mo = 11 ∨ (n + 719468) % 146097 - Cal.ahead k < Cal.march (mo + 1) := by omega
            clear hc
            have F := Cal.from_march n ((n + 719468) / 146097) k ((n + 719468) % 146097) mo (by omega) k0 k1 (by omega) k2 hz m0 m1 m2 hm2 n0 n1
            have b3 := march_bd mo m0 (by omega)
            have HF := Lib.hid F
            have HM := Lib.hid hm2
            clear F hm2
            have hq : 0 ≤ (n + 719468) / 146097 ∧ (n + 719468) / 146097 ≤ 30 := by omega
            by_cases hmo : mo < 11
            · have hz2 : (n + 719468) % 146097 - Cal.ahead k < Cal.march (mo + 1) := by have := HM.out; omega
              by_cases h9 : 10 ≤ mo
              · have V := HF.out.2 h9
                obtain ⟨E1, E2, E3⟩ := Cal.num_inj V.1 hv (V.2.trans HN.out)
                have HE1 := Lib.hid E1; have HE2 := Lib.hid E2; have HE3 := Lib.hid E3
                clear V E1 E2 E3
                go_wp2_with (go_at_call 94; refine (cal_march _ _ (by omega) (by omega)).mono ?_; rintro e w' ⟨rfl, rfl⟩)
                refine bodyPost_ret (v := .tuple #[.agg #[.int .i64 ((n + 719468) / 146097 * 400 + k + 1), .int .i64 (mo + 3 - 12), .int .i64 ((n + 719468) % 146097 - Cal.ahead k - Cal.march mo + 1)], .int .i64 0]) (by simp [results, Tryz.results78, go_sem]) rfl ⟨ret_date HE1.out (by have := HE2.out; omega) HE3.out, ?_⟩
                go_light
                (repeat' (first | (with_reducible exact Below.refl _ _) | (with_reducible assumption) | (with_reducible refine Below.trans ?_ (Below.mono (by with_reducible assumption) ?_)) | (with_reducible refine Below.alloc ?_ ?_ _) | (with_reducible refine Below.setCell ?_ ?_ _) | (with_reducible refine below_drewN ?_ _) | (with_reducible refine Below.drew ?_) | go_size))
              · have V := HF.out.1 (by omega)
                obtain ⟨E1, E2, E3⟩ := Cal.num_inj V.1 hv (V.2.trans HN.out)
                have HE1 := Lib.hid E1; have HE2 := Lib.hid E2; have HE3 := Lib.hid E3
                clear V E1 E2 E3
                go_wp2_with (go_at_call 94; refine (cal_march _ _ (by omega) (by omega)).mono ?_; rintro e w' ⟨rfl, rfl⟩)
                refine bodyPost_ret (v := .tuple #[.agg #[.int .i64 ((n + 719468) / 146097 * 400 + k), .int .i64 (mo + 3), .int .i64 ((n + 719468) % 146097 - Cal.ahead k - Cal.march mo + 1)], .int .i64 0]) (by simp [results, Tryz.results78, go_sem]) rfl ⟨ret_date HE1.out HE2.out HE3.out, ?_⟩
                go_light
                (repeat' (first | (with_reducible exact Below.refl _ _) | (with_reducible assumption) | (with_reducible refine Below.trans ?_ (Below.mono (by with_reducible assumption) ?_)) | (with_reducible refine Below.alloc ?_ ?_ _) | (with_reducible refine Below.setCell ?_ ?_ _) | (with_reducible refine below_drewN ?_ _) | (with_reducible refine Below.drew ?_) | go_size))
            · have V := HF.out.2 (by omega)
              obtain ⟨E1, E2, E3⟩ := Cal.num_inj V.1 hv (V.2.trans HN.out)
              have HE1 := Lib.hid E1; have HE2 := Lib.hid E2; have HE3 := Lib.hid E3
              clear V E1 E2 E3
              go_wp2_with (go_at_call 94; refine (cal_march _ _ (by omega) (by omega)).mono ?_; rintro e w' ⟨rfl, rfl⟩)
              refine bodyPost_ret (v := .tuple #[.agg #[.int .i64 ((n + 719468) / 146097 * 400 + k + 1), .int .i64 (mo + 3 - 12), .int .i64 ((n + 719468) % 146097 - Cal.ahead k - Cal.march mo + 1)], .int .i64 0]) (by simp [results, Tryz.results78, go_sem]) rfl ⟨ret_date HE1.out (by have := HE2.out; omega) HE3.out, ?_⟩
              go_light
              (repeat' (first | (with_reducible exact Below.refl _ _) | (with_reducible assumption) | (with_reducible refine Below.trans ?_ (Below.mono (by with_reducible assumption) ?_)) | (with_reducible refine Below.alloc ?_ ?_ _) | (with_reducible refine Below.setCell ?_ ?_ _) | (with_reducible refine below_drewN ?_ _) | (with_reducible refine Below.drew ?_) | go_size))
end Go.Proofs.YtepdnkpmkhjlgaaGreat

/- meridianref2.year. -/
namespace Go.Proofs.YtepdnkpmkhjlgaaGreat
open Go.RowKit

theorem ref2_year (y : Int) (w : World) (h0 : 1 ≤ y) (h1 : y ≤ 100000) :
    Calls Tryz.prog 62 #[.int .i64 y] w fun e w' => e = .returned (.int .i64 (Cal.yr y)) ∧ w = w' := by
  go_enter Tryz.func62, Tryz.ntmps62
  go_wp2
  go_ret
  exact ⟨rfl, rfl⟩
theorem yr_1970 : Cal.yr 1970 = 719162 := by decide
theorem yr_10000 : Cal.yr 10000 = 3652059 := by decide
end Go.Proofs.YtepdnkpmkhjlgaaGreat

/- meridianref2.Length, year, month. -/
namespace Go.Proofs.YtepdnkpmkhjlgaaGreat
open Go.RowKit

set_option maxHeartbeats 400000 in
theorem ref2_length (y m : Int) (w : World) (h0 : 0 ≤ y) (h1 : y ≤ 100000) :
    Calls Tryz.prog 82 #[.int .i64 y, .int .i64 m] w fun e w' => e = .returned (.int .i64 (Cal.dim y m)) ∧ w = w' := by
  go_enter Tryz.func82, Tryz.ntmps82
  go_wp2
  all_goals
    go_ret
    refine ⟨ret_int ?_, rfl⟩
    unfold Cal.dim Cal.lp
    simp_all
set_option maxHeartbeats 400000 in
theorem ref2_month (y m : Int) (w : World) (h0 : 1 ≤ y) (h1 : y ≤ 100000) (m0 : 1 ≤ m) (m1 : m ≤ 13) :
    Calls Tryz.prog 63 #[.int .i64 y, .int .i64 m] w fun e w' => e = .returned (.int .i64 (Cal.cum y m)) ∧ w = w' := by
  have c1 := Lib.hid (Cal.cum_1 y)
  go_enter Tryz.func63, Tryz.ntmps63
  go_wp2
  go_loop [5, 6] (fun n t => ∃ i : Int, 1 ≤ i ∧ i ≤ m ∧ n = .int .i64 (Cal.cum y i) ∧ t = .int .i64 i) (fun _ t => (m - intOf t).toNat)
  case atStart => exact ⟨1, by omega, by omega, by rw [c1.out], rfl⟩
  case round =>
    obtain ⟨i, i0, i1, rfl, rfl⟩ := hrel
    have cb := Cal.cum_bd y i i0 (by omega)
    by_cases hlt : i < m
    · have db := Cal.dim_bd y i
      have HS := Lib.hid (Cal.cum_succ y i i0 (by omega))
      go_wp2_with (go_at_call 82; refine (ref2_length y i _ (by omega) (by omega)).mono ?_; rintro e w' ⟨rfl, rfl⟩)
      go_round
      case rel => exact ⟨i + 1, by omega, by omega, by rw [HS.out], rfl⟩
      case measure => simp [intOf]; omega
    · obtain rfl : i = m := by omega
      go_wp2
      go_ret
      exact ⟨rfl, rfl⟩
end Go.Proofs.YtepdnkpmkhjlgaaGreat

/- meridianref2.Is, Days. -/
namespace Go.Proofs.YtepdnkpmkhjlgaaGreat
open Go.RowKit

set_option maxHeartbeats 1000000 in
theorem ref2_is_yes (y m d : Int) (w : World) (h : Cal.Vld y m d) :
    Calls Tryz.prog 61 #[.agg #[.int .i64 y, .int .i64 m, .int .i64 d]] w fun e w' => e = .returned (.bool true) ∧ Below w.heap.size w w' := by
  obtain ⟨a1, a2, a3, a4, a5, a6⟩ := h
  have hd := Cal.dim_bd y m
  go_enter Tryz.func61, Tryz.ntmps61
  go_wp2
  go_quiet ((go_at_call 82; exact Calls.quiet_of_same ((ref2_length y m _ (by omega) (by omega)).mono (fun _ _ h => ⟨h.1, h.2.symm⟩))))
  go_wp2
  go_ret
  exact ⟨rfl, by (repeat' (first | (with_reducible exact Below.refl _ _) | (with_reducible assumption) | (with_reducible refine Below.trans ?_ (Below.mono (by with_reducible assumption) ?_)) | (with_reducible refine Below.alloc ?_ ?_ _) | (with_reducible refine Below.setCell ?_ ?_ _) | (with_reducible refine below_drewN ?_ _) | (with_reducible refine Below.drew ?_) | go_size))⟩
set_option maxHeartbeats 2000000 in
theorem ref2_is_no (y m d : Int) (w : World) (h : ¬ Cal.Vld y m d) :
    Calls Tryz.prog 61 #[.agg #[.int .i64 y, .int .i64 m, .int .i64 d]] w fun e w' => e = .returned (.bool false) ∧ Below w.heap.size w w' := by
  have hd := Cal.dim_bd y m
  by_cases a1 : 1 ≤ y
  · by_cases a2 : y ≤ 9999
    · by_cases a3 : 1 ≤ m
      · by_cases a4 : m ≤ 12
        · by_cases a5 : 1 ≤ d
          · have a6 : ¬ d ≤ Cal.dim y m := fun h6 => h ⟨a1, a2, a3, a4, a5, h6⟩
            clear h
            have b6 : decide (d ≤ Cal.dim y m) = false := by simpa using a6
            go_enter Tryz.func61, Tryz.ntmps61
            go_wp2
            go_quiet ((go_at_call 82; exact Calls.quiet_of_same ((ref2_length y m _ (by omega) (by omega)).mono (fun _ _ h => ⟨h.1, h.2.symm⟩))))
            go_wp2
            go_ret
            exact ⟨rfl, by (repeat' (first | (with_reducible exact Below.refl _ _) | (with_reducible assumption) | (with_reducible refine Below.trans ?_ (Below.mono (by with_reducible assumption) ?_)) | (with_reducible refine Below.alloc ?_ ?_ _) | (with_reducible refine Below.setCell ?_ ?_ _) | (with_reducible refine below_drewN ?_ _) | (with_reducible refine Below.drew ?_) | go_size))⟩
          · clear h
            have b5 : decide (1 ≤ d) = false := by simpa using a5
            go_enter Tryz.func61, Tryz.ntmps61
            go_wp2
            go_quiet (fail)
            go_wp2
            go_ret
            exact ⟨rfl, by (repeat' (first | (with_reducible exact Below.refl _ _) | (with_reducible assumption) | (with_reducible refine Below.trans ?_ (Below.mono (by with_reducible assumption) ?_)) | (with_reducible refine Below.alloc ?_ ?_ _) | (with_reducible refine Below.setCell ?_ ?_ _) | (with_reducible refine below_drewN ?_ _) | (with_reducible refine Below.drew ?_) | go_size))⟩
        · clear h
          have b4 : decide (m ≤ 12) = false := by simpa using a4
          go_enter Tryz.func61, Tryz.ntmps61
          go_wp2
          go_quiet (fail)
          go_wp2
          go_ret
          exact ⟨rfl, by (repeat' (first | (with_reducible exact Below.refl _ _) | (with_reducible assumption) | (with_reducible refine Below.trans ?_ (Below.mono (by with_reducible assumption) ?_)) | (with_reducible refine Below.alloc ?_ ?_ _) | (with_reducible refine Below.setCell ?_ ?_ _) | (with_reducible refine below_drewN ?_ _) | (with_reducible refine Below.drew ?_) | go_size))⟩
      · clear h
        have b3 : decide (1 ≤ m) = false := by simpa using a3
        go_enter Tryz.func61, Tryz.ntmps61
        go_wp2
        go_quiet (fail)
        go_wp2
        go_ret
        exact ⟨rfl, by (repeat' (first | (with_reducible exact Below.refl _ _) | (with_reducible assumption) | (with_reducible refine Below.trans ?_ (Below.mono (by with_reducible assumption) ?_)) | (with_reducible refine Below.alloc ?_ ?_ _) | (with_reducible refine Below.setCell ?_ ?_ _) | (with_reducible refine below_drewN ?_ _) | (with_reducible refine Below.drew ?_) | go_size))⟩
    · clear h
      have b2 : decide (y ≤ 9999) = false := by simpa using a2
      go_enter Tryz.func61, Tryz.ntmps61
      go_wp2
      go_quiet (fail)
      go_wp2
      go_ret
      exact ⟨rfl, by (repeat' (first | (with_reducible exact Below.refl _ _) | (with_reducible assumption) | (with_reducible refine Below.trans ?_ (Below.mono (by with_reducible assumption) ?_)) | (with_reducible refine Below.alloc ?_ ?_ _) | (with_reducible refine Below.setCell ?_ ?_ _) | (with_reducible refine below_drewN ?_ _) | (with_reducible refine Below.drew ?_) | go_size))⟩
  · clear h
    have b1 : decide (1 ≤ y) = false := by simpa using a1
    go_enter Tryz.func61, Tryz.ntmps61
    go_wp2
    go_quiet (fail)
    go_wp2
    go_ret
    exact ⟨rfl, by (repeat' (first | (with_reducible exact Below.refl _ _) | (with_reducible assumption) | (with_reducible refine Below.trans ?_ (Below.mono (by with_reducible assumption) ?_)) | (with_reducible refine Below.alloc ?_ ?_ _) | (with_reducible refine Below.setCell ?_ ?_ _) | (with_reducible refine below_drewN ?_ _) | (with_reducible refine Below.drew ?_) | go_size))⟩

theorem ref2_days_no (y m d : Int) (w : World) (h : ¬ Cal.Vld y m d) :
    Calls Tryz.prog 36 #[.agg #[.int .i64 y, .int .i64 m, .int .i64 d]] w fun e w' => e = .returned (.tuple #[.int .i64 0, .int .i64 1]) ∧ Below w.heap.size w w' := by
  go_enter Tryz.func36, Tryz.ntmps36
  go_wp2_with (go_at_call 61; refine (ref2_is_no y m d _ h).mono ?_; rintro e w1 ⟨rfl, hb1⟩; obtain ⟨hc1, hf1⟩ := bcell hb1; have hz1 := hb1.size; (try simp only [World.size_alloc, World.size_setCell, World.heap_drewN] at hb1 hc1 hf1 hz1); (try have ha01 : w.heap.size < w1.heap.size := by omega); (try have ha11 : w.heap.size + 1 < w1.heap.size := by omega); (try have ha21 : w.heap.size + 2 < w1.heap.size := by omega); (try have hal1 : w.heap.size ≤ w1.heap.size := by omega); (try have ham1 : w.heap.size < w1.heap.size + 2 := by omega))
  go_ret2
  go_light
  exact ⟨rfl, by (repeat' (first | (with_reducible exact Below.refl _ _) | (with_reducible assumption) | (with_reducible refine Below.trans ?_ (Below.mono (by with_reducible assumption) ?_)) | (with_reducible refine Below.alloc ?_ ?_ _) | (with_reducible refine Below.setCell ?_ ?_ _) | (with_reducible refine below_drewN ?_ _) | (with_reducible refine Below.drew ?_) | go_size))⟩
set_option maxHeartbeats 1000000 in
theorem ref2_days_yes (y m d : Int) (w : World) (h : Cal.Vld y m d) :
    Calls Tryz.prog 36 #[.agg #[.int .i64 y, .int .i64 m, .int .i64 d]] w fun e w' => e = .returned (.tuple #[.int .i64 (Cal.num y m d), .int .i64 0]) ∧ Below w.heap.size w w' := by
  have h' := h
  obtain ⟨a1, a2, a3, a4, a5, a6⟩ := h'
  have hd := (Cal.dim_bd y m).2
  have b1 := Cal.yr_bd y a1 (by omega)
  have b2 := Cal.cum_bd y m a3 (by omega)
  have HN : Hid (Cal.yr y + Cal.cum y m + d - 1 - 719162 = Cal.num y m d) := rfl
  go_enter Tryz.func36, Tryz.ntmps36
  go_wp2_with (go_at_call 61; refine (ref2_is_yes y m d _ h).mono ?_; rintro e w1 ⟨rfl, hb1⟩; obtain ⟨hc1, hf1⟩ := bcell hb1; have hz1 := hb1.size; (try simp only [World.size_alloc, World.size_setCell, World.heap_drewN] at hb1 hc1 hf1 hz1); (try have ha01 : w.heap.size < w1.heap.size := by omega); (try have ha11 : w.heap.size + 1 < w1.heap.size := by omega); (try have ha21 : w.heap.size + 2 < w1.heap.size := by omega); (try have hal1 : w.heap.size ≤ w1.heap.size := by omega); (try have ham1 : w.heap.size < w1.heap.size + 2 := by omega))
  have e5 : IntKind.i64.wrap (Cal.yr y + Cal.cum y m) = Cal.yr y + Cal.cum y m := IntWalk.i64_in _ (by omega)
  have e6 : IntKind.i64.wrap (Cal.yr y + Cal.cum y m + d) = Cal.yr y + Cal.cum y m + d := IntWalk.i64_in _ (by omega)
  have e7 : IntKind.i64.wrap (Cal.yr y + Cal.cum y m + d - 1) = Cal.yr y + Cal.cum y m + d - 1 := IntWalk.i64_in _ (by omega)
  have e8 : IntKind.i64.wrap (Cal.yr y + Cal.cum y m + d - 1 - Cal.yr 1970) = Cal.num y m d := by rw [yr_1970]; exact (IntWalk.i64_in _ (by omega)).trans HN.out
  go_quiet (first | (go_at_call 63; exact Calls.quiet_of_same ((ref2_month y m _ a1 (by clear e5 e6 e7 e8; omega) a3 (by clear e5 e6 e7 e8; omega)).mono (fun _ _ h => ⟨h.1, h.2.symm⟩))) | (go_at_call 62; exact Calls.quiet_of_same ((ref2_year _ _ (by clear e5 e6 e7 e8; omega) (by clear e5 e6 e7 e8; omega)).mono (fun _ _ h => ⟨h.1, h.2.symm⟩))))
  clear e5 e6 e7 e8
  go_wp2
  go_ret2
  go_light
  exact ⟨rfl, by (repeat' (first | (with_reducible exact Below.refl _ _) | (with_reducible assumption) | (with_reducible refine Below.trans ?_ (Below.mono (by with_reducible assumption) ?_)) | (with_reducible refine Below.alloc ?_ ?_ _) | (with_reducible refine Below.setCell ?_ ?_ _) | (with_reducible refine below_drewN ?_ _) | (with_reducible refine Below.drew ?_) | go_size))⟩
end Go.Proofs.YtepdnkpmkhjlgaaGreat

/- meridianref2.In. -/
namespace Go.Proofs.YtepdnkpmkhjlgaaGreat
open Go.RowKit

theorem ref2_in (n : Int) (w : World) :
    Calls Tryz.prog 74 #[.int .i64 n] w fun e w' => e = .returned (.bool (decide (-719162 ≤ n) && decide (n < 2932897))) ∧ w = w' := by
  have e1 := Lib.hid yr_1970
  have e2 := Lib.hid yr_10000
  by_cases h : -719162 ≤ n
  · go_enter Tryz.func74, Tryz.ntmps74
    go_wp2_with (go_at_call 62; refine (ref2_year _ _ (by omega) (by omega)).mono ?_; rintro e w' ⟨rfl, rfl⟩; first | rw [e1.out] | rw [e2.out])
    go_ret
    exact ⟨by simp [h], rfl⟩
  · have h' : decide (-719162 ≤ n) = false := by simpa using h
    go_enter Tryz.func74, Tryz.ntmps74
    go_wp2_with (go_at_call 62; refine (ref2_year _ _ (by omega) (by omega)).mono ?_; rintro e w' ⟨rfl, rfl⟩; first | rw [e1.out] | rw [e2.out])
    go_ret
    exact ⟨by simp [h'], rfl⟩
end Go.Proofs.YtepdnkpmkhjlgaaGreat

/- The contract of meridianref2.Date. -/
namespace Go.Proofs.YtepdnkpmkhjlgaaGreat
open Go.RowKit

set_option maxHeartbeats 400000 in
theorem ref2_date_no (n : Int) (w : World) (h : n < -719162 ∨ 2932896 < n) :
    Calls Tryz.prog 95 #[.int .i64 n] w fun e w' => e = .returned (.tuple #[.agg #[.int .i64 0, .int .i64 0, .int .i64 0], .int .i64 11]) ∧ Below w.heap.size w w' := by
  have hB : (decide (-719162 ≤ n) && decide (n < 2932897)) = false := by
    rcases h with h | h
    · rw [decide_eq_false (by omega)]; rfl
    · rw [Bool.and_comm, decide_eq_false (by omega)]; rfl
  have hI : ∀ w : World, Calls Tryz.prog 74 #[.int .i64 n] w fun e w' => e = .returned (.bool false) ∧ w = w' := fun w => by have := ref2_in n w; rwa [hB] at this
  have HI := Lib.hid hI
  clear hI hB h
  go_enter Tryz.func95, Tryz.ntmps95
  go_wp2_with (go_at_call 74; refine (HI.out _).mono ?_; rintro e w' ⟨rfl, rfl⟩)
  refine bodyPost_ret (v := .tuple #[.agg #[.int .i64 0, .int .i64 0, .int .i64 0], .int .i64 11]) (by simp [results, Tryz.results95, go_sem]) rfl ⟨rfl, ?_⟩
  go_light
  (repeat' (first | (with_reducible exact Below.refl _ _) | (with_reducible assumption) | (with_reducible refine Below.trans ?_ (Below.mono (by with_reducible assumption) ?_)) | (with_reducible refine Below.alloc ?_ ?_ _) | (with_reducible refine Below.setCell ?_ ?_ _) | (with_reducible refine below_drewN ?_ _) | (with_reducible refine Below.drew ?_) | go_size))

theorem yr_guess (r : Int) (h0 : 0 ≤ r) (h1 : r < 3652059) : Cal.yr (r / 366 + 1) ≤ r := by unfold Cal.yr; omega
set_option maxHeartbeats 2000000 in
theorem ref2_date_yes (y m d n : Int) (w : World) (hv : Cal.Vld y m d) (hn : n = Cal.num y m d) :
    Calls Tryz.prog 95 #[.int .i64 n] w fun e w' => e = .returned (.tuple #[.agg #[.int .i64 y, .int .i64 m, .int .i64 d], .int .i64 0]) ∧ Below w.heap.size w w' := by
  have hb := Cal.num_bd hv
  rw [← hn] at hb
  obtain ⟨n0, n1⟩ := hb
  have HN := Lib.hid hn
  clear hn
  have hB : (decide (-719162 ≤ n) && decide (n < 2932897)) = true := by rw [decide_eq_true (by omega), decide_eq_true (by omega)]; rfl
  have hI : ∀ w : World, Calls Tryz.prog 74 #[.int .i64 n] w fun e w' => e = .returned (.bool true) ∧ w = w' := fun w => by have := ref2_in n w; rwa [hB] at this
  have HI := Lib.hid hI
  clear hI hB
  have g0 := yr_guess (n + 719162) (by omega) (by omega)
  have e1 := Lib.hid yr_1970
  have e2 := Lib.hid yr_10000
  go_enter Tryz.func95, Tryz.ntmps95
  go_wp2_with (first | (go_at_call 74; refine (HI.out _).mono ?_; rintro e w' ⟨rfl, rfl⟩) | (go_at_call 62; refine (ref2_year _ _ (by omega) (by omega)).mono ?_; rintro e w' ⟨rfl, rfl⟩; rw [e1.out]))
  clear HI
  go_loop [5] (fun t => ∃ k : Int, 1 ≤ k ∧ k ≤ 9999 ∧ Cal.yr k ≤ n + 719162 ∧ t = .int .i64 k) (fun t => (9999 - intOf t).toNat)
  case atStart => exact ⟨_, by omega, by omega, g0, rfl⟩
  case round =>
    obtain ⟨k, k0, k1, k2, rfl⟩ := hrel
    clear g0
    have yb := Cal.yr_bd k k0 (by omega)
    by_cases hc : Cal.yr (k + 1) ≤ n + 719162
    · have hlt : k < 9999 := by
        rcases (show k < 9999 ∨ k = 9999 from by omega) with h | h
        · exact h
        · subst h; have : Cal.yr (9999 + 1) = 3652059 := e2.out; omega
      go_wp2_with (go_at_call 62; refine (ref2_year _ _ (by omega) (by omega)).mono ?_; rintro e w' ⟨rfl, rfl⟩)
      go_round
      case rel => exact ⟨k + 1, by omega, by omega, hc, rfl⟩
      case measure => simp [intOf]; omega
    · have HS := Lib.hid (Cal.yr_succ k)
      have lp := Cal.lp_01 k
      go_wp2_with (go_at_call 62; refine (ref2_year _ _ (by omega) (by omega)).mono ?_; rintro e w' ⟨rfl, rfl⟩)
      go_loop [4, 6] (fun r t => ∃ mo : Int, 1 ≤ mo ∧ mo ≤ 12 ∧ Cal.cum k mo ≤ n + 719162 - Cal.yr k ∧ r = .int .i64 (n + 719162 - Cal.yr k - Cal.cum k mo) ∧ t = .int .i64 mo) (fun _ t => (12 - intOf t).toNat)
      case atStart =>
        have c1 := Cal.cum_1 k
        exact ⟨1, by omega, by omega, by rw [c1]; omega, by rw [c1, Int.sub_zero], rfl⟩
      case round =>
        obtain ⟨mo, m0, m1, m2, rfl, rfl⟩ := hrel
        have cb := Cal.cum_bd k mo m0 (by omega)
        have HC := Lib.hid (Cal.cum_succ k mo m0 m1)
        have db := Cal.dim_bd k mo
        by_cases hc2 : Cal.dim k mo ≤ n + 719162 - Cal.yr k - Cal.cum k mo
        · have hlt : mo < 12 := by
            rcases (show mo < 12 ∨ mo = 12 from by omega) with h | h
            · exact h
            · subst h; have a := HC.out; have b := Cal.cum_13 k; have c := HS.out
              have a' : Cal.cum k 13 = Cal.cum k 12 + Cal.dim k 12 := a
              omega
          go_wp2_with (go_at_call 82; refine (ref2_length k mo _ (by omega) (by omega)).mono ?_; rintro e w' ⟨rfl, rfl⟩)
          go_round
          case rel => exact ⟨mo + 1, by omega, by omega, by rw [HC.out]; omega, by rw [HC.out, ← Int.sub_sub], rfl⟩
          case measure => simp [intOf]; omega
        · have V : Cal.Vld k mo (n + 719162 - Cal.yr k - Cal.cum k mo + 1) := ⟨k0, k1, m0, m1, by omega, by omega⟩
          have V2 : Cal.num k mo (n + 719162 - Cal.yr k - Cal.cum k mo + 1) = n := by unfold Cal.num; omega
          obtain ⟨E1, E2, E3⟩ := Cal.num_inj V hv (V2.trans HN.out)
          have HE1 := Lib.hid E1; have HE2 := Lib.hid E2; have HE3 := Lib.hid E3
          clear V V2 E1 E2 E3
          go_wp2_with (go_at_call 82; refine (ref2_length k mo _ (by omega) (by omega)).mono ?_; rintro e w' ⟨rfl, rfl⟩)
          refine bodyPost_ret (v := .tuple #[.agg #[.int .i64 k, .int .i64 mo, .int .i64 (n + 719162 - Cal.yr k - Cal.cum k mo + 1)], .int .i64 0]) (by simp [results, Tryz.results95, go_sem]) rfl ⟨ret_date HE1.out HE2.out HE3.out, ?_⟩
          go_light
          (repeat' (first | (with_reducible exact Below.refl _ _) | (with_reducible assumption) | (with_reducible refine Below.trans ?_ (Below.mono (by with_reducible assumption) ?_)) | (with_reducible refine Below.alloc ?_ ?_ _) | (with_reducible refine Below.setCell ?_ ?_ _) | (with_reducible refine below_drewN ?_ _) | (with_reducible refine Below.drew ?_) | go_size))
end Go.Proofs.YtepdnkpmkhjlgaaGreat

