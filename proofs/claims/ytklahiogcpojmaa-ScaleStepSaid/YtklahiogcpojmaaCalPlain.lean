/- Plain facts on dates, with no program in sight: the count of a valid date, one by one. -/
set_option linter.unusedSimpArgs false
set_option linter.unusedVariables false
namespace Go.Proofs.Ytklahiogcpojmaa.Cal

/-- 1 in a leap year. -/
def lp (y : Int) : Int := if y % 4 = 0 ∧ (y % 100 ≠ 0 ∨ y % 400 = 0) then 1 else 0
/-- How many days a month has. -/
def dim (y m : Int) : Int := if m = 2 then 28 + lp y else if m = 4 ∨ m = 6 ∨ m = 9 ∨ m = 11 then 30 else 31
/-- How many days are ahead of a year. -/
def yr (y : Int) : Int := 365 * (y - 1) + (y - 1) / 4 - (y - 1) / 100 + (y - 1) / 400
/-- How many days of a year are ahead of a month. -/
def cum (y m : Int) : Int :=
  if m ≤ 1 then 0 else if m = 2 then 31 else if m = 3 then 59 + lp y else if m = 4 then 90 + lp y else if m = 5 then 120 + lp y else if m = 6 then 151 + lp y
  else if m = 7 then 181 + lp y else if m = 8 then 212 + lp y else if m = 9 then 243 + lp y else if m = 10 then 273 + lp y else if m = 11 then 304 + lp y else if m = 12 then 334 + lp y else 365 + lp y
def num (y m d : Int) : Int := yr y + cum y m + d - 1 - 719162
/-- Is it a date? -/
def Vld (y m d : Int) : Prop := 1 ≤ y ∧ y ≤ 9999 ∧ 1 ≤ m ∧ m ≤ 12 ∧ 1 ≤ d ∧ d ≤ dim y m

theorem lp_01 (y : Int) : 0 ≤ lp y ∧ lp y ≤ 1 := by unfold lp; split <;> omega
theorem lp_eq (y : Int) : lp y = y / 4 - (y - 1) / 4 - (y / 100 - (y - 1) / 100) + (y / 400 - (y - 1) / 400) := by
  unfold lp; split <;> omega
theorem yr_succ (y : Int) : yr (y + 1) = yr y + 365 + lp y := by
  have := lp_eq y; unfold yr; rw [Int.add_sub_cancel]; omega
theorem dim_bd (y m : Int) : 28 ≤ dim y m ∧ dim y m ≤ 31 := by
  have := lp_01 y; unfold dim; repeat' split
  all_goals omega
theorem cum_succ (y m : Int) (h1 : 1 ≤ m) (h2 : m ≤ 12) : cum y (m + 1) = cum y m + dim y m := by
  have := lp_01 y
  obtain h | h | h | h | h | h | h | h | h | h | h | h : m = 1 ∨ m = 2 ∨ m = 3 ∨ m = 4 ∨ m = 5 ∨ m = 6 ∨ m = 7 ∨ m = 8 ∨ m = 9 ∨ m = 10 ∨ m = 11 ∨ m = 12 := by omega
  all_goals (subst h; simp [cum, dim]; try omega)
theorem cum_13 (y : Int) : cum y 13 = 365 + lp y := by simp [cum]
theorem cum_1 (y : Int) : cum y 1 = 0 := by simp [cum]
theorem cum_mono (y a b : Int) (h1 : 1 ≤ a) (h : a ≤ b) (h2 : b ≤ 13) : cum y a ≤ cum y b := by
  obtain ⟨k, rfl⟩ : ∃ k : Nat, b = a + k := ⟨(b - a).toNat, by omega⟩
  induction k with
  | zero => simp
  | succ k ih =>
    have e : a + ((k + 1 : Nat) : Int) = (a + k) + 1 := by omega
    rw [e, cum_succ y (a + k) (by omega) (by omega)]
    have := ih (by omega) (by omega)
    have := dim_bd y (a + k)
    omega
theorem cum_bd (y m : Int) (h1 : 1 ≤ m) (h2 : m ≤ 13) : 0 ≤ cum y m ∧ cum y m ≤ 366 := by
  have a := cum_mono y 1 m (by omega) h1 h2
  have b := cum_mono y m 13 h1 h2 (by omega)
  have := lp_01 y
  rw [cum_1] at a; rw [cum_13] at b
  omega
theorem yr_mono (a b : Int) (h : a ≤ b) : yr a ≤ yr b := by unfold yr; omega
theorem yr_bd (y : Int) (h1 : 1 ≤ y) (h2 : y ≤ 10400) : 0 ≤ yr y ∧ yr y ≤ 3798370 := by unfold yr; omega

/-- Two valid dates of one count are one. -/
theorem num_inj {y m d y' m' d' : Int} (h : Vld y m d) (h' : Vld y' m' d') (e : num y m d = num y' m' d') : y = y' ∧ m = m' ∧ d = d' := by
  obtain ⟨a1, a2, a3, a4, a5, a6⟩ := h
  obtain ⟨b1, b2, b3, b4, b5, b6⟩ := h'
  unfold num at e
  have c1 := cum_succ y m a3 a4
  have c2 := cum_succ y' m' b3 b4
  have d1 := cum_mono y (m + 1) 13 (by omega) (by omega) (by omega)
  have d2 := cum_mono y' (m' + 1) 13 (by omega) (by omega) (by omega)
  have k1 := (cum_bd y m (by omega) (by omega)).1
  have k2 := (cum_bd y' m' (by omega) (by omega)).1
  rw [cum_13] at d1 d2
  have s1 := yr_succ y
  have s2 := yr_succ y'
  have hy : y = y' := by
    rcases Int.lt_trichotomy y y' with h | h | h
    · have := yr_mono (y + 1) y' (by omega); omega
    · exact h
    · have := yr_mono (y' + 1) y (by omega); omega
  subst hy
  have hm : m = m' := by
    rcases Int.lt_trichotomy m m' with h | h | h
    · have := cum_mono y (m + 1) m' (by omega) (by omega) (by omega); omega
    · exact h
    · have := cum_mono y (m' + 1) m (by omega) (by omega) (by omega); omega
  subst hm
  exact ⟨rfl, rfl, by omega⟩

theorem num_bd {y m d : Int} (h : Vld y m d) : -719162 ≤ num y m d ∧ num y m d ≤ 2932896 := by
  obtain ⟨a1, a2, a3, a4, a5, a6⟩ := h
  have c1 := cum_succ y m a3 a4
  have d1 := cum_mono y (m + 1) 13 (by omega) (by omega) (by omega)
  rw [cum_13] at d1
  have s1 := yr_succ y
  have k1 := (cum_bd y m (by omega) (by omega)).1
  have := yr_mono (y + 1) 10000 (by omega)
  have e : yr 10000 = 3652059 := by decide
  have := (yr_bd y a1 (by omega)).1
  unfold num
  omega

/-- Every count in range is a date's. -/
theorem date_ex (n : Int) (h1 : -719162 ≤ n) (h2 : n ≤ 2932896) : ∃ y m d, Vld y m d ∧ num y m d = n := by
  have hy : ∀ k : Nat, k ≤ 9998 → n + 719162 < yr (k + 2) → ∃ y, 1 ≤ y ∧ y ≤ 9999 ∧ yr y ≤ n + 719162 ∧ n + 719162 < yr (y + 1) := by
    intro k
    induction k with
    | zero =>
      intro _ hk
      have e : yr 1 = 0 := by decide
      exact ⟨1, by omega, by omega, by omega, by simpa using hk⟩
    | succ k ih =>
      intro hk hlt
      by_cases c : n + 719162 < yr (k + 2)
      · exact ih (by omega) c
      · exact ⟨k + 2, by omega, by omega, by omega, by
          have e : ((k + 1 : Nat) : Int) + 2 = (k : Int) + 2 + 1 := by omega
          rw [e] at hlt; exact hlt⟩
  obtain ⟨y, y1, y2, y3, y4⟩ := hy 9998 (by omega) (by rw [show ((9998 : Nat) : Int) + 2 = 10000 from by omega, show yr 10000 = 3652059 from by decide]; omega)
  rw [yr_succ] at y4
  have hm : ∀ k : Nat, k ≤ 11 → n + 719162 - yr y < cum y (k + 2) → ∃ m, 1 ≤ m ∧ m ≤ 12 ∧ cum y m ≤ n + 719162 - yr y ∧ n + 719162 - yr y < cum y (m + 1) := by
    intro k
    induction k with
    | zero => intro _ hk; exact ⟨1, by omega, by omega, by rw [cum_1]; omega, by simpa using hk⟩
    | succ k ih =>
      intro hk hlt
      by_cases c : n + 719162 - yr y < cum y (k + 2)
      · exact ih (by omega) c
      · exact ⟨k + 2, by omega, by omega, by omega, by
          have e : ((k + 1 : Nat) : Int) + 2 = (k : Int) + 2 + 1 := by omega
          rw [e] at hlt; exact hlt⟩
  obtain ⟨m, m1, m2, m3, m4⟩ := hm 11 (by omega) (by rw [show ((11 : Nat) : Int) + 2 = 13 from rfl, cum_13]; omega)
  rw [cum_succ y m m1 m2] at m4
  exact ⟨y, m, n + 719162 - yr y - cum y m + 1, ⟨y1, y2, m1, m2, by omega, by omega⟩, by unfold num; omega⟩

/-! The way of cal: years from March on. -/
def ahead (k : Int) : Int := k * 365 + k / 4 - k / 100 + k / 400
def march (k : Int) : Int := (153 * k + 2) / 5
theorem march_cum (y m : Int) (h3 : 3 ≤ m) (h12 : m ≤ 12) : march (m - 3) = cum y m - 59 - lp y := by
  obtain h | h | h | h | h | h | h | h | h | h : m = 3 ∨ m = 4 ∨ m = 5 ∨ m = 6 ∨ m = 7 ∨ m = 8 ∨ m = 9 ∨ m = 10 ∨ m = 11 ∨ m = 12 := by omega
  all_goals (subst h; simp [cum, march]; try omega)
theorem march_jan (y m : Int) (h1 : 1 ≤ m) (h2 : m ≤ 2) : march (m + 9) = cum y m + 306 := by
  obtain h | h : m = 1 ∨ m = 2 := by omega
  all_goals (subst h; simp [cum, march])
theorem ahead_mod (y : Int) : y / 400 * 146097 + ahead (y % 400) = ahead y := by unfold ahead; omega
theorem yr_ahead (y : Int) : yr (y + 1) = ahead y := by unfold yr ahead; rw [Int.add_sub_cancel]; omega
/-- The march year's count is the count. -/
theorem num_late (y m d : Int) (h3 : 3 ≤ m) (h12 : m ≤ 12) : y / 400 * 146097 + ahead (y % 400) + march (m - 3) + d - 1 - 719468 = num y m d := by
  rw [ahead_mod, march_cum y m h3 h12, ← yr_ahead, yr_succ]; unfold num; omega
theorem num_early (y m d : Int) (h1 : 1 ≤ m) (h2 : m ≤ 2) : (y - 1) / 400 * 146097 + ahead ((y - 1) % 400) + march (m + 9) + d - 1 - 719468 = num y m d := by
  rw [ahead_mod, march_jan y m h1 h2, ← yr_ahead]; rw [Int.sub_add_cancel]; unfold num; omega

theorem ahead_succ (k : Int) : ahead (k + 1) = ahead k + 365 + lp (k + 1) := by
  have a := yr_ahead k; have b := yr_ahead (k + 1); have c := yr_succ (k + 1); omega
theorem lp_mod (q k : Int) : lp (q * 400 + k) = lp k := by
  unfold lp; congr 1; apply propext; constructor <;> (intro h; omega)
/-- What the two loops of cal.Date have found is a date, and its count. -/
theorem from_march (n q k r mo : Int) (hq : 0 ≤ q) (k0 : 0 ≤ k) (k1 : k ≤ 399) (hD : n + 719468 = q * 146097 + r) (r0 : ahead k ≤ r) (r1 : r < ahead (k + 1)) (m0 : 0 ≤ mo) (m1 : mo ≤ 11)
    (hm : march mo ≤ r - ahead k) (hm2 : mo = 11 ∨ r - ahead k < march (mo + 1)) (n0 : -719162 ≤ n) (n1 : n ≤ 2932896) :
    (mo ≤ 9 → Vld (q * 400 + k) (mo + 3) (r - ahead k - march mo + 1) ∧ num (q * 400 + k) (mo + 3) (r - ahead k - march mo + 1) = n) ∧
    (10 ≤ mo → Vld (q * 400 + k + 1) (mo - 9) (r - ahead k - march mo + 1) ∧ num (q * 400 + k + 1) (mo - 9) (r - ahead k - march mo + 1) = n) := by
  have s1 := ahead_succ k
  have l1 := lp_01 (k + 1)
  have l2 := lp_mod q (k + 1)
  have e1 : (q * 400 + k) / 400 = q := by omega
  have e2 : (q * 400 + k) % 400 = k := by omega
  have A : q * 146097 + ahead k = ahead (q * 400 + k) := by have := ahead_mod (q * 400 + k); rw [e1, e2] at this; exact this
  have dimR : ∀ y : Int, 3 ≤ mo + 3 → mo + 3 ≤ 12 → march (mo + 1) = march mo + dim y (mo + 3) := by
    intro y _ h12
    have l := lp_01 y
    obtain h | h | h | h | h | h | h | h | h | h : mo = 0 ∨ mo = 1 ∨ mo = 2 ∨ mo = 3 ∨ mo = 4 ∨ mo = 5 ∨ mo = 6 ∨ mo = 7 ∨ mo = 8 ∨ mo = 9 := by omega
    all_goals (subst h; simp [march, dim])
  constructor
  · intro h9
    have dd := dimR (q * 400 + k) (by omega) (by omega)
    have hy0 : 1 ≤ q * 400 + k := by
      rcases (show q * 400 + k < 1 ∨ 1 ≤ q * 400 + k from by omega) with h | h
      · have hq0 : q = 0 := by omega
        have hk0 : k = 0 := by omega
        subst hq0; subst hk0
        have a0 : ahead 0 = 0 := by decide
        have : march (mo + 1) ≤ 306 := by unfold march; omega
        omega
      · exact h
    have hy1 : q * 400 + k ≤ 9999 := by
      rcases (show 9999 < q * 400 + k ∨ q * 400 + k ≤ 9999 from by omega) with h | h
      · have : 3652425 ≤ ahead (q * 400 + k) := by unfold ahead; omega
        omega
      · exact h
    refine ⟨⟨hy0, hy1, by omega, by omega, by omega, by omega⟩, ?_⟩
    rw [← num_late _ _ _ (by omega) (by omega), e1, e2, show mo + 3 - 3 = mo from by omega]; omega
  · intro h10
    have hy1 : q * 400 + k + 1 ≤ 9999 := by
      rcases (show 9999 < q * 400 + k + 1 ∨ q * 400 + k + 1 ≤ 9999 from by omega) with h | h
      · have h1 : 3652059 ≤ ahead (q * 400 + k) := by unfold ahead; omega
        have h2 : 306 ≤ march mo := by unfold march; omega
        omega
      · exact h
    refine ⟨⟨by omega, hy1, by omega, by omega, by omega, ?_⟩, ?_⟩
    · obtain h | h : mo = 10 ∨ mo = 11 := by omega
      · subst h
        have a : march 10 = 306 := by decide
        have b : march (10 + 1) = 337 := by decide
        simp [dim]; omega
      · subst h
        have a : march 11 = 337 := by decide
        have e3 : q * 400 + k + 1 = q * 400 + (k + 1) := by omega
        simp [dim]; rw [e3, l2]; omega
    · have e4 : q * 400 + k + 1 - 1 = q * 400 + k := by omega
      rw [← num_early _ _ _ (by omega) (by omega), e4, e1, e2, show mo - 9 + 9 = mo from by omega]; omega
end Go.Proofs.Ytklahiogcpojmaa.Cal
