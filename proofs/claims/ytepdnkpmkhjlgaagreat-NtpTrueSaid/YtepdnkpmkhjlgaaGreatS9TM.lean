/- Stage 9: NtpTrue: the claim. -/
import Derived.Test.YtepdnkpmkhjlgaaGreatM9P
import Derived.Test.YtepdnkpmkhjlgaaGreatRNtHear
import Derived.Test.YtepdnkpmkhjlgaaGreatM9P
import Derived.Test.YtepdnkpmkhjlgaaGreatArgInts
import Derived.Test.YtepdnkpmkhjlgaaGreatLow40
/- NTP: more than half tell the truth (plain mathematics; written by a script out of XNtTold and by hand). -/
set_option linter.unusedSimpArgs false
set_option linter.unusedVariables false
namespace Go.Proofs.YtepdnkpmkhjlgaaGreat
open Go.RowKit Go.Sort

theorem mom_far (tai day : Int) (h0 : 0 ≤ tai) (h1 : tai ≤ 1153000000000000000) (d0 : -1 ≤ day) (d1 : day ≤ 13400) : momV zt 3 21167 (stpV zt 3 tai) day = (tai, 0) := by
  have u := utc_is zt_tab tai
  have hdb : -1 ≤ utcD zt 3 tai ∧ utcD zt 3 tai ≤ 13400 := by unfold utcD; split <;> omega
  have e := u.eq
  have lo := u.lo
  have hi := u.hi
  unfold begS at e
  rw [off_zt _ (by omega)] at e hi
  rw [off_zt _ (by omega)] at hi
  unfold stpV
  generalize utcD zt 3 tai = d at *
  generalize utcM zt 3 tai = m at *
  have nb := near_back d m (day - d) (dayB_mk (by omega) (by omega)) (dayB_mk (by omega) (by omega)) lo (by omega) (by omega) (by omega)
  rw [show d + (day - d) = day from by omega] at nb
  have hdy : dayB day = true := dayB_mk (by omega) (by omega)
  unfold nearR at nb
  rw [if_pos hdy] at nb
  have hnd : dayB (nearDay (stampOf d m) day) = true := by
    cases hq : dayB (nearDay (stampOf d m) day)
    · rw [hq] at nb
      simp at nb
    · rfl
  rw [hnd] at nb
  simp only [if_true, Value.tuple.injEq, Value.agg.injEq] at nb
  have nb' : nearDay (stampOf d m) day = d ∧ nearNano (stampOf d m) day = m := by
    simp at nb
    exact nb
  unfold momV
  rw [hnd, nb'.1, nb'.2, if_neg (by simp), if_neg (by omega)]
  have hl : lenN zt 3 d = 86400 := by unfold lenN; rw [off_zt _ (by omega), off_zt _ (by omega)]; omega
  rw [hl, if_neg (by omega)]
  have ht : taiN zt 3 d m = tai := by
    unfold taiN
    rw [off_zt _ (by omega)]
    have hk : mulS 35 1000000000 = 35000000000 := by decide
    have hd : mulS d 86400000000000 = d * 86400000000000 := by unfold mulS; rw [if_neg (by omega), if_neg (by omega)]
    rw [hk, hd, addS_in (a := d * 86400000000000) (by omega) (by omega), addS_in (by omega) (by omega)]
    omega
  rw [ht]
theorem smp_far (T a hd : Int) (t0 : 0 ≤ T) (t1 : T ≤ 1153000000000000000) (a0 : 0 ≤ a) (a1 : a ≤ hd) (h1 : hd ≤ 1153000000000000000) : smpV a T T hd 0 0 = if hd - a ≤ 16000000000 then ((2 * T - a - hd) / 2 - ((hd - a) / 2 + 1), (2 * T - a - hd) / 2 + ((hd - a) / 2 + 1), 0) else (0, 0, 11) := by
  have e1 : dlyV hd a T T = hd - a := by
    unfold dlyV
    rw [addS_in (a := hd) (by omega) (by omega), addS_in (a := hd + -a) (by omega) (by omega), addS_in (by omega) (by omega)]
    omega
  have e2 : offV hd a T T = (2 * T - a - hd) / 2 := by
    unfold offV
    rw [addS_in (a := T) (by omega) (by omega), addS_in (a := T + -a) (by omega) (by omega), addS_in (by omega) (by omega)]
    congr 1
    omega
  have n0 : nanV 0 = 0 := by decide
  unfold smpV
  rw [if_neg (by omega), e1, e2]
  by_cases h : hd - a ≤ 16000000000
  · rw [if_neg (by omega), if_pos h]
    have e3 : byV (hd - a) 0 0 = (hd - a) / 2 + 1 := by
      unfold byV
      rw [show (0 : Int) / 2 = 0 from rfl, n0, addS_in (a := (hd - a) / 2) (by omega) (by omega), addS_in (a := (hd - a) / 2 + 1) (by omega) (by omega), addS_in (a := (hd - a) / 2 + 1 + 0) (by omega) (by omega)]
      omega
    rw [e3, addS_in (by omega) (by omega), addS_in (by omega) (by omega)]
    rfl
  · rw [if_pos (by omega), if_neg h]
/-- An answer that tells the moment T. -/
theorem hear_far (rs : Srv → Srv) (N : Nat) (K : Cs) (i : Nat) (count q T hd a : Int) (hq : (K.S i).q = q) (hq0 : q ≠ 0) (ha : (K.S i).a = a) (hh : rt K.c K.t K.l count = hd) (t0 : 0 ≤ T) (t1 : T ≤ 1153000000000000000) (a0 : 0 ≤ a) (a1 : a ≤ hd) (h1 : hd ≤ 1153000000000000000) :
    hearK rs zt 3 21167 N K i count (tellP q T) = if hd - a ≤ 16000000000 then (0, turnK rs (smpK (readK (clrK K i) count) i hd ((2 * T - a - hd) / 2 - ((hd - a) / 2 + 1)) ((2 * T - a - hd) / 2 + ((hd - a) / 2 + 1))) N hd) else (11, readK (clrK K i) count) := by
  have hs := stp_pos T t0 t1
  have hb := utcD_bd (z := zt) (n := 3) hd (by omega) (by omega)
  have hb2 : utcD zt 3 hd ≤ 13400 := by unfold utcD; split <;> omega
  have hm := mom_far T (utcD zt 3 hd) t0 t1 hb.1 hb2
  unfold hearK
  rw [if_neg (by simp), if_neg (by rw [hq]; simp [hq0]), if_neg (by simp), if_neg (by simp [hs]), hear1_eq]
  have et : (readK (clrK K i) count).t = hd := hh
  have es : (readK (clrK K i) count).S i = { K.S i with q := 0 } := updS_same _ _ _
  have etm : tmsV zt 3 21167 (tellP q T) hd = (T, T, 0) := by
    unfold tmsV
    rw [if_neg (by omega), hm, if_neg (by simp), if_neg (by simp)]
  rw [et, etm, if_neg (by simp), hear2_eq, et, es]
  simp only [ha]
  rw [smp_far T a hd t0 t1 a0 a1 h1]
  by_cases h : hd - a ≤ 16000000000
  · simp only [if_pos h]
    rw [if_neg (by simp)]
  · simp only [if_neg h]
    rw [if_pos (by simp)]
/-- Ahead of the turn: m of N servers, the last ones, have told the truth. -/
structure InA (K : Cs) (N m : Nat) (D lo hi : Int) : Prop where
  c : K.c ≤ D
  t : rt K.c K.t K.l D = D
  syn : K.syn = 0
  told : ∀ j, j < N → N - m ≤ j → (K.S j).has = true ∧ (K.S j).h = D ∧ (K.S j).lo = lo ∧ (K.S j).hi = hi
  open_ : ∀ j, j < N - m → (K.S j).has = false ∧ (K.S j).q = j + 1 ∧ (K.S j).a = 0
/-- Behind the turn: the clock shows s. -/
structure InB (K : Cs) (N m : Nat) (D s : Int) : Prop where
  c : K.c = D
  t : K.t = s
  syn : K.syn = 1
  open_ : ∀ j, j < N - m → (K.S j).q = j + 1 ∧ (K.S j).a = 0
theorem cand_rep (S : Nat → Srv) (D lo hi : Int) (f : Nat) : ∀ k, (∀ j, j < k → f ≤ j → (S j).has = true ∧ (S j).h = D ∧ (S j).lo = lo ∧ (S j).hi = hi) → (∀ j, j < k → j < f → (S j).has = false) → cand S D k = List.replicate (k - f) (lo, hi)
  | 0, _, _ => by simp [cand]
  | k + 1, h1, h2 => by
    have e := cand_rep S D lo hi f k (fun j hj => h1 j (by omega)) (fun j hj => h2 j (by omega))
    unfold cand
    rw [e]
    by_cases hk : f ≤ k
    · obtain ⟨s0, s1, s2, s3⟩ := h1 k (by omega) hk
      have hf : frB (S k) D = true := by unfold frB; rw [s0, s1]; simp
      rw [if_pos hf, s2, s3, show k + 1 - f = (k - f) + 1 from by omega, List.replicate_succ']
    · have hf : frB (S k) D = false := by unfold frB; rw [h2 k (by omega) (by omega)]; rfl
      rw [hf, show k + 1 - f = 0 from by omega, show k - f = 0 from by omega]
      simp
/-- What the truth is sampled as, ahead of the turn. -/
def loT (T D : Int) : Int := (2 * T - 0 - D) / 2 - ((D - 0) / 2 + 1)
def hiT (T D : Int) : Int := (2 * T - 0 - D) / 2 + ((D - 0) / 2 + 1)
theorem mid_T (T D : Int) (t0 : 0 ≤ T) (t1 : T ≤ 1153000000000000000) (d0 : 0 ≤ D) (d1 : D ≤ 1073741824) : addS (loT T D) (hiT T D) / 2 = (2 * T - D) / 2 := by
  unfold loT hiT
  rw [addS_in (by omega) (by omega)]
  omega
theorem rt_same (c t l : Int) : rt c t l c = t := by unfold rt; rw [if_neg (by omega)]
theorem rc_le {c D : Int} (h : c ≤ D) : rc c D = D := by unfold rc; split <;> omega
theorem hear_A {rs : Srv → Srv} {K : Cs} {N m : Nat} {D T : Int} (h : InA K N m D (loT T D) (hiT T D)) (hm : m < N) (t0 : 0 ≤ T) (t1 : T ≤ 1153000000000000000) (d0 : 0 ≤ D) (d1 : D ≤ 1073741824) :
    ∃ K', hearK rs zt 3 21167 N K (N - 1 - m) D (tellP ((N - 1 - m : Nat) + 1) T) = (0, K') ∧ (if 2 * (m + 1) ≤ N then InA K' N (m + 1) D (loT T D) (hiT T D) else K' = { (smpK (readK (clrK K (N - 1 - m)) D) (N - 1 - m) D (loT T D) (hiT T D)) with t := tt D ((2 * T - D) / 2), l := tl ((2 * T - D) / 2), syn := 1, S := fun j => rs ((smpK (readK (clrK K (N - 1 - m)) D) (N - 1 - m) D (loT T D) (hiT T D)).S j) }) := by
  obtain ⟨o0, o1, o2⟩ := h.open_ (N - 1 - m) (by omega)
  have e := hear_far rs N K (N - 1 - m) D ((N - 1 - m : Nat) + 1) T D 0 o1 (by omega) o2 h.t t0 t1 (by omega) d0 (by omega)
  rw [if_pos (by omega)] at e
  change _ = (0, turnK rs (smpK (readK (clrK K (N - 1 - m)) D) (N - 1 - m) D (loT T D) (hiT T D)) N D) at e
  have hlh : loT T D ≤ hiT T D := by unfold loT hiT; omega
  have hS : ∀ j, (smpK (readK (clrK K (N - 1 - m)) D) (N - 1 - m) D (loT T D) (hiT T D)).S j = if j = N - 1 - m then { K.S j with q := 0, has := true, h := D, lo := loT T D, hi := hiT T D } else K.S j := by
    intro j
    by_cases hj : j = N - 1 - m
    · subst hj
      simp [smpK, readK, clrK, updS]
    · simp [smpK, readK, clrK, updS, hj]
  have hc : cand (smpK (readK (clrK K (N - 1 - m)) D) (N - 1 - m) D (loT T D) (hiT T D)).S D N = List.replicate (m + 1) (loT T D, hiT T D) := by
    have := cand_rep (smpK (readK (clrK K (N - 1 - m)) D) (N - 1 - m) D (loT T D) (hiT T D)).S D (loT T D) (hiT T D) (N - 1 - m) N (fun j hj hf => by
      rw [hS]
      by_cases q : j = N - 1 - m
      · rw [if_pos q]; exact ⟨rfl, rfl, rfl, rfl⟩
      · rw [if_neg q]; exact h.told j hj (by omega)) (fun j hj hf => by
      rw [hS, if_neg (by omega)]; exact (h.open_ j (by omega)).1)
    rwa [show N - (N - 1 - m) = m + 1 from by omega] at this
  refine ⟨_, e, ?_⟩
  have hq := mostP_eq (most_rep (loT T D) (hiT T D) hlh (m + 1) (by omega))
  unfold turnK
  rw [hc, hq]
  simp only
  by_cases h2 : 2 * (m + 1) ≤ N
  · rw [if_pos h2, if_pos h2]
    refine ⟨?_, ?_, h.syn, ?_, ?_⟩
    · show rc K.c D ≤ D
      rw [rc_le h.c]
      exact Int.le_refl _
    · show rt (rc K.c D) (rt K.c K.t K.l D) (rl K.c K.l D) D = D
      rw [rc_le h.c, h.t, rt_same]
    · intro j hj hf
      rw [hS]
      by_cases q : j = N - 1 - m
      · rw [if_pos q]; exact ⟨rfl, rfl, rfl, rfl⟩
      · rw [if_neg q]; exact h.told j hj (by omega)
    · intro j hj
      rw [hS, if_neg (by omega)]
      exact h.open_ j (by omega)
  · rw [if_neg h2, if_neg h2, mid_T T D t0 t1 d0 d1]
    have a1 : (smpK (readK (clrK K (N - 1 - m)) D) (N - 1 - m) D (loT T D) (hiT T D)).t = D := h.t
    have a2 : (smpK (readK (clrK K (N - 1 - m)) D) (N - 1 - m) D (loT T D) (hiT T D)).syn = 0 := h.syn
    rw [a1, a2]
    rfl
theorem hear_T {rs : Srv → Srv} (hrs : ∀ s, (rs s).q = s.q ∧ (rs s).a = s.a) {K : Cs} {N m : Nat} {D T : Int} (h : InA K N m D (loT T D) (hiT T D)) (hm : m < N) (t0 : 1073741824000 ≤ T) (t1 : T ≤ 1153000000000000000) (d0 : 0 ≤ D) (d1 : D ≤ 1073741824) (h2 : ¬ 2 * (m + 1) ≤ N) :
    ∃ K', hearK rs zt 3 21167 N K (N - 1 - m) D (tellP ((N - 1 - m : Nat) + 1) T) = (0, K') ∧ InB K' N (m + 1) D (D + (2 * T - D) / 2) := by
  obtain ⟨K', e, h'⟩ := hear_A (rs := rs) h hm (by omega) t1 d0 d1
  rw [if_neg h2] at h'
  refine ⟨K', e, ?_⟩
  subst h'
  refine ⟨rc_le h.c, ?_, rfl, ?_⟩
  · show tt D ((2 * T - D) / 2) = _
    unfold tt
    rw [if_pos (by omega), addS_in (by omega) (by omega)]
  · intro j hj
    have e : (smpK (readK (clrK K (N - 1 - m)) D) (N - 1 - m) D (loT T D) (hiT T D)).S j = K.S j := by
      simp [smpK, readK, clrK, updS, show j ≠ N - 1 - m from by omega]
    show (rs _).q = _ ∧ (rs _).a = _
    rw [e, (hrs _).1, (hrs _).2]
    exact (h.open_ j (by omega)).2
theorem hear_B {rs : Srv → Srv} {K : Cs} {N m : Nat} {D s T : Int} (h : InB K N m D s) (hm : m < N) (t0 : 0 ≤ T) (t1 : T ≤ 1153000000000000000) (s0 : 16000000000 < s) (s1 : s ≤ 1153000000000000000) :
    ∃ K', hearK rs zt 3 21167 N K (N - 1 - m) D (tellP ((N - 1 - m : Nat) + 1) T) = (11, K') ∧ InB K' N (m + 1) D s := by
  obtain ⟨o1, o2⟩ := h.open_ (N - 1 - m) (by omega)
  have hr : rt K.c K.t K.l D = s := by rw [← h.c, rt_same]; exact h.t
  have e := hear_far rs N K (N - 1 - m) D ((N - 1 - m : Nat) + 1) T s 0 o1 (by omega) o2 hr t0 t1 (by omega) (by omega) s1
  rw [if_neg (by omega)] at e
  refine ⟨_, e, ?_, hr, h.syn, ?_⟩
  · exact rc_le (show K.c ≤ D from by rw [h.c]; exact Int.le_refl _)
  · intro j hj
    have e : (readK (clrK K (N - 1 - m)) D).S j = K.S j := by simp [readK, clrK, updS, show j ≠ N - 1 - m from by omega]
    rw [e]
    exact h.open_ j (by omega)
/-- k servers were asked. -/
structure InQ (K : Cs) (k : Nat) : Prop where
  c : K.c = 0
  t : K.t = 0
  l : K.l = 0
  n : K.n = k
  syn : K.syn = 0
  has : ∀ j, (K.S j).has = false
  srv : ∀ j, j < k → (K.S j).q = j + 1 ∧ (K.S j).a = 0
theorem InQ.start : InQ (newK 0) 0 := ⟨rfl, rfl, rfl, rfl, rfl, fun _ => rfl, fun j h => absurd h (by omega)⟩
theorem InQ.ask {K : Cs} {k : Nat} (h : InQ K k) : InQ (askK K k 0) (k + 1) := by
  have e1 : rc 0 0 = 0 := by decide
  have e2 : rt 0 0 0 0 = 0 := by decide
  have e3 : rl 0 0 0 = 0 := by decide
  refine ⟨?_, ?_, ?_, ?_, h.syn, ?_, ?_⟩
  · show rc K.c 0 = 0
    rw [h.c, e1]
  · show rt K.c K.t K.l 0 = 0
    rw [h.c, h.t, h.l, e2]
  · show rl K.c K.l 0 = 0
    rw [h.c, h.l, e3]
  · show K.n + 1 = _
    rw [h.n]
    omega
  · intro j
    by_cases hj : j = k
    · subst hj; simp [askK, updS]; exact h.has j
    · simp [askK, updS, hj]; exact h.has j
  · intro j hj
    by_cases hk : j = k
    · subst hk
      simp only [askK, updS_same, h.n, h.c, h.t, h.l, e2]
      exact ⟨trivial, trivial⟩
    · simp only [askK, updS_other _ _ _ hk]
      exact h.srv j (by omega)
/-- Both ways: ahead of the turn and behind it. -/
def Ph (K : Cs) (N m : Nat) (D T : Int) : Prop := if 2 * m ≤ N then InA K N m D (loT T D) (hiT T D) else InB K N m D (D + (2 * T - D) / 2)
theorem InQ.toPh {K : Cs} {N : Nat} (h : InQ K N) (D T : Int) (d0 : 0 ≤ D) (d1 : D ≤ 1073741824) : Ph K N 0 D T := by
  unfold Ph
  rw [if_pos (by omega)]
  refine ⟨by rw [h.c]; exact d0, ?_, h.syn, fun j hj hf => absurd hf (by omega), fun j hj => ⟨h.has j, h.srv j (by omega)⟩⟩
  rw [h.c, h.t, h.l, rt_new 0 D d0 (by omega) (by omega)]
  omega
theorem Ph.done {K : Cs} {N : Nat} {D T : Int} (h : Ph K N N D T) (h0 : 0 < N) : K.c = D ∧ K.t = D + (2 * T - D) / 2 ∧ K.syn = 1 := by
  unfold Ph at h
  rw [if_neg (by omega)] at h
  exact ⟨h.c, h.t, h.syn⟩
theorem Ph.syn {K : Cs} {N m : Nat} {D T : Int} (h : Ph K N m D T) : K.syn ≤ 1 := by
  unfold Ph at h
  split at h
  · rw [h.syn]; omega
  · rw [h.syn]; omega
theorem Ph.step {rs : Srv → Srv} (hrs : ∀ s, (rs s).q = s.q ∧ (rs s).a = s.a) {K : Cs} {N k : Nat} {D T T' : Int} (h : Ph K N (N - (k + 1)) D T) (hk : k < N) (d0 : 0 ≤ D) (d1 : D ≤ 1073741824) (t0 : 1073741824000 ≤ T) (t1 : T ≤ 1152921506000000000) (t0' : 0 ≤ T') (t1' : T' ≤ 1153000000000000000) (ht : T' = T ∨ N < 2 * (N - (k + 1))) :
    Ph (hearK rs zt 3 21167 N K k D (tellP ((k : Int) + 1) T')).2 N (N - k) D T := by
  have e1 : N - 1 - (N - (k + 1)) = k := by omega
  have e2 : N - (k + 1) + 1 = N - k := by omega
  unfold Ph at h ⊢
  by_cases h1 : 2 * (N - (k + 1)) ≤ N
  · obtain rfl : T' = T := by omega
    rw [if_pos h1] at h
    by_cases h2 : 2 * (N - k) ≤ N
    · obtain ⟨K', e, h'⟩ := hear_A (rs := rs) h (by omega) t0' t1' d0 d1
      rw [e1] at e
      rw [e2, if_pos h2] at h'
      rw [e, if_pos h2]
      exact h'
    · obtain ⟨K', e, h'⟩ := hear_T hrs h (by omega) t0 t1' d0 d1 (by omega)
      rw [e1] at e
      rw [e2] at h'
      rw [e, if_neg h2]
      exact h'
  · rw [if_neg h1] at h
    obtain ⟨K', e, h'⟩ := hear_B (rs := rs) h (by omega) t0' t1' (by omega) (by omega)
    rw [e1] at e
    rw [e2] at h'
    rw [e, if_neg (by omega)]
    exact h'
end Go.Proofs.YtepdnkpmkhjlgaaGreat

/- Stage 9: NtpTrue: when more than half tell the truth, the clock is behind by no more than what the way took, whatever the others say: for every input (written by gen/s9true.py). -/
namespace Go.Proofs.YtepdnkpmkhjlgaaGreat
open Go.ChangeShapes Go.WideShapes Go.ChangeAt Go.RowKit Go.Joins Go.Sort

theorem r_hear_b {w : World} {b bc bs : Nat} {A : Option Addr} {n cc : Nat} {x : Int} {z : Nat → Int} {N : Nat} {K : Cs} (h : Nc layR w b bc bs A n cc x z N K) (hK : K.Ok N) (hN : N ≤ 8) (i : Nat) (hi : i < N) (count : Int) (hc : count ≤ 9223372036854775807) {g cap : Nat} {p : Pk} (hb : PkAt w g cap p) (hp : p.ok) :
    Calls Tryz.prog 20 #[.pointer (some ⟨b, 0, none⟩), .int .i64 i, .int .i64 count, .slice (some ⟨g, 0, none⟩) 48 cap] w fun e w' => e = .returned (.int .i64 (hearK rstR z n x N K i count p).1) ∧ Nc layR w' b bc bs A n cc x z N (hearK rstR z n x N K i count p).2 ∧ But (Ft b bc bs) w w' :=
  r_hear_p h hK hN i hi count hc _ p hp (decR_of hb hp)
set_option maxRecDepth 100000 in
set_option maxHeartbeats 2000000 in
theorem true_out (A : Option Addr) (L c : Nat) (n ahead delay : Int) (w : World) (hL : L ≤ maxLen) (n0 : -9223372036854775808 ≤ n) (n1 : n ≤ 9223372036854775807) (h : ¬ (1 ≤ n ∧ n ≤ 5 ∧ (L : Int) < n ∧ n + L ≤ 8 ∧ 1099511627776 ≤ ahead ∧ ahead ≤ 1152921504606846976 ∧ 0 ≤ delay ∧ delay ≤ 1073741824)) :
    Calls Tryz.prog 5 #[.int .i64 n, .slice A L c, .int .i64 ahead, .int .i64 delay] w fun e w' => e = .returned (.bool true) ∧ Below w.heap.size w w' := by
  have HK := Lib.hid (known9 w)
  by_cases hn : 1 ≤ n ∧ n ≤ 5
  · by_cases h3 : (L : Int) < n
    · have ws : IntKind.i64.wrap (n + (L : Int)) = n + (L : Int) := IntWalk.i64_in _ (by omega)
      have hcs : (decide (n < 1) = false ∧ decide (n > 5) = false ∧ decide ((L : Int) ≥ n) = false ∧ decide (n + (L : Int) > 8) = true) ∨ (decide (n < 1) = false ∧ decide (n > 5) = false ∧ decide ((L : Int) ≥ n) = false ∧ decide (n + (L : Int) > 8) = false ∧ decide (ahead < 1099511627776) = true) ∨ (decide (n < 1) = false ∧ decide (n > 5) = false ∧ decide ((L : Int) ≥ n) = false ∧ decide (n + (L : Int) > 8) = false ∧ decide (ahead < 1099511627776) = false ∧ decide (ahead > 1152921504606846976) = true) ∨ (decide (n < 1) = false ∧ decide (n > 5) = false ∧ decide ((L : Int) ≥ n) = false ∧ decide (n + (L : Int) > 8) = false ∧ decide (ahead < 1099511627776) = false ∧ decide (ahead > 1152921504606846976) = false ∧ decide (delay < 0) = true) ∨ (decide (n < 1) = false ∧ decide (n > 5) = false ∧ decide ((L : Int) ≥ n) = false ∧ decide (n + (L : Int) > 8) = false ∧ decide (ahead < 1099511627776) = false ∧ decide (ahead > 1152921504606846976) = false ∧ decide (delay < 0) = false ∧ decide (delay > 1073741824) = true) := by
        simp only [decide_eq_true_eq, decide_eq_false_iff_not]
        obtain ⟨g1, g2⟩ := hn
        by_cases h4 : n + (L : Int) ≤ 8
        · by_cases h5 : 1099511627776 ≤ ahead
          · by_cases h6 : ahead ≤ 1152921504606846976
            · by_cases h7 : 0 ≤ delay
              · have h8 : 1073741824 < delay := by omega
                clear h
                exact .inr (.inr (.inr (.inr (⟨by omega, by omega, by omega, by omega, by omega, by omega, by omega, by omega⟩))))
              · clear h
                exact .inr (.inr (.inr (.inl ⟨by omega, by omega, by omega, by omega, by omega, by omega, by omega⟩)))
            · clear h
              exact .inr (.inr (.inl ⟨by omega, by omega, by omega, by omega, by omega, by omega⟩))
          · clear h
            exact .inr (.inl ⟨by omega, by omega, by omega, by omega, by omega⟩)
        · clear h
          exact .inl ⟨by omega, by omega, by omega, by omega⟩
      clear h hn n0 n1 hL h3
      rcases hcs with ⟨t1, t2, t3, t4⟩ | ⟨t1, t2, t3, t4, t5⟩ | ⟨t1, t2, t3, t4, t5, t6⟩ | ⟨t1, t2, t3, t4, t5, t6, t7⟩ | ⟨t1, t2, t3, t4, t5, t6, t7, t8⟩
      all_goals
        go_enter Tryz.func5, Tryz.ntmps5
        go_wp2_with (go_at_call 12; refine HK.out.mono ?_; rintro e w9 ⟨rfl, k9⟩)
        go_ret
        exact ⟨rfl, k9⟩
    · have t1 : decide (n < 1) = false := by simp; omega
      have t2 : decide (n > 5) = false := by simp; omega
      have t3 : decide ((L : Int) ≥ n) = true := by simp; omega
      clear h hn n0 n1 hL h3
      go_enter Tryz.func5, Tryz.ntmps5
      go_wp2_with (go_at_call 12; refine HK.out.mono ?_; rintro e w9 ⟨rfl, k9⟩)
      go_ret
      exact ⟨rfl, k9⟩
  · have hcs : decide (n < 1) = true ∨ (decide (n < 1) = false ∧ decide (n > 5) = true) := by
      simp only [decide_eq_true_eq, decide_eq_false_iff_not]
      omega
    clear h hn n0 n1 hL
    rcases hcs with t1 | ⟨t1, t2⟩
    all_goals
      go_enter Tryz.func5, Tryz.ntmps5
      go_wp2_with (go_at_call 12; refine HK.out.mono ?_; rintro e w9 ⟨rfl, k9⟩)
      go_ret
      exact ⟨rfl, k9⟩
set_option maxRecDepth 100000 in
set_option maxHeartbeats 16000000 in
theorem true_in (A : Option Addr) (L c : Nat) (zl : Nat → Int) (n0 : Nat) (n ahead delay : Int) (w : World) (hz : IntsAt w A L zl) (hn0 : (n0 : Int) = n) (h1 : 1 ≤ n) (h2 : n ≤ 5) (h3 : (L : Int) < n) (h4 : n + (L : Int) ≤ 8) (a0 : 1099511627776 ≤ ahead) (a1 : ahead ≤ 1152921504606846976) (d0 : 0 ≤ delay) (d1 : delay ≤ 1073741824) :
    Calls Tryz.prog 5 #[.int .i64 n, .slice A L c, .int .i64 ahead, .int .i64 delay] w fun e w' => e = .returned (.bool true) ∧ Below w.heap.size w w' := by
  have HTB := Lib.hid (table4 w)
  have HKN := Lib.hid (fun W : World => known9 W)
  have t1 : decide (n < 1) = false := by simp; omega
  have t2 : decide (n > 5) = false := by simp; omega
  have t3 : decide ((L : Int) ≥ n) = false := by simp; omega
  have t4 : decide (n + (L : Int) > 8) = false := by simp; omega
  have t5 : decide (ahead < 1099511627776) = false := by simp; omega
  have t6 : decide (ahead > 1152921504606846976) = false := by simp; omega
  have t7 : decide (delay < 0) = false := by simp; omega
  have t8 : decide (delay > 1073741824) = false := by simp; omega
  have ws : IntKind.i64.wrap (n + (L : Int)) = n + (L : Int) := IntWalk.i64_in _ (by omega)
  have HBD := Lib.hid (And.intro a0 (And.intro a1 (And.intro d0 d1)))
  have HZL := Lib.hid (fun (W : World) (k : Below w.heap.size w W) => (show IntsAt W A L zl from fun hl => by
    obtain ⟨B, O, hA, hB, hc⟩ := hz hl
    exact ⟨B, O, hA, Nat.lt_of_lt_of_le hB k.size, fun j hj => ⟨(k.cell (p := ⟨B, O + j, none⟩) hB).trans (hc j hj).1, (hc j hj).2⟩⟩))
  obtain ⟨N, hN⟩ : ∃ N, n0 + L = N := ⟨_, rfl⟩
  have hNi : n + (L : Int) = (N : Int) := by omega
  have hN8 : N ≤ 8 := by omega
  have hN1 : 1 ≤ N := by omega
  have hLN : 2 * L < N := by omega
  have nlt : ¬ (N : Int) < 0 := by omega
  rw [hNi] at ws t4
  clear a0 a1 d0 d1 hz
  go_enter Tryz.func5, Tryz.ntmps5
  go_wp2_with fail
  refine HTB.out.mono ?_; rintro e w1 ⟨B0, rfl, hb1, hf1⟩
  have HST := Lib.hid (law_start ⟨B0, 0, none⟩ 3 3 21167 zt N 0 w1 hf1 zt_tab (by omega) (by omega) (by omega) (by omega))
  have HB1 := Lib.hid hb1
  clear hb1 hf1 HTB t1 t2 t3 t4 t5 t6 t7 t8
  go_wp2_with fail
  refine HST.out.mono ?_; rintro e w2 ⟨⟨bp, b, bc, bs, A1, c1, rb, rbc, rbs, A2, c2, m1, m2, rfl, hpr, hm1, hm2⟩, hb2⟩
  have HB2 := Lib.hid (HB1.out.trans (hb2.mono HB1.out.size))
  have p2 := hpr.q2
  have hm0 : w.heap.size ≤ w1.heap.size := HB1.out.size
  have hr1 := hpr.r1
  have hr2 := hpr.r2
  have hr3 := hpr.r3
  obtain ⟨m0, hm0e⟩ : ∃ m0, w1.heap.size = m0 := ⟨_, rfl⟩
  rw [hm0e] at hpr hm0 hm1 hr1
  have HP2 : Hid (Pr w2 bp b bc bs A1 c1 rb rbc rbs A2 c2 ⟨B0, 0, none⟩ 3 3 21167 zt N m0 m1 m2 (newK 0) (newK 0) 0 (fun _ => 0) (fun _ => 0)) := Lib.hid hpr
  clear hb2 hpr HST HB1 hm0e
  go_wp2_with fail
  clear p2
  go_loopw [12] (fun i wr => ∃ (k : Nat) (K R : Cs) (ask0 when0 : Nat → Int), k ≤ N ∧ i = .int .i64 k ∧ InQ K k ∧ InQ R k ∧ K.Ok N ∧ R.Ok N ∧ (∀ j, j < k → ask0 j = j + 1) ∧ Pr wr bp b bc bs A1 c1 rb rbc rbs A2 c2 ⟨B0, 0, none⟩ 3 3 21167 zt N m0 m1 m2 K R 0 ask0 when0 ∧ Below w.heap.size w wr) (fun i _ => N - (intOf i).toNat)
  case atStart => exact ⟨0, _, _, _, _, by omega, rfl, InQ.start, InQ.start, newK_ok 0 N (by omega) (by omega), newK_ok 0 N (by omega) (by omega), fun j h => absurd h (by omega), HP2.out, HB2.out⟩
  case round =>
    obtain ⟨k, K, R, ask0, when0, hk, rfl, hqk, hqr, hok, hor, hask, hp, HB⟩ := hrel
    clear HP2 HB2
    have HB2 := Lib.hid HB
    have lbp := hp.ql
    clear HB
    by_cases hlt : k < N
    · as_aux_lemma =>
      have lk : (k : Int) < (N : Int) := by omega
      have wk : IntKind.i64.wrap ((k : Int) + 1) = (k : Int) + 1 := IntWalk.i64_in _ (by omega)
      have HDO := Lib.hid (law_does1 hp hok hor (by rw [hqk.n, hqr.n]) (by rw [hqk.n]; omega) (by omega) k hlt (by omega) (by omega))
      have HQ := Lib.hid (And.intro (InQ.ask hqk) (And.intro (InQ.ask hqr) (And.intro (hok.ask (by rw [hqk.n]; omega) k hlt 0 (by omega)) (hor.ask (by rw [hqr.n]; omega) k hlt 0 (by omega)))))
      have HAS : Hid (∀ j, j < k + 1 → updI ask0 k (K.n + 1) j = j + 1) := Lib.hid (fun j hj => by
        unfold updI
        by_cases q : j = k
        · rw [if_pos q, hqk.n, q]
        · rw [if_neg q, hask j (by omega)])
      clear hqk hqr hok hor hask hp
      go_wp2_with fail
      refine HDO.out.mono ?_; rintro e w3 ⟨rfl, hp3, hf3⟩
      have HP3 := Lib.hid hp3
      have HB3 := Lib.hid (HB2.out.trans (hf3.below (fun q hq => by omega) HB2.out.size))
      clear hp3 hf3 HDO HB2
      go_wp2_with fail
      go_roundw
      case rel => exact ⟨k + 1, _, _, _, _, by omega, by go_num, HQ.out.1, HQ.out.2.1, HQ.out.2.2.1, HQ.out.2.2.2, HAS.out, HP3.out, HB3.out⟩
      all_goals (simp [intOf]; omega)
    · obtain rfl : N = k := by omega
      have lk : ¬ (N : Int) < (N : Int) := by omega
      have HP2 := Lib.hid (hp.cnt delay)
      have HB3 := Lib.hid (HB2.out.setCell (p := ⟨bp, 4, none⟩) (by show w.heap.size ≤ bp; omega) (.int .i64 delay))
      have p4 := hp.q4
      have pf := hp.qf 4
      have HQK := Lib.hid (hqk.toPh delay (ahead + delay / 2) HBD.out.2.2.1 HBD.out.2.2.2)
      have HQR := Lib.hid (hqr.toPh delay (ahead + delay / 2) HBD.out.2.2.1 HBD.out.2.2.2)
      have HOK := Lib.hid hok
      have HOR := Lib.hid hor
      have HAK := Lib.hid hask
      have wn : IntKind.i64.wrap ((N : Int) - 1) = (N : Int) - 1 := IntWalk.i64_in _ (by omega)
      clear hqk hqr hok hor hask hp HB2 hk hlt
      go_wp2_with fail
      clear p4 pf lk lbp
      generalize wr.setCell ⟨bp, 4, none⟩ (.int .i64 delay) = w3 at *
      go_loopw [13] (fun i wr => ∃ (k : Nat) (K R : Cs), k ≤ N ∧ i = .int .i64 ((k : Int) - 1) ∧ Ph K N (N - k) delay (ahead + delay / 2) ∧ Ph R N (N - k) delay (ahead + delay / 2) ∧ K.Ok N ∧ R.Ok N ∧ Pr wr bp b bc bs A1 c1 rb rbc rbs A2 c2 ⟨B0, 0, none⟩ 3 3 21167 zt N m0 m1 m2 K R delay ask0 when0 ∧ Below w.heap.size w wr) (fun i _ => (intOf i + 1).toNat)
      case atStart => exact ⟨N, _, _, Nat.le_refl _, rfl, by rw [Nat.sub_self]; exact HQK.out, by rw [Nat.sub_self]; exact HQR.out, HOK.out, HOR.out, HP2.out, HB3.out⟩
      case round =>
        clear HQK HQR HOK HOR HP2 HB3
        obtain ⟨k, K, R, hk, hi, hph, hpr, hok, hor, hp, HB⟩ := hrel
        have HP5 := Lib.hid hp
        have HB5 := Lib.hid HB
        have lbp := hp.ql
        clear hp HB
        by_cases hz0 : k = 0
        · as_aux_lemma =>
          subst hz0
          rw [show ((0 : Nat) : Int) - 1 = -1 from rfl] at hi
          subst hi
          rw [Nat.sub_zero] at hph hpr
          obtain ⟨ec, et, ky⟩ := hph.done hN1
          obtain ⟨_, _, ry⟩ := hpr.done hN1
          have HE := Lib.hid (And.intro ec et)
          have HY := Lib.hid (And.intro ky ry)
          obtain ⟨sh, hsh⟩ : ∃ sh, delay + (2 * (ahead + delay / 2) - delay) / 2 = sh := ⟨_, rfl⟩
          rw [hsh] at HE
          obtain ⟨bv, hbv⟩ : ∃ bv, sh - (ahead + delay) = bv := ⟨_, rfl⟩
          have a0 := HBD.out.1
          have a1 := HBD.out.2.1
          have d0 := HBD.out.2.2.1
          have d1 := HBD.out.2.2.2
          have b0 : -1 ≤ bv := by omega
          have b1 : bv ≤ 0 := by omega
          have wad : IntKind.i64.wrap (ahead + delay) = ahead + delay := IntWalk.i64_in _ (by omega)
          have wbv : IntKind.i64.wrap (sh - (ahead + delay)) = bv := by rw [hbv]; exact IntWalk.i64_in _ (by omega)
          have wd4 : IntKind.i64.wrap (delay + 4) = delay + 4 := IntWalk.i64_in _ (by omega)
          have wdm : IntKind.i64.wrap (-delay) = -delay := IntWalk.i64_in _ (by omega)
          have wdn : IntKind.i64.wrap (-delay - 4) = -delay - 4 := IntWalk.i64_in _ (by omega)
          have u1 : bv ≤ delay + 4 := by omega
          have u2 : -delay - 4 ≤ bv := by omega
          clear hph hpr hok hor ec et ky ry hsh hbv b0 b1 a0 a1 d0 d1 hk
          have p3 := HP5.out.q3
          have y5 := HP5.out.R.c5
          rw [HY.out.2] at y5
          go_wp2_with fail
          clear p3 y5
          have p2 := HP5.out.q2
          have p4 := HP5.out.q4
          have x0 := HP5.out.P.c0
          refine wp_region_held_drew (S := fun w' => w'.cell? ⟨bp, 2, none⟩ = some (.pointer (some ⟨b, 0, none⟩)) ∧ w'.cell? ⟨bp, 4, none⟩ = some (.int .i64 delay) ∧ w'.cell? ⟨b, 0, none⟩ = some (.pointer (some ⟨bc, 0, none⟩))) (by kernel_rfl) ?_ (fun hHeld => ?_)
          · exact ⟨p2, p4, x0⟩
          have kd : Below wr.heap.size wr wr.drew := (Below.refl _ _).drew
          have HP6 := Lib.hid (HP5.out.below kd)
          have HB6 := Lib.hid (HB5.out.trans (kd.mono HB5.out.size))
          clear kd HP5 HB5 p2 p4 x0
          generalize wr.drew = w6 at *
          have HRD := Lib.hid (slew_read_old bc delay sh K.l delay w6 (by have := HP6.out.P.clk; rwa [HE.out.1, HE.out.2] at this) (Int.le_refl _))
          refine wpAnyH_take (i := 0) (v := ?_) rfl (by kernel_rfl) (by kernel_rfl) (by kernel_rfl) (fun _ _ _ h => h) (Or.inl ⟨by rfl, ?_⟩) (by assumption) ?_
          rotate_left
          · intro w' hSw; (try dsimp only at hSw); go_simp; (try with_reducible rfl)
          (try simp only [Act.put, List.setIfInBounds_toArray, List.set_cons_zero, List.set_cons_succ, List.getElem_toArray, List.getElem_cons_succ, List.getElem_cons_zero])
          refine wpAnyH_take (i := 1) (v := ?_) rfl (by kernel_rfl) (by kernel_rfl) (by kernel_rfl) (fun _ _ _ h => h) (Or.inl ⟨by rfl, ?_⟩) (by assumption) ?_
          rotate_left
          · intro w' hSw; (try dsimp only at hSw); go_simp; (try with_reducible rfl)
          (try simp only [Act.put, List.setIfInBounds_toArray, List.set_cons_zero, List.set_cons_succ, List.getElem_toArray, List.getElem_cons_succ, List.getElem_cons_zero])
          refine wpAnyH_take (i := 2) (v := ?_) rfl (by kernel_rfl) (by kernel_rfl) (by kernel_rfl) (fun _ _ _ h => h) (Or.inl ⟨by rfl, ?_⟩) (by assumption) ?_
          rotate_left
          · intro w' hSw; (try dsimp only at hSw); go_simp; (try with_reducible rfl)
          (try simp only [Act.put, List.setIfInBounds_toArray, List.set_cons_zero, List.set_cons_succ, List.getElem_toArray, List.getElem_cons_succ, List.getElem_cons_zero])
          refine wpAnyH_take (i := 3) (v := ?_) rfl (by kernel_rfl) (by kernel_rfl) (by kernel_rfl) (fun _ _ _ h => h) (Or.inl ⟨by rfl, ?_⟩) (by assumption) ?_
          rotate_left
          · intro w' hSw; (try dsimp only at hSw); go_simp; (try with_reducible rfl)
          (try simp only [Act.put, List.setIfInBounds_toArray, List.set_cons_zero, List.set_cons_succ, List.getElem_toArray, List.getElem_cons_succ, List.getElem_cons_zero])
          refine wpAnyH_take (i := 4) (v := ?_) rfl (by kernel_rfl) (by kernel_rfl) (by kernel_rfl) (fun _ _ _ h => h) (Or.inl ⟨by rfl, ?_⟩) (by assumption) ?_
          rotate_left
          · intro w' hSw; (try dsimp only at hSw); go_simp; (try with_reducible rfl)
          (try simp only [Act.put, List.setIfInBounds_toArray, List.set_cons_zero, List.set_cons_succ, List.getElem_toArray, List.getElem_cons_succ, List.getElem_cons_zero])
          refine wpAnyH_take (i := 5) (v := ?_) rfl (by kernel_rfl) (by kernel_rfl) (by kernel_rfl) (fun _ _ _ h => h) (Or.inl ⟨by rfl, ?_⟩) (by assumption) ?_
          rotate_left
          · intro w' hSw; (try dsimp only at hSw); go_simp; (try with_reducible rfl)
          (try simp only [Act.put, List.setIfInBounds_toArray, List.set_cons_zero, List.set_cons_succ, List.getElem_toArray, List.getElem_cons_succ, List.getElem_cons_zero])
          refine wpAnyH_take (i := 6) (v := ?_) rfl (by kernel_rfl) (by kernel_rfl) (by kernel_rfl) (fun _ _ _ h => h) (Or.inl ⟨by rfl, ?_⟩) (by assumption) ?_
          rotate_left
          · intro w' hSw; (try dsimp only at hSw); go_simp; (try with_reducible rfl)
          (try simp only [Act.put, List.setIfInBounds_toArray, List.set_cons_zero, List.set_cons_succ, List.getElem_toArray, List.getElem_cons_succ, List.getElem_cons_zero])
          refine wpAnyH_take (i := 7) (v := ?_) rfl (by kernel_rfl) (by kernel_rfl) (by kernel_rfl) (fun _ _ _ h => h) (Or.inl ⟨by rfl, ?_⟩) (by assumption) ?_
          rotate_left
          · intro w' hSw; (try dsimp only at hSw); go_simp; (try with_reducible rfl)
          (try simp only [Act.put, List.setIfInBounds_toArray, List.set_cons_zero, List.set_cons_succ, List.getElem_toArray, List.getElem_cons_succ, List.getElem_cons_zero])
          refine wpAnyH_take (i := 8) (v := ?_) rfl (by kernel_rfl) (by kernel_rfl) (by kernel_rfl) (fun _ _ _ h => h) (Or.inl ⟨by rfl, ?_⟩) (by assumption) ?_
          rotate_left
          · intro w' hSw; (try dsimp only at hSw); go_simp; (try with_reducible rfl)
          (try simp only [Act.put, List.setIfInBounds_toArray, List.set_cons_zero, List.set_cons_succ, List.getElem_toArray, List.getElem_cons_succ, List.getElem_cons_zero])
          refine wpAnyH_take (i := 9) (v := ?_) rfl (by kernel_rfl) (by kernel_rfl) (by kernel_rfl) (fun _ _ _ h => h) (Or.inl ⟨by rfl, ?_⟩) (by assumption) ?_
          rotate_left
          · intro w' hSw; (try dsimp only at hSw); go_simp; (try with_reducible rfl)
          (try simp only [Act.put, List.setIfInBounds_toArray, List.set_cons_zero, List.set_cons_succ, List.getElem_toArray, List.getElem_cons_succ, List.getElem_cons_zero])
          refine wpAnyH_take (i := 10) (v := ?_) rfl (by kernel_rfl) (by kernel_rfl) (by kernel_rfl) (fun _ _ _ h => h) (Or.inl ⟨by rfl, ?_⟩) (by assumption) ?_
          rotate_left
          · intro w' hSw; (try dsimp only at hSw); go_simp; (try with_reducible rfl)
          (try simp only [Act.put, List.setIfInBounds_toArray, List.set_cons_zero, List.set_cons_succ, List.getElem_toArray, List.getElem_cons_succ, List.getElem_cons_zero])
          refine wpAnyH_ready (rs := [11]) (by kernel_rfl) (by simp) ?_
          refine AllReadyH.cons rfl (fun K hK => ?_) (AllReadyH.nil)
          go_simp
          (go_at_call 21; refine HRD.out.mono ?_; rintro e w' ⟨rfl, rfl⟩)
          (try dsimp only)
          refine hK.out _ _ ?_ (fun hHeld => ?_)
          · exact ⟨HP6.out.q2, HP6.out.q4, HP6.out.P.c0⟩
          clear hK K
          (try simp only [Act.put, List.setIfInBounds_toArray, List.set_cons_zero, List.set_cons_succ, List.getElem_toArray, List.getElem_cons_succ, List.getElem_cons_zero])
          refine wpAnyH_take (i := 12) (v := ?_) rfl (by kernel_rfl) (by kernel_rfl) (by kernel_rfl) (fun _ _ _ h => h) (Or.inl ⟨by rfl, ?_⟩) (by assumption) ?_
          rotate_left
          · intro w' hSw; (try dsimp only at hSw); go_simp; (try with_reducible rfl)
          (try simp only [Act.put, List.setIfInBounds_toArray, List.set_cons_zero, List.set_cons_succ, List.getElem_toArray, List.getElem_cons_succ, List.getElem_cons_zero])
          refine wpAnyH_done (by kernel_rfl) ?_ _
          clear hHeld HRD
          go_wp2_with fail
          have p2 := HP6.out.q2
          have p3 := HP6.out.q3
          have y5 := HP6.out.R.c5
          rw [HY.out.2] at y5
          refine wp_region_held_drew (S := fun w' => w'.cell? ⟨bp, 2, none⟩ = some (.pointer (some ⟨b, 0, none⟩)) ∧ w'.cell? ⟨bp, 3, none⟩ = some (.pointer (some ⟨rb, 0, none⟩)) ∧ w'.cell? ⟨rb, 5, none⟩ = some (.int .i64 1)) (by kernel_rfl) ?_ (fun hHeld => ?_)
          · exact ⟨p2, p3, y5⟩
          have kd : Below w6.heap.size w6 w6.drew := (Below.refl _ _).drew
          have HP7 := Lib.hid (HP6.out.below kd)
          have HB7 := Lib.hid (HB6.out.trans (kd.mono HB6.out.size))
          clear kd HP6 HB6 p2 p3 y5
          generalize w6.drew = w7 at *
          have HSY := Lib.hid (ntp_synced HP7.out.P)
          rw [HY.out.1] at HSY
          refine wpAnyH_take (i := 0) (v := ?_) rfl (by kernel_rfl) (by kernel_rfl) (by kernel_rfl) (fun _ _ _ h => h) (Or.inl ⟨by rfl, ?_⟩) (by assumption) ?_
          rotate_left
          · intro w' hSw; (try dsimp only at hSw); go_simp; (try with_reducible rfl)
          (try simp only [Act.put, List.setIfInBounds_toArray, List.set_cons_zero, List.set_cons_succ, List.getElem_toArray, List.getElem_cons_succ, List.getElem_cons_zero])
          refine wpAnyH_take (i := 1) (v := ?_) rfl (by kernel_rfl) (by kernel_rfl) (by kernel_rfl) (fun _ _ _ h => h) (Or.inl ⟨by rfl, ?_⟩) (by assumption) ?_
          rotate_left
          · intro w' hSw; (try dsimp only at hSw); go_simp; (try with_reducible rfl)
          (try simp only [Act.put, List.setIfInBounds_toArray, List.set_cons_zero, List.set_cons_succ, List.getElem_toArray, List.getElem_cons_succ, List.getElem_cons_zero])
          refine wpAnyH_take (i := 2) (v := ?_) rfl (by kernel_rfl) (by kernel_rfl) (by kernel_rfl) (fun _ _ _ h => h) (Or.inl ⟨by rfl, ?_⟩) (by assumption) ?_
          rotate_left
          · intro w' hSw; (try dsimp only at hSw); go_simp; (try with_reducible rfl)
          (try simp only [Act.put, List.setIfInBounds_toArray, List.set_cons_zero, List.set_cons_succ, List.getElem_toArray, List.getElem_cons_succ, List.getElem_cons_zero])
          refine wpAnyH_take (i := 3) (v := ?_) rfl (by kernel_rfl) (by kernel_rfl) (by kernel_rfl) (fun _ _ _ h => h) (Or.inl ⟨by rfl, ?_⟩) (by assumption) ?_
          rotate_left
          · intro w' hSw; (try dsimp only at hSw); go_simp; (try with_reducible rfl)
          (try simp only [Act.put, List.setIfInBounds_toArray, List.set_cons_zero, List.set_cons_succ, List.getElem_toArray, List.getElem_cons_succ, List.getElem_cons_zero])
          refine wpAnyH_take (i := 5) (v := ?_) rfl (by kernel_rfl) (by kernel_rfl) (by kernel_rfl) (fun _ _ _ h => h) (Or.inl ⟨by rfl, ?_⟩) (by assumption) ?_
          rotate_left
          · intro w' hSw; (try dsimp only at hSw); go_simp; (try with_reducible rfl)
          (try simp only [Act.put, List.setIfInBounds_toArray, List.set_cons_zero, List.set_cons_succ, List.getElem_toArray, List.getElem_cons_succ, List.getElem_cons_zero])
          refine wpAnyH_take (i := 6) (v := ?_) rfl (by kernel_rfl) (by kernel_rfl) (by kernel_rfl) (fun _ _ _ h => h) (Or.inl ⟨by rfl, ?_⟩) (by assumption) ?_
          rotate_left
          · intro w' hSw; (try dsimp only at hSw); go_simp; (try with_reducible rfl)
          (try simp only [Act.put, List.setIfInBounds_toArray, List.set_cons_zero, List.set_cons_succ, List.getElem_toArray, List.getElem_cons_succ, List.getElem_cons_zero])
          refine wpAnyH_take (i := 7) (v := ?_) rfl (by kernel_rfl) (by kernel_rfl) (by kernel_rfl) (fun _ _ _ h => h) (Or.inl ⟨by rfl, ?_⟩) (by assumption) ?_
          rotate_left
          · intro w' hSw; (try dsimp only at hSw); go_simp; (try with_reducible rfl)
          (try simp only [Act.put, List.setIfInBounds_toArray, List.set_cons_zero, List.set_cons_succ, List.getElem_toArray, List.getElem_cons_succ, List.getElem_cons_zero])
          refine wpAnyH_take (i := 8) (v := ?_) rfl (by kernel_rfl) (by kernel_rfl) (by kernel_rfl) (fun _ _ _ h => h) (Or.inl ⟨by rfl, ?_⟩) (by assumption) ?_
          rotate_left
          · intro w' hSw; (try dsimp only at hSw); go_simp; (try with_reducible rfl)
          (try simp only [Act.put, List.setIfInBounds_toArray, List.set_cons_zero, List.set_cons_succ, List.getElem_toArray, List.getElem_cons_succ, List.getElem_cons_zero])
          refine wpAnyH_take (i := 9) (v := ?_) rfl (by kernel_rfl) (by kernel_rfl) (by kernel_rfl) (fun _ _ _ h => h) (Or.inl ⟨by rfl, ?_⟩) (by assumption) ?_
          rotate_left
          · intro w' hSw; (try dsimp only at hSw); go_simp; (try with_reducible rfl)
          (try simp only [Act.put, List.setIfInBounds_toArray, List.set_cons_zero, List.set_cons_succ, List.getElem_toArray, List.getElem_cons_succ, List.getElem_cons_zero])
          refine wpAnyH_take (i := 10) (v := ?_) rfl (by kernel_rfl) (by kernel_rfl) (by kernel_rfl) (fun _ _ _ h => h) (Or.inl ⟨by rfl, ?_⟩) (by assumption) ?_
          rotate_left
          · intro w' hSw; (try dsimp only at hSw); go_simp; (try with_reducible rfl)
          (try simp only [Act.put, List.setIfInBounds_toArray, List.set_cons_zero, List.set_cons_succ, List.getElem_toArray, List.getElem_cons_succ, List.getElem_cons_zero])
          refine wpAnyH_take (i := 11) (v := ?_) rfl (by kernel_rfl) (by kernel_rfl) (by kernel_rfl) (fun _ _ _ h => h) (Or.inl ⟨by rfl, ?_⟩) (by assumption) ?_
          rotate_left
          · intro w' hSw; (try dsimp only at hSw); go_simp; (try with_reducible rfl)
          (try simp only [Act.put, List.setIfInBounds_toArray, List.set_cons_zero, List.set_cons_succ, List.getElem_toArray, List.getElem_cons_succ, List.getElem_cons_zero])
          refine wpAnyH_ready (rs := [4]) (by kernel_rfl) (by simp) ?_
          refine AllReadyH.cons rfl (fun K hK => ?_) (AllReadyH.nil)
          go_simp
          (go_at_call 22; refine HSY.out.mono ?_; rintro e w' ⟨rfl, rfl⟩)
          (try dsimp only)
          refine hK.out _ _ ?_ (fun hHeld => ?_)
          · exact ⟨HP7.out.q2, HP7.out.q3, (by have := HP7.out.R.c5; rwa [HY.out.2] at this)⟩
          clear hK K
          (try simp only [Act.put, List.setIfInBounds_toArray, List.set_cons_zero, List.set_cons_succ, List.getElem_toArray, List.getElem_cons_succ, List.getElem_cons_zero])
          refine wpAnyH_take (i := 12) (v := ?_) rfl (by kernel_rfl) (by kernel_rfl) (by kernel_rfl) (fun _ _ _ h => h) (Or.inl ⟨by rfl, ?_⟩) (by assumption) ?_
          rotate_left
          · intro w' hSw; (try dsimp only at hSw); go_simp; (try with_reducible rfl)
          (try simp only [Act.put, List.setIfInBounds_toArray, List.set_cons_zero, List.set_cons_succ, List.getElem_toArray, List.getElem_cons_succ, List.getElem_cons_zero])
          refine wpAnyH_take (i := 13) (v := ?_) rfl (by kernel_rfl) (by kernel_rfl) (by kernel_rfl) (fun _ _ _ h => h) (Or.inl ⟨by rfl, ?_⟩) (by assumption) ?_
          rotate_left
          · intro w' hSw; (try dsimp only at hSw); go_simp; (try with_reducible rfl)
          (try simp only [Act.put, List.setIfInBounds_toArray, List.set_cons_zero, List.set_cons_succ, List.getElem_toArray, List.getElem_cons_succ, List.getElem_cons_zero])
          refine wpAnyH_take (i := 14) (v := ?_) rfl (by kernel_rfl) (by kernel_rfl) (by kernel_rfl) (fun _ _ _ h => h) (Or.inl ⟨by rfl, ?_⟩) (by assumption) ?_
          rotate_left
          · intro w' hSw; (try dsimp only at hSw); go_simp; (try with_reducible rfl)
          (try simp only [Act.put, List.setIfInBounds_toArray, List.set_cons_zero, List.set_cons_succ, List.getElem_toArray, List.getElem_cons_succ, List.getElem_cons_zero])
          refine wpAnyH_take (i := 15) (v := ?_) rfl (by kernel_rfl) (by kernel_rfl) (by kernel_rfl) (fun _ _ _ h => h) (Or.inl ⟨by rfl, ?_⟩) (by assumption) ?_
          rotate_left
          · intro w' hSw; (try dsimp only at hSw); go_simp; (try with_reducible rfl)
          (try simp only [Act.put, List.setIfInBounds_toArray, List.set_cons_zero, List.set_cons_succ, List.getElem_toArray, List.getElem_cons_succ, List.getElem_cons_zero])
          refine wpAnyH_take (i := 16) (v := ?_) rfl (by kernel_rfl) (by kernel_rfl) (by kernel_rfl) (fun _ _ _ h => h) (Or.inl ⟨by rfl, ?_⟩) (by assumption) ?_
          rotate_left
          · intro w' hSw; (try dsimp only at hSw); go_simp; (try with_reducible rfl)
          (try simp only [Act.put, List.setIfInBounds_toArray, List.set_cons_zero, List.set_cons_succ, List.getElem_toArray, List.getElem_cons_succ, List.getElem_cons_zero])
          refine wpAnyH_take (i := 17) (v := ?_) rfl (by kernel_rfl) (by kernel_rfl) (by kernel_rfl) (fun _ _ _ h => h) (Or.inl ⟨by rfl, ?_⟩) (by assumption) ?_
          rotate_left
          · intro w' hSw; (try dsimp only at hSw); go_simp; (try with_reducible rfl)
          (try simp only [Act.put, List.setIfInBounds_toArray, List.set_cons_zero, List.set_cons_succ, List.getElem_toArray, List.getElem_cons_succ, List.getElem_cons_zero])
          refine wpAnyH_take (i := 18) (v := ?_) rfl (by kernel_rfl) (by kernel_rfl) (by kernel_rfl) (fun _ _ _ h => h) (Or.inl ⟨by rfl, ?_⟩) (by assumption) ?_
          rotate_left
          · intro w' hSw; (try dsimp only at hSw); go_simp; (try with_reducible rfl)
          (try simp only [Act.put, List.setIfInBounds_toArray, List.set_cons_zero, List.set_cons_succ, List.getElem_toArray, List.getElem_cons_succ, List.getElem_cons_zero])
          refine wpAnyH_take (i := 19) (v := ?_) rfl (by kernel_rfl) (by kernel_rfl) (by kernel_rfl) (fun _ _ _ h => h) (Or.inl ⟨by rfl, ?_⟩) (by assumption) ?_
          rotate_left
          · intro w' hSw; (try dsimp only at hSw); go_simp; (try with_reducible rfl)
          (try simp only [Act.put, List.setIfInBounds_toArray, List.set_cons_zero, List.set_cons_succ, List.getElem_toArray, List.getElem_cons_succ, List.getElem_cons_zero])
          refine wpAnyH_take (i := 20) (v := ?_) rfl (by kernel_rfl) (by kernel_rfl) (by kernel_rfl) (fun _ _ _ h => h) (Or.inl ⟨by rfl, ?_⟩) (by assumption) ?_
          rotate_left
          · intro w' hSw; (try dsimp only at hSw); go_simp; (try with_reducible rfl)
          (try simp only [Act.put, List.setIfInBounds_toArray, List.set_cons_zero, List.set_cons_succ, List.getElem_toArray, List.getElem_cons_succ, List.getElem_cons_zero])
          refine wpAnyH_take (i := 21) (v := ?_) rfl (by kernel_rfl) (by kernel_rfl) (by kernel_rfl) (fun _ _ _ h => h) (Or.inl ⟨by rfl, ?_⟩) (by assumption) ?_
          rotate_left
          · intro w' hSw; (try dsimp only at hSw); go_simp; (try with_reducible rfl)
          (try simp only [Act.put, List.setIfInBounds_toArray, List.set_cons_zero, List.set_cons_succ, List.getElem_toArray, List.getElem_cons_succ, List.getElem_cons_zero])
          refine wpAnyH_take (i := 22) (v := ?_) rfl (by kernel_rfl) (by kernel_rfl) (by kernel_rfl) (fun _ _ _ h => h) (Or.inl ⟨by rfl, ?_⟩) (by assumption) ?_
          rotate_left
          · intro w' hSw; (try dsimp only at hSw); go_simp; (try with_reducible rfl)
          (try simp only [Act.put, List.setIfInBounds_toArray, List.set_cons_zero, List.set_cons_succ, List.getElem_toArray, List.getElem_cons_succ, List.getElem_cons_zero])
          refine wpAnyH_take (i := 23) (v := ?_) rfl (by kernel_rfl) (by kernel_rfl) (by kernel_rfl) (fun _ _ _ h => h) (Or.inl ⟨by rfl, ?_⟩) (by assumption) ?_
          rotate_left
          · intro w' hSw; (try dsimp only at hSw); go_simp; (try with_reducible rfl)
          (try simp only [Act.put, List.setIfInBounds_toArray, List.set_cons_zero, List.set_cons_succ, List.getElem_toArray, List.getElem_cons_succ, List.getElem_cons_zero])
          refine wpAnyH_take (i := 24) (v := ?_) rfl (by kernel_rfl) (by kernel_rfl) (by kernel_rfl) (fun _ _ _ h => h) (Or.inl ⟨by rfl, ?_⟩) (by assumption) ?_
          rotate_left
          · intro w' hSw; (try dsimp only at hSw); go_simp; (try with_reducible rfl)
          (try simp only [Act.put, List.setIfInBounds_toArray, List.set_cons_zero, List.set_cons_succ, List.getElem_toArray, List.getElem_cons_succ, List.getElem_cons_zero])
          refine wpAnyH_take (i := 25) (v := ?_) rfl (by kernel_rfl) (by kernel_rfl) (by kernel_rfl) (fun _ _ _ h => h) (Or.inl ⟨by rfl, ?_⟩) (by assumption) ?_
          rotate_left
          · intro w' hSw; (try dsimp only at hSw); go_simp; (try with_reducible rfl)
          (try simp only [Act.put, List.setIfInBounds_toArray, List.set_cons_zero, List.set_cons_succ, List.getElem_toArray, List.getElem_cons_succ, List.getElem_cons_zero])
          refine wpAnyH_take (i := 26) (v := ?_) rfl (by kernel_rfl) (by kernel_rfl) (by kernel_rfl) (fun _ _ _ h => h) (Or.inl ⟨by rfl, ?_⟩) (by assumption) ?_
          rotate_left
          · intro w' hSw; (try dsimp only at hSw); go_simp; (try with_reducible rfl)
          (try simp only [Act.put, List.setIfInBounds_toArray, List.set_cons_zero, List.set_cons_succ, List.getElem_toArray, List.getElem_cons_succ, List.getElem_cons_zero])
          refine wpAnyH_ready (rs := [27]) (by kernel_rfl) (by simp) ?_
          refine AllReadyH.cons rfl (fun K hK => ?_) (AllReadyH.nil)
          go_simp
          (go_at_call 12; refine (HKN.out _).mono ?_; rintro e wk ⟨rfl, k9⟩)
          have HP8 := Lib.hid (HP7.out.below k9)
          have HB8 := Lib.hid (HB7.out.trans (k9.mono HB7.out.size))
          clear k9 HP7 HB7
          (try dsimp only)
          refine hK.out _ _ ?_ (fun hHeld => ?_)
          · exact ⟨HP8.out.q2, HP8.out.q3, (by have := HP8.out.R.c5; rwa [HY.out.2] at this)⟩
          clear hK K
          (try simp only [Act.put, List.setIfInBounds_toArray, List.set_cons_zero, List.set_cons_succ, List.getElem_toArray, List.getElem_cons_succ, List.getElem_cons_zero])
          refine wpAnyH_take (i := 28) (v := ?_) rfl (by kernel_rfl) (by kernel_rfl) (by kernel_rfl) (fun _ _ _ h => h) (Or.inl ⟨by rfl, ?_⟩) (by assumption) ?_
          rotate_left
          · intro w' hSw; (try dsimp only at hSw); go_simp; (try with_reducible rfl)
          (try simp only [Act.put, List.setIfInBounds_toArray, List.set_cons_zero, List.set_cons_succ, List.getElem_toArray, List.getElem_cons_succ, List.getElem_cons_zero])
          refine wpAnyH_take (i := 29) (v := ?_) rfl (by kernel_rfl) (by kernel_rfl) (by kernel_rfl) (fun _ _ _ h => h) (Or.inl ⟨by rfl, ?_⟩) (by assumption) ?_
          rotate_left
          · intro w' hSw; (try dsimp only at hSw); go_simp; (try with_reducible rfl)
          (try simp only [Act.put, List.setIfInBounds_toArray, List.set_cons_zero, List.set_cons_succ, List.getElem_toArray, List.getElem_cons_succ, List.getElem_cons_zero])
          refine wpAnyH_done (by kernel_rfl) ?_ _
          go_wp2_with fail
          go_ret
          exact ⟨rfl, HB8.out⟩
        · obtain ⟨k1, rfl⟩ : ∃ k1, k = k1 + 1 := ⟨k - 1, by omega⟩
          rw [show ((k1 + 1 : Nat) : Int) - 1 = (k1 : Int) from by omega] at hi
          subst hi
          have hk' : k1 < N := by omega
          have HPH := Lib.hid hph
          have HPR := Lib.hid hpr
          have HOK := Lib.hid hok
          have HOR := Lib.hid hor
          clear hph hpr hok hor hk hz0
          rename_i _
          have a0 := HBD.out.1
          have a1 := HBD.out.2.1
          have d0 := HBD.out.2.2.1
          have d1 := HBD.out.2.2.2
          have lk0 : (0 : Int) ≤ (k1 : Int) := by omega
          have hq1 : delay.tdiv 2 = delay / 2 := Int.tdiv_eq_ediv_of_nonneg d0
          have wq1 : IntKind.i64.wrap (delay / 2) = delay / 2 := IntWalk.i64_in _ (by omega)
          have wat : IntKind.i64.wrap (ahead + delay / 2) = ahead + delay / 2 := IntWalk.i64_in _ (by omega)
          have wk1 : IntKind.i64.wrap ((k1 : Int) - 1) = (k1 : Int) - 1 := IntWalk.i64_in _ (by omega)
          have q0 := HP5.out.q0
          have q1 := HP5.out.q1
          by_cases hlt : k1 < L
          · as_aux_lemma =>
            have lkl : (k1 : Int) < (L : Int) := by omega
            obtain ⟨B, O, hA, hB, hc⟩ := HZL.out wr HB5.out (by omega)
            subst hA
            have zk := (hc k1 hlt).1
            clear hB hc
            have lb := low40_bd (zl k1)
            have hL : bits .and .i64 (zl k1) 1099511627775 = low40 (zl k1) := rfl
            obtain ⟨at', hat⟩ : ∃ at', ahead + low40 (zl k1) = at' := ⟨_, rfl⟩
            have hb0 : 0 ≤ at' := by omega
            have hb1 : at' ≤ 1153000000000000000 := by omega
            have wl : IntKind.i64.wrap (ahead + low40 (zl k1)) = at' := by rw [hat]; exact IntWalk.i64_in _ (by omega)
            have htr : at' = ahead + delay / 2 ∨ N < 2 * (N - (k1 + 1)) := .inr (by omega)
            have HSTM := Lib.hid (law_stamp (some ⟨B0, 0, none⟩) 3 3 21167 at' zt wr HP5.out.tab HP5.out.P.tb (by omega) (by omega))
            clear hat a0 a1 d0 d1
            go_wp2_with fail
            refine HSTM.out.mono ?_; rintro e w5 ⟨rfl, k5⟩
            clear zk lb hL wl
            have HP6 := Lib.hid (HP5.out.below k5)
            have HB6 := Lib.hid (HB5.out.trans (k5.mono HB5.out.size))
            have xa := HP6.out.qa k1 (by omega)
            rw [HAK.out k1 (by omega)] at xa
            have sb := stp_bd zt_tab at'
            have HE := Lib.hid (fun W : World => ref6_enc (tellP ((k1 : Int) + 1) at') (tell_ok _ _ (by omega)) W)
            have lk8 : (k1 : Int) < 8 := by omega
            have q10 := HP6.out.q0
            clear k5 HP5 HB5 HSTM q0 q1 q10
            go_wp2_with fail
            refine (HE.out _).mono ?_; rintro e w7 ⟨g, cap, rfl, hg, hpk, k7⟩
            have HP7 := Lib.hid (HP6.out.below k7)
            have HB7 := Lib.hid (HB6.out.trans (k7.mono HB6.out.size))
            have HPK7 : Hid (PkAt w7 g cap (tellP ((k1 : Int) + 1) at')) := Lib.hid hpk
            have hgb : bp < g := by have := HP6.out.ql; omega
            clear k7 hpk HP6 HB6 HE xa
            have p2 := HP7.out.q2
            have p4 := HP7.out.q4
            go_wp2_with fail
            refine wp_region_held_drew (S := fun w' => w'.cell? ⟨bp, 2, none⟩ = some (.pointer (some ⟨b, 0, none⟩)) ∧ w'.cell? ⟨bp, 4, none⟩ = some (.int .i64 delay)) (by kernel_rfl) ?_ (fun hHeld => ?_)
            · exact ⟨p2, p4⟩
            have kd : Below w7.heap.size w7 w7.drew := (Below.refl _ _).drew
            have HP8 := Lib.hid (HP7.out.below kd)
            have HB8 := Lib.hid (HB7.out.trans (kd.mono HB7.out.size))
            have HPK8 := Lib.hid (HPK7.out.below kd)
            clear kd HP7 HB7 HPK7 p2 p4
            generalize w7.drew = w8 at *
            have HH1 := Lib.hid (ntp_hear_b HP8.out.P HOK.out (by omega) k1 (by omega) delay (by have := HBD.out; omega) HPK8.out (tell_ok ((k1 : Int) + 1) at' (by omega)))
            have HPH' := Lib.hid (HPH.out.step (rs := rstP) (T' := at') (fun _ => ⟨rfl, rfl⟩) hk' HBD.out.2.2.1 HBD.out.2.2.2 (by have := HBD.out; omega) (by have := HBD.out; omega) (by have := HBD.out; omega) (by have := HBD.out; omega) htr)
            have HOK' := Lib.hid (HOK.out.hear (z := zt) (n := 3) (x := 21167) rstP_ok (by have := HPH.out.syn; omega) k1 (by omega) delay (by have := HBD.out; omega) (tellP ((k1 : Int) + 1) at'))
            generalize hearK rstP zt 3 21167 N K k1 delay (tellP ((k1 : Int) + 1) at') = QP at *
            refine wpAnyH_take (i := 0) (v := ?_) rfl (by kernel_rfl) (by kernel_rfl) (by kernel_rfl) (fun _ _ _ h => h) (Or.inl ⟨by rfl, ?_⟩) (by assumption) ?_
            rotate_left
            · intro w' hSw; (try dsimp only at hSw); go_simp; (try with_reducible rfl)
            (try simp only [Act.put, List.setIfInBounds_toArray, List.set_cons_zero, List.set_cons_succ, List.getElem_toArray, List.getElem_cons_succ, List.getElem_cons_zero])
            refine wpAnyH_take (i := 1) (v := ?_) rfl (by kernel_rfl) (by kernel_rfl) (by kernel_rfl) (fun _ _ _ h => h) (Or.inl ⟨by rfl, ?_⟩) (by assumption) ?_
            rotate_left
            · intro w' hSw; (try dsimp only at hSw); go_simp; (try with_reducible rfl)
            (try simp only [Act.put, List.setIfInBounds_toArray, List.set_cons_zero, List.set_cons_succ, List.getElem_toArray, List.getElem_cons_succ, List.getElem_cons_zero])
            refine wpAnyH_take (i := 2) (v := ?_) rfl (by kernel_rfl) (by kernel_rfl) (by kernel_rfl) (fun _ _ _ h => h) (Or.inl ⟨by rfl, ?_⟩) (by assumption) ?_
            rotate_left
            · intro w' hSw; (try dsimp only at hSw); go_simp; (try with_reducible rfl)
            (try simp only [Act.put, List.setIfInBounds_toArray, List.set_cons_zero, List.set_cons_succ, List.getElem_toArray, List.getElem_cons_succ, List.getElem_cons_zero])
            refine wpAnyH_take (i := 3) (v := ?_) rfl (by kernel_rfl) (by kernel_rfl) (by kernel_rfl) (fun _ _ _ h => h) (Or.inl ⟨by rfl, ?_⟩) (by assumption) ?_
            rotate_left
            · intro w' hSw; (try dsimp only at hSw); go_simp; (try with_reducible rfl)
            (try simp only [Act.put, List.setIfInBounds_toArray, List.set_cons_zero, List.set_cons_succ, List.getElem_toArray, List.getElem_cons_succ, List.getElem_cons_zero])
            refine wpAnyH_take (i := 4) (v := ?_) rfl (by kernel_rfl) (by kernel_rfl) (by kernel_rfl) (fun _ _ _ h => h) (Or.inl ⟨by rfl, ?_⟩) (by assumption) ?_
            rotate_left
            · intro w' hSw; (try dsimp only at hSw); go_simp; (try with_reducible rfl)
            (try simp only [Act.put, List.setIfInBounds_toArray, List.set_cons_zero, List.set_cons_succ, List.getElem_toArray, List.getElem_cons_succ, List.getElem_cons_zero])
            refine wpAnyH_take (i := 5) (v := ?_) rfl (by kernel_rfl) (by kernel_rfl) (by kernel_rfl) (fun _ _ _ h => h) (Or.inl ⟨by rfl, ?_⟩) (by assumption) ?_
            rotate_left
            · intro w' hSw; (try dsimp only at hSw); go_simp; (try with_reducible rfl)
            (try simp only [Act.put, List.setIfInBounds_toArray, List.set_cons_zero, List.set_cons_succ, List.getElem_toArray, List.getElem_cons_succ, List.getElem_cons_zero])
            refine wpAnyH_take (i := 6) (v := ?_) rfl (by kernel_rfl) (by kernel_rfl) (by kernel_rfl) (fun _ _ _ h => h) (Or.inl ⟨by rfl, ?_⟩) (by assumption) ?_
            rotate_left
            · intro w' hSw; (try dsimp only at hSw); go_simp; (try with_reducible rfl)
            (try simp only [Act.put, List.setIfInBounds_toArray, List.set_cons_zero, List.set_cons_succ, List.getElem_toArray, List.getElem_cons_succ, List.getElem_cons_zero])
            refine wpAnyH_take (i := 7) (v := ?_) rfl (by kernel_rfl) (by kernel_rfl) (by kernel_rfl) (fun _ _ _ h => h) (Or.inl ⟨by rfl, ?_⟩) (by assumption) ?_
            rotate_left
            · intro w' hSw; (try dsimp only at hSw); go_simp; (try with_reducible rfl)
            (try simp only [Act.put, List.setIfInBounds_toArray, List.set_cons_zero, List.set_cons_succ, List.getElem_toArray, List.getElem_cons_succ, List.getElem_cons_zero])
            refine wpAnyH_take (i := 8) (v := ?_) rfl (by kernel_rfl) (by kernel_rfl) (by kernel_rfl) (fun _ _ _ h => h) (Or.inl ⟨by rfl, ?_⟩) (by assumption) ?_
            rotate_left
            · intro w' hSw; (try dsimp only at hSw); go_simp; (try with_reducible rfl)
            (try simp only [Act.put, List.setIfInBounds_toArray, List.set_cons_zero, List.set_cons_succ, List.getElem_toArray, List.getElem_cons_succ, List.getElem_cons_zero])
            refine wpAnyH_take (i := 9) (v := ?_) rfl (by kernel_rfl) (by kernel_rfl) (by kernel_rfl) (fun _ _ _ h => h) (Or.inl ⟨by rfl, ?_⟩) (by assumption) ?_
            rotate_left
            · intro w' hSw; (try dsimp only at hSw); go_simp; (try with_reducible rfl)
            (try simp only [Act.put, List.setIfInBounds_toArray, List.set_cons_zero, List.set_cons_succ, List.getElem_toArray, List.getElem_cons_succ, List.getElem_cons_zero])
            refine wpAnyH_ready (rs := [10]) (by kernel_rfl) (by simp) ?_
            refine AllReadyH.cons rfl (fun K hK => ?_) (AllReadyH.nil)
            go_simp
            (go_at_call 17; refine HH1.out.mono ?_; rintro e w9 ⟨rfl, hn9, hf9⟩)
            have HP9 := Lib.hid (HP8.out.onP hn9 hf9)
            have HB9 := Lib.hid (HB8.out.trans (hf9.below (fun q hq => by unfold Ft at hq; omega) HB8.out.size))
            have HPK9 := Lib.hid (HPK8.out.but hf9 (by unfold Ft; omega))
            clear hn9 hf9 HP8 HB8 HPK8 HH1
            (try dsimp only)
            refine hK.out _ _ ?_ (fun hHeld => ?_)
            · exact ⟨HP9.out.q2, HP9.out.q4⟩
            clear hK K
            (try simp only [Act.put, List.setIfInBounds_toArray, List.set_cons_zero, List.set_cons_succ, List.getElem_toArray, List.getElem_cons_succ, List.getElem_cons_zero])
            refine wpAnyH_done (by kernel_rfl) ?_ _
            clear hHeld
            have p3 := HP9.out.q3
            have p4 := HP9.out.q4
            go_wp2_with fail
            refine wp_region_held_drew (S := fun w' => w'.cell? ⟨bp, 3, none⟩ = some (.pointer (some ⟨rb, 0, none⟩)) ∧ w'.cell? ⟨bp, 4, none⟩ = some (.int .i64 delay)) (by kernel_rfl) ?_ (fun hHeld => ?_)
            · exact ⟨p3, p4⟩
            have kd : Below w9.heap.size w9 w9.drew := (Below.refl _ _).drew
            have HP10 := Lib.hid (HP9.out.below kd)
            have HB10 := Lib.hid (HB9.out.trans (kd.mono HB9.out.size))
            have HPK10 := Lib.hid (HPK9.out.below kd)
            clear kd HP9 HB9 HPK9 p3 p4
            generalize w9.drew = w10 at *
            have HH2 := Lib.hid (r_hear_b HP10.out.R HOR.out (by omega) k1 (by omega) delay (by have := HBD.out; omega) HPK10.out (tell_ok ((k1 : Int) + 1) at' (by omega)))
            have HPR' := Lib.hid (HPR.out.step (rs := rstR) (T' := at') (fun _ => ⟨rfl, rfl⟩) hk' HBD.out.2.2.1 HBD.out.2.2.2 (by have := HBD.out; omega) (by have := HBD.out; omega) (by have := HBD.out; omega) (by have := HBD.out; omega) htr)
            have HOR' := Lib.hid (HOR.out.hear (z := zt) (n := 3) (x := 21167) rstR_ok (by have := HPR.out.syn; omega) k1 (by omega) delay (by have := HBD.out; omega) (tellP ((k1 : Int) + 1) at'))
            generalize hearK rstR zt 3 21167 N R k1 delay (tellP ((k1 : Int) + 1) at') = QR at *
            refine wpAnyH_take (i := 0) (v := ?_) rfl (by kernel_rfl) (by kernel_rfl) (by kernel_rfl) (fun _ _ _ h => h) (Or.inl ⟨by rfl, ?_⟩) (by assumption) ?_
            rotate_left
            · intro w' hSw; (try dsimp only at hSw); go_simp; (try with_reducible rfl)
            (try simp only [Act.put, List.setIfInBounds_toArray, List.set_cons_zero, List.set_cons_succ, List.getElem_toArray, List.getElem_cons_succ, List.getElem_cons_zero])
            refine wpAnyH_take (i := 1) (v := ?_) rfl (by kernel_rfl) (by kernel_rfl) (by kernel_rfl) (fun _ _ _ h => h) (Or.inl ⟨by rfl, ?_⟩) (by assumption) ?_
            rotate_left
            · intro w' hSw; (try dsimp only at hSw); go_simp; (try with_reducible rfl)
            (try simp only [Act.put, List.setIfInBounds_toArray, List.set_cons_zero, List.set_cons_succ, List.getElem_toArray, List.getElem_cons_succ, List.getElem_cons_zero])
            refine wpAnyH_take (i := 2) (v := ?_) rfl (by kernel_rfl) (by kernel_rfl) (by kernel_rfl) (fun _ _ _ h => h) (Or.inl ⟨by rfl, ?_⟩) (by assumption) ?_
            rotate_left
            · intro w' hSw; (try dsimp only at hSw); go_simp; (try with_reducible rfl)
            (try simp only [Act.put, List.setIfInBounds_toArray, List.set_cons_zero, List.set_cons_succ, List.getElem_toArray, List.getElem_cons_succ, List.getElem_cons_zero])
            refine wpAnyH_take (i := 3) (v := ?_) rfl (by kernel_rfl) (by kernel_rfl) (by kernel_rfl) (fun _ _ _ h => h) (Or.inl ⟨by rfl, ?_⟩) (by assumption) ?_
            rotate_left
            · intro w' hSw; (try dsimp only at hSw); go_simp; (try with_reducible rfl)
            (try simp only [Act.put, List.setIfInBounds_toArray, List.set_cons_zero, List.set_cons_succ, List.getElem_toArray, List.getElem_cons_succ, List.getElem_cons_zero])
            refine wpAnyH_take (i := 4) (v := ?_) rfl (by kernel_rfl) (by kernel_rfl) (by kernel_rfl) (fun _ _ _ h => h) (Or.inl ⟨by rfl, ?_⟩) (by assumption) ?_
            rotate_left
            · intro w' hSw; (try dsimp only at hSw); go_simp; (try with_reducible rfl)
            (try simp only [Act.put, List.setIfInBounds_toArray, List.set_cons_zero, List.set_cons_succ, List.getElem_toArray, List.getElem_cons_succ, List.getElem_cons_zero])
            refine wpAnyH_take (i := 5) (v := ?_) rfl (by kernel_rfl) (by kernel_rfl) (by kernel_rfl) (fun _ _ _ h => h) (Or.inl ⟨by rfl, ?_⟩) (by assumption) ?_
            rotate_left
            · intro w' hSw; (try dsimp only at hSw); go_simp; (try with_reducible rfl)
            (try simp only [Act.put, List.setIfInBounds_toArray, List.set_cons_zero, List.set_cons_succ, List.getElem_toArray, List.getElem_cons_succ, List.getElem_cons_zero])
            refine wpAnyH_take (i := 6) (v := ?_) rfl (by kernel_rfl) (by kernel_rfl) (by kernel_rfl) (fun _ _ _ h => h) (Or.inl ⟨by rfl, ?_⟩) (by assumption) ?_
            rotate_left
            · intro w' hSw; (try dsimp only at hSw); go_simp; (try with_reducible rfl)
            (try simp only [Act.put, List.setIfInBounds_toArray, List.set_cons_zero, List.set_cons_succ, List.getElem_toArray, List.getElem_cons_succ, List.getElem_cons_zero])
            refine wpAnyH_take (i := 7) (v := ?_) rfl (by kernel_rfl) (by kernel_rfl) (by kernel_rfl) (fun _ _ _ h => h) (Or.inl ⟨by rfl, ?_⟩) (by assumption) ?_
            rotate_left
            · intro w' hSw; (try dsimp only at hSw); go_simp; (try with_reducible rfl)
            (try simp only [Act.put, List.setIfInBounds_toArray, List.set_cons_zero, List.set_cons_succ, List.getElem_toArray, List.getElem_cons_succ, List.getElem_cons_zero])
            refine wpAnyH_take (i := 8) (v := ?_) rfl (by kernel_rfl) (by kernel_rfl) (by kernel_rfl) (fun _ _ _ h => h) (Or.inl ⟨by rfl, ?_⟩) (by assumption) ?_
            rotate_left
            · intro w' hSw; (try dsimp only at hSw); go_simp; (try with_reducible rfl)
            (try simp only [Act.put, List.setIfInBounds_toArray, List.set_cons_zero, List.set_cons_succ, List.getElem_toArray, List.getElem_cons_succ, List.getElem_cons_zero])
            refine wpAnyH_take (i := 9) (v := ?_) rfl (by kernel_rfl) (by kernel_rfl) (by kernel_rfl) (fun _ _ _ h => h) (Or.inl ⟨by rfl, ?_⟩) (by assumption) ?_
            rotate_left
            · intro w' hSw; (try dsimp only at hSw); go_simp; (try with_reducible rfl)
            (try simp only [Act.put, List.setIfInBounds_toArray, List.set_cons_zero, List.set_cons_succ, List.getElem_toArray, List.getElem_cons_succ, List.getElem_cons_zero])
            refine wpAnyH_ready (rs := [10]) (by kernel_rfl) (by simp) ?_
            refine AllReadyH.cons rfl (fun K hK => ?_) (AllReadyH.nil)
            go_simp
            (go_at_call 20; refine HH2.out.mono ?_; rintro e w11 ⟨rfl, hn11, hf11⟩)
            have HP11 := Lib.hid (HP10.out.onR hn11 hf11)
            have HB11 := Lib.hid (HB10.out.trans (hf11.below (fun q hq => by unfold Ft at hq; omega) HB10.out.size))
            clear hn11 hf11 HP10 HB10 HPK10 HH2
            (try dsimp only)
            refine hK.out _ _ ?_ (fun hHeld => ?_)
            · exact ⟨HP11.out.q3, HP11.out.q4⟩
            clear hK K
            (try simp only [Act.put, List.setIfInBounds_toArray, List.set_cons_zero, List.set_cons_succ, List.getElem_toArray, List.getElem_cons_succ, List.getElem_cons_zero])
            refine wpAnyH_done (by kernel_rfl) ?_ _
            clear hHeld
            go_wp2_with fail
            go_roundw
            case rel => exact ⟨k1, QP.2, QR.2, by omega, by go_num, HPH'.out, HPR'.out, HOK'.out, HOR'.out, HP11.out, HB11.out⟩
            all_goals (simp [intOf] <;> omega)
          · as_aux_lemma =>
            have lkl : ¬ (k1 : Int) < (L : Int) := by omega
            obtain ⟨at', hat⟩ : ∃ at', ahead + delay / 2 = at' := ⟨_, rfl⟩
            have hb0 : 0 ≤ at' := by omega
            have hb1 : at' ≤ 1153000000000000000 := by omega
            have htr : at' = ahead + delay / 2 ∨ N < 2 * (N - (k1 + 1)) := .inl hat.symm
            replace wat : IntKind.i64.wrap (ahead + delay / 2) = at' := wat.trans hat
            have HSTM := Lib.hid (law_stamp (some ⟨B0, 0, none⟩) 3 3 21167 at' zt wr HP5.out.tab HP5.out.P.tb (by omega) (by omega))
            have HTR := Lib.hid htr
            clear hat a0 a1 d0 d1 htr
            go_wp2_with fail
            refine HSTM.out.mono ?_; rintro e w5 ⟨rfl, k5⟩
            have htr := HTR.out
            have HP6 := Lib.hid (HP5.out.below k5)
            have HB6 := Lib.hid (HB5.out.trans (k5.mono HB5.out.size))
            have xa := HP6.out.qa k1 (by omega)
            rw [HAK.out k1 (by omega)] at xa
            have sb := stp_bd zt_tab at'
            have HE := Lib.hid (fun W : World => ref6_enc (tellP ((k1 : Int) + 1) at') (tell_ok _ _ (by omega)) W)
            have lk8 : (k1 : Int) < 8 := by omega
            have q10 := HP6.out.q0
            clear k5 HP5 HB5 HSTM q0 q1 q10
            go_wp2_with fail
            refine (HE.out _).mono ?_; rintro e w7 ⟨g, cap, rfl, hg, hpk, k7⟩
            have HP7 := Lib.hid (HP6.out.below k7)
            have HB7 := Lib.hid (HB6.out.trans (k7.mono HB6.out.size))
            have HPK7 : Hid (PkAt w7 g cap (tellP ((k1 : Int) + 1) at')) := Lib.hid hpk
            have hgb : bp < g := by have := HP6.out.ql; omega
            clear k7 hpk HP6 HB6 HE xa
            have p2 := HP7.out.q2
            have p4 := HP7.out.q4
            go_wp2_with fail
            refine wp_region_held_drew (S := fun w' => w'.cell? ⟨bp, 2, none⟩ = some (.pointer (some ⟨b, 0, none⟩)) ∧ w'.cell? ⟨bp, 4, none⟩ = some (.int .i64 delay)) (by kernel_rfl) ?_ (fun hHeld => ?_)
            · exact ⟨p2, p4⟩
            have kd : Below w7.heap.size w7 w7.drew := (Below.refl _ _).drew
            have HP8 := Lib.hid (HP7.out.below kd)
            have HB8 := Lib.hid (HB7.out.trans (kd.mono HB7.out.size))
            have HPK8 := Lib.hid (HPK7.out.below kd)
            clear kd HP7 HB7 HPK7 p2 p4
            generalize w7.drew = w8 at *
            have HH1 := Lib.hid (ntp_hear_b HP8.out.P HOK.out (by omega) k1 (by omega) delay (by have := HBD.out; omega) HPK8.out (tell_ok ((k1 : Int) + 1) at' (by omega)))
            have HPH' := Lib.hid (HPH.out.step (rs := rstP) (T' := at') (fun _ => ⟨rfl, rfl⟩) hk' HBD.out.2.2.1 HBD.out.2.2.2 (by have := HBD.out; omega) (by have := HBD.out; omega) (by have := HBD.out; omega) (by have := HBD.out; omega) htr)
            have HOK' := Lib.hid (HOK.out.hear (z := zt) (n := 3) (x := 21167) rstP_ok (by have := HPH.out.syn; omega) k1 (by omega) delay (by have := HBD.out; omega) (tellP ((k1 : Int) + 1) at'))
            generalize hearK rstP zt 3 21167 N K k1 delay (tellP ((k1 : Int) + 1) at') = QP at *
            refine wpAnyH_take (i := 0) (v := ?_) rfl (by kernel_rfl) (by kernel_rfl) (by kernel_rfl) (fun _ _ _ h => h) (Or.inl ⟨by rfl, ?_⟩) (by assumption) ?_
            rotate_left
            · intro w' hSw; (try dsimp only at hSw); go_simp; (try with_reducible rfl)
            (try simp only [Act.put, List.setIfInBounds_toArray, List.set_cons_zero, List.set_cons_succ, List.getElem_toArray, List.getElem_cons_succ, List.getElem_cons_zero])
            refine wpAnyH_take (i := 1) (v := ?_) rfl (by kernel_rfl) (by kernel_rfl) (by kernel_rfl) (fun _ _ _ h => h) (Or.inl ⟨by rfl, ?_⟩) (by assumption) ?_
            rotate_left
            · intro w' hSw; (try dsimp only at hSw); go_simp; (try with_reducible rfl)
            (try simp only [Act.put, List.setIfInBounds_toArray, List.set_cons_zero, List.set_cons_succ, List.getElem_toArray, List.getElem_cons_succ, List.getElem_cons_zero])
            refine wpAnyH_take (i := 2) (v := ?_) rfl (by kernel_rfl) (by kernel_rfl) (by kernel_rfl) (fun _ _ _ h => h) (Or.inl ⟨by rfl, ?_⟩) (by assumption) ?_
            rotate_left
            · intro w' hSw; (try dsimp only at hSw); go_simp; (try with_reducible rfl)
            (try simp only [Act.put, List.setIfInBounds_toArray, List.set_cons_zero, List.set_cons_succ, List.getElem_toArray, List.getElem_cons_succ, List.getElem_cons_zero])
            refine wpAnyH_take (i := 3) (v := ?_) rfl (by kernel_rfl) (by kernel_rfl) (by kernel_rfl) (fun _ _ _ h => h) (Or.inl ⟨by rfl, ?_⟩) (by assumption) ?_
            rotate_left
            · intro w' hSw; (try dsimp only at hSw); go_simp; (try with_reducible rfl)
            (try simp only [Act.put, List.setIfInBounds_toArray, List.set_cons_zero, List.set_cons_succ, List.getElem_toArray, List.getElem_cons_succ, List.getElem_cons_zero])
            refine wpAnyH_take (i := 4) (v := ?_) rfl (by kernel_rfl) (by kernel_rfl) (by kernel_rfl) (fun _ _ _ h => h) (Or.inl ⟨by rfl, ?_⟩) (by assumption) ?_
            rotate_left
            · intro w' hSw; (try dsimp only at hSw); go_simp; (try with_reducible rfl)
            (try simp only [Act.put, List.setIfInBounds_toArray, List.set_cons_zero, List.set_cons_succ, List.getElem_toArray, List.getElem_cons_succ, List.getElem_cons_zero])
            refine wpAnyH_take (i := 5) (v := ?_) rfl (by kernel_rfl) (by kernel_rfl) (by kernel_rfl) (fun _ _ _ h => h) (Or.inl ⟨by rfl, ?_⟩) (by assumption) ?_
            rotate_left
            · intro w' hSw; (try dsimp only at hSw); go_simp; (try with_reducible rfl)
            (try simp only [Act.put, List.setIfInBounds_toArray, List.set_cons_zero, List.set_cons_succ, List.getElem_toArray, List.getElem_cons_succ, List.getElem_cons_zero])
            refine wpAnyH_take (i := 6) (v := ?_) rfl (by kernel_rfl) (by kernel_rfl) (by kernel_rfl) (fun _ _ _ h => h) (Or.inl ⟨by rfl, ?_⟩) (by assumption) ?_
            rotate_left
            · intro w' hSw; (try dsimp only at hSw); go_simp; (try with_reducible rfl)
            (try simp only [Act.put, List.setIfInBounds_toArray, List.set_cons_zero, List.set_cons_succ, List.getElem_toArray, List.getElem_cons_succ, List.getElem_cons_zero])
            refine wpAnyH_take (i := 7) (v := ?_) rfl (by kernel_rfl) (by kernel_rfl) (by kernel_rfl) (fun _ _ _ h => h) (Or.inl ⟨by rfl, ?_⟩) (by assumption) ?_
            rotate_left
            · intro w' hSw; (try dsimp only at hSw); go_simp; (try with_reducible rfl)
            (try simp only [Act.put, List.setIfInBounds_toArray, List.set_cons_zero, List.set_cons_succ, List.getElem_toArray, List.getElem_cons_succ, List.getElem_cons_zero])
            refine wpAnyH_take (i := 8) (v := ?_) rfl (by kernel_rfl) (by kernel_rfl) (by kernel_rfl) (fun _ _ _ h => h) (Or.inl ⟨by rfl, ?_⟩) (by assumption) ?_
            rotate_left
            · intro w' hSw; (try dsimp only at hSw); go_simp; (try with_reducible rfl)
            (try simp only [Act.put, List.setIfInBounds_toArray, List.set_cons_zero, List.set_cons_succ, List.getElem_toArray, List.getElem_cons_succ, List.getElem_cons_zero])
            refine wpAnyH_take (i := 9) (v := ?_) rfl (by kernel_rfl) (by kernel_rfl) (by kernel_rfl) (fun _ _ _ h => h) (Or.inl ⟨by rfl, ?_⟩) (by assumption) ?_
            rotate_left
            · intro w' hSw; (try dsimp only at hSw); go_simp; (try with_reducible rfl)
            (try simp only [Act.put, List.setIfInBounds_toArray, List.set_cons_zero, List.set_cons_succ, List.getElem_toArray, List.getElem_cons_succ, List.getElem_cons_zero])
            refine wpAnyH_ready (rs := [10]) (by kernel_rfl) (by simp) ?_
            refine AllReadyH.cons rfl (fun K hK => ?_) (AllReadyH.nil)
            go_simp
            (go_at_call 17; refine HH1.out.mono ?_; rintro e w9 ⟨rfl, hn9, hf9⟩)
            have HP9 := Lib.hid (HP8.out.onP hn9 hf9)
            have HB9 := Lib.hid (HB8.out.trans (hf9.below (fun q hq => by unfold Ft at hq; omega) HB8.out.size))
            have HPK9 := Lib.hid (HPK8.out.but hf9 (by unfold Ft; omega))
            clear hn9 hf9 HP8 HB8 HPK8 HH1
            (try dsimp only)
            refine hK.out _ _ ?_ (fun hHeld => ?_)
            · exact ⟨HP9.out.q2, HP9.out.q4⟩
            clear hK K
            (try simp only [Act.put, List.setIfInBounds_toArray, List.set_cons_zero, List.set_cons_succ, List.getElem_toArray, List.getElem_cons_succ, List.getElem_cons_zero])
            refine wpAnyH_done (by kernel_rfl) ?_ _
            clear hHeld
            have p3 := HP9.out.q3
            have p4 := HP9.out.q4
            go_wp2_with fail
            refine wp_region_held_drew (S := fun w' => w'.cell? ⟨bp, 3, none⟩ = some (.pointer (some ⟨rb, 0, none⟩)) ∧ w'.cell? ⟨bp, 4, none⟩ = some (.int .i64 delay)) (by kernel_rfl) ?_ (fun hHeld => ?_)
            · exact ⟨p3, p4⟩
            have kd : Below w9.heap.size w9 w9.drew := (Below.refl _ _).drew
            have HP10 := Lib.hid (HP9.out.below kd)
            have HB10 := Lib.hid (HB9.out.trans (kd.mono HB9.out.size))
            have HPK10 := Lib.hid (HPK9.out.below kd)
            clear kd HP9 HB9 HPK9 p3 p4
            generalize w9.drew = w10 at *
            have HH2 := Lib.hid (r_hear_b HP10.out.R HOR.out (by omega) k1 (by omega) delay (by have := HBD.out; omega) HPK10.out (tell_ok ((k1 : Int) + 1) at' (by omega)))
            have HPR' := Lib.hid (HPR.out.step (rs := rstR) (T' := at') (fun _ => ⟨rfl, rfl⟩) hk' HBD.out.2.2.1 HBD.out.2.2.2 (by have := HBD.out; omega) (by have := HBD.out; omega) (by have := HBD.out; omega) (by have := HBD.out; omega) htr)
            have HOR' := Lib.hid (HOR.out.hear (z := zt) (n := 3) (x := 21167) rstR_ok (by have := HPR.out.syn; omega) k1 (by omega) delay (by have := HBD.out; omega) (tellP ((k1 : Int) + 1) at'))
            generalize hearK rstR zt 3 21167 N R k1 delay (tellP ((k1 : Int) + 1) at') = QR at *
            refine wpAnyH_take (i := 0) (v := ?_) rfl (by kernel_rfl) (by kernel_rfl) (by kernel_rfl) (fun _ _ _ h => h) (Or.inl ⟨by rfl, ?_⟩) (by assumption) ?_
            rotate_left
            · intro w' hSw; (try dsimp only at hSw); go_simp; (try with_reducible rfl)
            (try simp only [Act.put, List.setIfInBounds_toArray, List.set_cons_zero, List.set_cons_succ, List.getElem_toArray, List.getElem_cons_succ, List.getElem_cons_zero])
            refine wpAnyH_take (i := 1) (v := ?_) rfl (by kernel_rfl) (by kernel_rfl) (by kernel_rfl) (fun _ _ _ h => h) (Or.inl ⟨by rfl, ?_⟩) (by assumption) ?_
            rotate_left
            · intro w' hSw; (try dsimp only at hSw); go_simp; (try with_reducible rfl)
            (try simp only [Act.put, List.setIfInBounds_toArray, List.set_cons_zero, List.set_cons_succ, List.getElem_toArray, List.getElem_cons_succ, List.getElem_cons_zero])
            refine wpAnyH_take (i := 2) (v := ?_) rfl (by kernel_rfl) (by kernel_rfl) (by kernel_rfl) (fun _ _ _ h => h) (Or.inl ⟨by rfl, ?_⟩) (by assumption) ?_
            rotate_left
            · intro w' hSw; (try dsimp only at hSw); go_simp; (try with_reducible rfl)
            (try simp only [Act.put, List.setIfInBounds_toArray, List.set_cons_zero, List.set_cons_succ, List.getElem_toArray, List.getElem_cons_succ, List.getElem_cons_zero])
            refine wpAnyH_take (i := 3) (v := ?_) rfl (by kernel_rfl) (by kernel_rfl) (by kernel_rfl) (fun _ _ _ h => h) (Or.inl ⟨by rfl, ?_⟩) (by assumption) ?_
            rotate_left
            · intro w' hSw; (try dsimp only at hSw); go_simp; (try with_reducible rfl)
            (try simp only [Act.put, List.setIfInBounds_toArray, List.set_cons_zero, List.set_cons_succ, List.getElem_toArray, List.getElem_cons_succ, List.getElem_cons_zero])
            refine wpAnyH_take (i := 4) (v := ?_) rfl (by kernel_rfl) (by kernel_rfl) (by kernel_rfl) (fun _ _ _ h => h) (Or.inl ⟨by rfl, ?_⟩) (by assumption) ?_
            rotate_left
            · intro w' hSw; (try dsimp only at hSw); go_simp; (try with_reducible rfl)
            (try simp only [Act.put, List.setIfInBounds_toArray, List.set_cons_zero, List.set_cons_succ, List.getElem_toArray, List.getElem_cons_succ, List.getElem_cons_zero])
            refine wpAnyH_take (i := 5) (v := ?_) rfl (by kernel_rfl) (by kernel_rfl) (by kernel_rfl) (fun _ _ _ h => h) (Or.inl ⟨by rfl, ?_⟩) (by assumption) ?_
            rotate_left
            · intro w' hSw; (try dsimp only at hSw); go_simp; (try with_reducible rfl)
            (try simp only [Act.put, List.setIfInBounds_toArray, List.set_cons_zero, List.set_cons_succ, List.getElem_toArray, List.getElem_cons_succ, List.getElem_cons_zero])
            refine wpAnyH_take (i := 6) (v := ?_) rfl (by kernel_rfl) (by kernel_rfl) (by kernel_rfl) (fun _ _ _ h => h) (Or.inl ⟨by rfl, ?_⟩) (by assumption) ?_
            rotate_left
            · intro w' hSw; (try dsimp only at hSw); go_simp; (try with_reducible rfl)
            (try simp only [Act.put, List.setIfInBounds_toArray, List.set_cons_zero, List.set_cons_succ, List.getElem_toArray, List.getElem_cons_succ, List.getElem_cons_zero])
            refine wpAnyH_take (i := 7) (v := ?_) rfl (by kernel_rfl) (by kernel_rfl) (by kernel_rfl) (fun _ _ _ h => h) (Or.inl ⟨by rfl, ?_⟩) (by assumption) ?_
            rotate_left
            · intro w' hSw; (try dsimp only at hSw); go_simp; (try with_reducible rfl)
            (try simp only [Act.put, List.setIfInBounds_toArray, List.set_cons_zero, List.set_cons_succ, List.getElem_toArray, List.getElem_cons_succ, List.getElem_cons_zero])
            refine wpAnyH_take (i := 8) (v := ?_) rfl (by kernel_rfl) (by kernel_rfl) (by kernel_rfl) (fun _ _ _ h => h) (Or.inl ⟨by rfl, ?_⟩) (by assumption) ?_
            rotate_left
            · intro w' hSw; (try dsimp only at hSw); go_simp; (try with_reducible rfl)
            (try simp only [Act.put, List.setIfInBounds_toArray, List.set_cons_zero, List.set_cons_succ, List.getElem_toArray, List.getElem_cons_succ, List.getElem_cons_zero])
            refine wpAnyH_take (i := 9) (v := ?_) rfl (by kernel_rfl) (by kernel_rfl) (by kernel_rfl) (fun _ _ _ h => h) (Or.inl ⟨by rfl, ?_⟩) (by assumption) ?_
            rotate_left
            · intro w' hSw; (try dsimp only at hSw); go_simp; (try with_reducible rfl)
            (try simp only [Act.put, List.setIfInBounds_toArray, List.set_cons_zero, List.set_cons_succ, List.getElem_toArray, List.getElem_cons_succ, List.getElem_cons_zero])
            refine wpAnyH_ready (rs := [10]) (by kernel_rfl) (by simp) ?_
            refine AllReadyH.cons rfl (fun K hK => ?_) (AllReadyH.nil)
            go_simp
            (go_at_call 20; refine HH2.out.mono ?_; rintro e w11 ⟨rfl, hn11, hf11⟩)
            have HP11 := Lib.hid (HP10.out.onR hn11 hf11)
            have HB11 := Lib.hid (HB10.out.trans (hf11.below (fun q hq => by unfold Ft at hq; omega) HB10.out.size))
            clear hn11 hf11 HP10 HB10 HPK10 HH2
            (try dsimp only)
            refine hK.out _ _ ?_ (fun hHeld => ?_)
            · exact ⟨HP11.out.q3, HP11.out.q4⟩
            clear hK K
            (try simp only [Act.put, List.setIfInBounds_toArray, List.set_cons_zero, List.set_cons_succ, List.getElem_toArray, List.getElem_cons_succ, List.getElem_cons_zero])
            refine wpAnyH_done (by kernel_rfl) ?_ _
            clear hHeld
            go_wp2_with fail
            go_roundw
            case rel => exact ⟨k1, QP.2, QR.2, by omega, by go_num, HPH'.out, HPR'.out, HOK'.out, HOR'.out, HP11.out, HB11.out⟩
            all_goals (simp [intOf] <;> omega)
end Go.Proofs.YtepdnkpmkhjlgaaGreat

/- Stage 9: NtpTrue: the claim. -/
namespace Go.Proofs.YtepdnkpmkhjlgaaGreat
open Go.ChangeShapes Go.WideShapes Go.ChangeAt Go.RowKit Go.Joins Go.Sort

set_option maxRecDepth 100000 in
theorem ntpTrue_lifted (os : Os) (started : os.Started) (H : Type) (enc : TypeId × Value → H) :
    ReturnsInHanded {} Tryz.checked os 5 .any (Rows.ntpTrueSpec.pre6 enc Tryz.prog Tryz.f5 Rows.ntpTrueRow.domain false) (Rows.ntpTrueSpec.post enc Tryz.prog Tryz.f5 false true false false) := by
  refine returnsInHanded_of_change_sized (C := Tryz.checked) law_own started (by kernel_rfl) Tryz.func5
    (ChangeSpec.witness6 (enc := enc) (C := Tryz.checked) false ⟨#[], #[.int .i64 0, .slice none 0 0, .int .i64 0, .int .i64 0], []⟩ 8 (by kernel_rfl) (by kernel_rfl) (by kernel_rfl) (by kernel_rfl)) ?_
  intro W base args ds gs before hval0 hW hcnd hsz0 _
  have hval : ∀ (j : Nat) t v, Tryz.f5.params[j]? = some t → args[j]? = some v → Value.okWide Tryz.prog W .any base t v := hval0
  have hsz : (DataW.weightsEach Tryz.prog (Tryz.f5.params.toList ++ Rows.ntpTrueSpec.plain.varTypes Tryz.prog) (ds ++ gs)).all (· ≤ reachBytes) = true := hsz0
  have hW' := hW
  obtain ⟨p, q, hA0, hV, rfl, hfz, hnd⟩ := hW
  have hA : DataW.TrodAll enc Tryz.prog W 0 (fun _ => true) true Tryz.f5.params.toList args.toList ds p := hA0
  rw [Tryz.params5] at hA hval hsz
  have hsame : (Rows.ntpTrueSpec.fn H (ds ++ gs)).results = [.lit (.bool true)] ∧ (Rows.ntpTrueSpec.fn H (ds ++ gs)).args = ds ∧ (Rows.ntpTrueSpec.fn H (ds ++ gs)).vars = [] → ∀ W', Below W.heap.size W W' → Rows.ntpTrueSpec.post enc Tryz.prog Tryz.f5 false true false false W args (.bool true) W' :=
    fun h W' hb => law_post (tb := 4) hW' law_laid (by kernel_rfl) rfl Tryz.underlying4 h.1 h.2.1 rfl h.2.2 hb
  obtain ⟨v0, vs0, d0, ds0, p0, q0, hargs, rfl, rfl, h0, r0⟩ := trodAll_cons hA
  obtain ⟨v1, vs1, d1, ds1, p1, q1, rfl, rfl, rfl, h1, r1⟩ := trodAll_cons r0
  obtain ⟨v2, vs2, d2, ds2, p2, q2, rfl, rfl, rfl, h2, r2⟩ := trodAll_cons r1
  obtain ⟨v3, vs3, d3, ds3, p3, q3, rfl, rfl, rfl, h3, r3⟩ := trodAll_cons r2
  obtain ⟨rfl, rfl, rfl⟩ := trodAll_nil r3
  obtain rfl : args = #[v0, v1, v2, v3] := by cases args; simp_all
  obtain ⟨rfl, rfl⟩ := trodVars_none hV
  have hpost := hsame ⟨rfl, rfl, rfl⟩
  clear hsame hA0 hval0 hsz0
  obtain ⟨a0, rfl, rfl, rfl, wf0⟩ := open_int Tryz.underlying3 (hval 0 3 v0 rfl rfl) h0
  obtain ⟨A, L, c, zl, rfl, hn, hz⟩ := open_int_slice (hval 1 48 v1 rfl rfl) h1
  obtain ⟨a2, rfl, rfl, rfl, wf2⟩ := open_int Tryz.underlying3 (hval 2 3 v2 rfl rfl) h2
  obtain ⟨a3, rfl, rfl, rfl, wf3⟩ := open_int Tryz.underlying3 (hval 3 3 v3 rfl rfl) h3
  have hw : Calls Tryz.prog 5 #[.int .i64 a0, .slice A L c, .int .i64 a2, .int .i64 a3] W fun e w' => e = .returned (.bool true) ∧ Below W.heap.size W w' := by
    have hb := wf_bd wf0
    by_cases h : 1 ≤ a0 ∧ a0 ≤ 5 ∧ (L : Int) < a0 ∧ a0 + L ≤ 8 ∧ 1099511627776 ≤ a2 ∧ a2 ≤ 1152921504606846976 ∧ 0 ≤ a3 ∧ a3 ≤ 1073741824
    · obtain ⟨q, hq⟩ := Int.eq_ofNat_of_zero_le (show 0 ≤ a0 by omega)
      exact true_in A L c zl q a0 a2 a3 W hz hq.symm h.1 h.2.1 h.2.2.1 h.2.2.2.1 h.2.2.2.2.1 h.2.2.2.2.2.1 h.2.2.2.2.2.2.1 h.2.2.2.2.2.2.2
    · exact true_out A L c a0 a2 a3 W hn hb.1 hb.2 h
  exact (hw).mono fun e W' ⟨he, hb⟩ => ⟨_, he, hpost W' hb⟩
theorem ntpTrue_holds : Rows.NtpTrueSaid :=
  OpenClaim.holds_of_wide 5 Tryz.f5 rfl rfl rfl rfl rfl rfl rfl ⟨rfl, rfl, rfl, rfl, rfl⟩ rfl rfl rfl rfl rfl (by kernel_rfl) Tryz.func5 (by kernel_rfl)
    (of_decide_eq_true (by kernel_rfl)) (by unfold Func.isWrapper; first | (rw [if_pos (by decide +kernel)]; kernel_rfl) | (rw [if_neg (by decide +kernel)]; exact ⟨rfl, rfl⟩))
    (fun os started H enc _ => ntpTrue_lifted os started H enc)
end Go.Proofs.YtepdnkpmkhjlgaaGreat

