/- What most of some intervals have in common: by a sweep over their ends (plain mathematics). -/
import Derived.Test.YtdkcdaknifikeaaBase
set_option linter.unusedSimpArgs false
set_option linter.unusedVariables false
namespace Go.Proofs.Ytdkcdaknifikeaa
namespace Ag

def inB (x : Int) (i : Int × Int) : Bool := decide (i.1 ≤ x) && decide (x ≤ i.2)
def cnt (l : List (Int × Int)) (x : Int) : Nat := l.countP (inB x)
/-- What most of l have in common, and how many they are. -/
structure MostIs (l : List (Int × Int)) (a b : Int) (n : Nat) : Prop where
  le : ∀ x, cnt l x ≤ n
  zero : n = 0 → a = 0 ∧ b = 0
  at_ : 0 < n → cnt l a = n
  least : ∀ x, x < a → 0 < n → cnt l x < n
  high : 0 < n → ∃ i ∈ l, inB a i = true ∧ i.2 = b
  low : ∀ i ∈ l, 0 < n → inB a i = true → b ≤ i.2

theorem MostIs.unique {l : List (Int × Int)} {a b a' b' : Int} {n n' : Nat} (h : MostIs l a b n) (k : MostIs l a' b' n') : a = a' ∧ b = b' ∧ n = n' := by
  have hn : n = n' := by
    rcases Nat.eq_zero_or_pos n with h0 | h0
    · rcases Nat.eq_zero_or_pos n' with k0 | k0
      · omega
      · have := k.at_ k0; have := h.le a'; omega
    · have h1 := h.at_ h0
      have h2 := k.le a
      rcases Nat.eq_zero_or_pos n' with k0 | k0
      · omega
      · have := k.at_ k0; have := h.le a'; omega
  subst hn
  rcases Nat.eq_zero_or_pos n with h0 | h0
  · obtain ⟨x, y⟩ := h.zero h0
    obtain ⟨x', y'⟩ := k.zero h0
    exact ⟨by omega, by omega, rfl⟩
  · have ha : a = a' := by
      rcases Int.lt_trichotomy a a' with q | q | q
      · have := k.least a q h0; have := h.at_ h0; omega
      · exact q
      · have := h.least a' q h0; have := k.at_ h0; omega
    subst ha
    obtain ⟨i, hi, hx, rfl⟩ := h.high h0
    obtain ⟨j, hj, hy, rfl⟩ := k.high h0
    have := h.low j hj h0 hy
    have := k.low i hi h0 hx
    exact ⟨rfl, by omega, rfl⟩
theorem cnt_perm {l m : List (Int × Int)} (h : l.Perm m) (x : Int) : cnt l x = cnt m x := h.countP_eq _
theorem MostIs.perm {l m : List (Int × Int)} {a b : Int} {n : Nat} (h : MostIs l a b n) (p : l.Perm m) : MostIs m a b n :=
  ⟨fun x => by rw [← cnt_perm p]; exact h.le x, h.zero, fun h0 => by rw [← cnt_perm p]; exact h.at_ h0, fun x hx h0 => by rw [← cnt_perm p]; exact h.least x hx h0,
   fun h0 => by obtain ⟨i, hi, r⟩ := h.high h0; exact ⟨i, p.mem_iff.1 hi, r⟩, fun i hi => h.low i (p.mem_iff.2 hi)⟩
theorem MostIs.ab {l : List (Int × Int)} {a b : Int} {n : Nat} (h : MostIs l a b n) : a ≤ b := by
  rcases Nat.eq_zero_or_pos n with h0 | h0
  · obtain ⟨x, y⟩ := h.zero h0; omega
  · obtain ⟨i, hi, hx, rfl⟩ := h.high h0
    simp [inB] at hx; omega
/-- As many as there are at all points of what is told. -/
theorem MostIs.within {l : List (Int × Int)} {a b : Int} {n : Nat} (h : MostIs l a b n) (h0 : 0 < n) : l.countP (fun i => decide (i.1 ≤ a) && decide (b ≤ i.2)) = n := by
  rw [← h.at_ h0]
  unfold cnt
  apply List.countP_congr
  intro i hi
  have := h.low i hi h0
  have hab := h.ab
  simp only [inB, Bool.and_eq_true, decide_eq_true_eq] at this ⊢
  constructor
  · rintro ⟨x, y⟩; exact ⟨x, by omega⟩
  · rintro ⟨x, y⟩; exact ⟨x, this ⟨x, y⟩⟩

/-! The sweep. -/
def okB (i : Int × Int) : Bool := decide (i.1 ≤ i.2)
def lows (l : List (Int × Int)) : List Int := (l.filter okB).map (·.1)
def highs (l : List (Int × Int)) : List Int := (l.filter okB).map (·.2)
def leB (x y : Int) : Bool := decide (x ≤ y)
def As (l : List (Int × Int)) : List Int := (lows l).mergeSort leB
def Bs (l : List (Int × Int)) : List Int := (highs l).mergeSort leB
theorem cnt_filter (l : List (Int × Int)) (x : Int) : cnt (l.filter okB) x = cnt l x := by
  unfold cnt
  rw [List.countP_filter]
  apply List.countP_congr
  intro i _
  simp [inB, okB]
  omega
theorem lens (l : List (Int × Int)) : (As l).length = (l.filter okB).length ∧ (Bs l).length = (l.filter okB).length := by
  simp [As, Bs, lows, highs]
/-- How many highs lie below. -/
def eB (B : List Int) (x : Int) : Nat := B.countP fun h => decide (h < x)
theorem cnt_split (v : List (Int × Int)) (hv : ∀ i ∈ v, okB i = true) (x : Int) : cnt v x + (v.map (·.2)).countP (fun h => decide (h < x)) = (v.map (·.1)).countP (fun h => decide (h ≤ x)) := by
  induction v with
  | nil => rfl
  | cons i v ih =>
    have h1 := hv i (by simp)
    have h2 := ih fun j hj => hv j (by simp [hj])
    simp only [cnt, List.map_cons, List.countP_cons] at h2 ⊢
    simp [okB] at h1
    by_cases q : i.1 ≤ x <;> by_cases r : i.2 < x <;> by_cases s : x ≤ i.2 <;> simp [inB, q, r, s, -List.countP_map] <;> omega
theorem leB_trans (a b c : Int) : leB a b → leB b c → leB a c := by simp [leB]; omega
theorem leB_total (a b : Int) : (leB a b || leB b a) = true := by simp [leB]; omega
theorem sorted_As (l : List (Int × Int)) : (As l).Pairwise (fun a b => a ≤ b) := by
  have := List.pairwise_mergeSort (le := leB) leB_trans leB_total (lows l)
  exact this.imp (by simp [leB])
theorem sorted_Bs (l : List (Int × Int)) : (Bs l).Pairwise (fun a b => a ≤ b) := by
  have := List.pairwise_mergeSort (le := leB) leB_trans leB_total (highs l)
  exact this.imp (by simp [leB])
theorem cnt_sweep (l : List (Int × Int)) (x : Int) : cnt l x + eB (Bs l) x = (As l).countP (fun h => decide (h ≤ x)) := by
  have h := cnt_split (l.filter okB) (fun i hi => (List.mem_filter.1 hi).2) x
  rw [cnt_filter] at h
  have e1 : eB (Bs l) x = (highs l).countP (fun h => decide (h < x)) := (List.mergeSort_perm (highs l) leB).countP_eq _
  have e2 : (As l).countP (fun h => decide (h ≤ x)) = (lows l).countP (fun h => decide (h ≤ x)) := (List.mergeSort_perm (lows l) leB).countP_eq _
  rw [e1, e2]
  exact h
/-- In a rising list: how many are below, and where they end. -/
theorem count_lt_sorted (B : List Int) (hB : B.Pairwise (fun a b => a ≤ b)) (x : Int) (t : Nat) (ht : t < B.length) : B[t] < x ↔ t < eB B x := by
  induction B generalizing t with
  | nil => simp at ht
  | cons b B ih =>
    obtain ⟨hb, hB'⟩ := List.pairwise_cons.1 hB
    simp only [eB, List.countP_cons]
    by_cases q : b < x
    · simp only [q, decide_true, if_true]
      cases t with
      | zero => simp [q]
      | succ t =>
        have := ih hB' t (by simpa using ht)
        simp only [eB] at this
        simp only [List.getElem_cons_succ]
        rw [this]; omega
    · have hz : B.countP (fun h => decide (h < x)) = 0 := by
        rw [List.countP_eq_zero]
        intro y hy
        have := hb y hy
        simp; omega
      simp only [q, decide_false, hz]
      simp
      cases t with
      | zero => simp; omega
      | succ t =>
        simp only [List.getElem_cons_succ]
        have := hb (B[t]'(by simpa using ht)) (List.getElem_mem _)
        omega
theorem count_le_sorted (B : List Int) (hB : B.Pairwise (fun a b => a ≤ b)) (x : Int) (t : Nat) (ht : t < B.length) : B[t] ≤ x ↔ t < B.countP (fun h => decide (h ≤ x)) := by
  have h := count_lt_sorted B hB (x + 1) t ht
  have e : eB B (x + 1) = B.countP (fun h => decide (h ≤ x)) := by
    unfold eB
    apply List.countP_congr
    intro y _
    simp; omega
  rw [e] at h
  rw [← h]; omega
/-- Behind k rounds: the greatest number so far, and where it was first. -/
structure Best (A B : List Int) (k : Nat) (a b : Int) (m : Int) : Prop where
  le : ∀ j (h : j < A.length), j < k → (j + 1 : Int) - eB B A[j] ≤ m
  nn : 0 ≤ m
  zero : m = 0 → a = 0 ∧ b = 0
  first : 0 < m → ∃ j, ∃ h : j < A.length, j < k ∧ (j + 1 : Int) - eB B A[j] = m ∧ a = A[j] ∧ (∃ h2 : eB B A[j] < B.length, b = B[eB B A[j]]) ∧ ∀ i (hi : i < A.length), i < j → (i + 1 : Int) - eB B A[i] < m
theorem Best.start (A B : List Int) : Best A B 0 0 0 0 := ⟨fun j _ h => absurd h (by omega), by omega, fun _ => ⟨rfl, rfl⟩, fun h => absurd h (by omega)⟩
theorem Best.stay {A B : List Int} {k : Nat} {a b m : Int} (h : Best A B k a b m) (hk : k < A.length) (hle : (k + 1 : Int) - eB B A[k] ≤ m) : Best A B (k + 1) a b m :=
  ⟨fun j hj hjk => by
    rcases (show j < k ∨ j = k from by omega) with q | q
    · exact h.le j hj q
    · subst q; exact hle, h.nn, h.zero, fun h0 => by
    obtain ⟨j, hj, hjk, r⟩ := h.first h0
    exact ⟨j, hj, by omega, r⟩⟩
theorem Best.more {A B : List Int} {k : Nat} {a b m : Int} (h : Best A B k a b m) (hk : k < A.length) (h2 : eB B A[k] < B.length) (hgt : m < (k + 1 : Int) - eB B A[k]) : Best A B (k + 1) A[k] B[eB B A[k]] ((k + 1 : Int) - eB B A[k]) :=
  ⟨fun j hj hjk => by
    rcases (show j < k ∨ j = k from by omega) with q | q
    · have := h.le j hj q; omega
    · subst q; exact Int.le_refl _, by have := h.nn; omega, fun h0 => by have := h.nn; omega, fun _ => ⟨k, hk, by omega, rfl, rfl, ⟨h2, rfl⟩, fun i hi hik => by have := h.le i hi hik; omega⟩⟩
/-- A high that is not below lies there. -/
theorem eB_lt (l : List (Int × Int)) (k : Nat) (hk : k < (As l).length) : eB (Bs l) (As l)[k] < (Bs l).length := by
  have hm : (As l)[k] ∈ lows l := (List.mergeSort_perm (lows l) leB).mem_iff.1 (List.getElem_mem hk)
  obtain ⟨i, hi, he⟩ := List.mem_map.1 hm
  have hok := (List.mem_filter.1 hi).2
  simp [okB] at hok
  have hb : i.2 ∈ Bs l := (List.mergeSort_perm (highs l) leB).mem_iff.2 (List.mem_map.2 ⟨i, hi, rfl⟩)
  unfold eB
  rcases Nat.lt_or_ge ((Bs l).countP fun h => decide (h < (As l)[k])) (Bs l).length with q | q
  · exact q
  · exfalso
    have : (Bs l).countP (fun h => decide (h < (As l)[k])) = (Bs l).length := Nat.le_antisymm List.countP_le_length q
    have := List.countP_eq_length.1 this i.2 hb
    simp at this
    omega
theorem eB_mono (B : List Int) {x y : Int} (h : x ≤ y) : eB B x ≤ eB B y := by
  unfold eB
  apply List.countP_mono_left
  intro z _ hz
  simp at hz ⊢; omega
theorem Best.most {l : List (Int × Int)} {a b m : Int} (h : Best (As l) (Bs l) (As l).length a b m) : MostIs l a b m.toNat := by
  have hsA := sorted_As l
  have hsB := sorted_Bs l
  have hnn := h.nn
  have hcount : ∀ x, cnt l x = 0 ∨ ∃ j, ∃ hj : j < (As l).length, (As l)[j] ≤ x ∧ (cnt l x : Int) ≤ (j + 1 : Int) - eB (Bs l) (As l)[j] := by
    intro x
    have hs := cnt_sweep l x
    rcases Nat.eq_zero_or_pos ((As l).countP (fun h => decide (h ≤ x))) with q | q
    · exact Or.inl (by omega)
    · have hlen : (As l).countP (fun h => decide (h ≤ x)) ≤ (As l).length := List.countP_le_length
      generalize hc : (As l).countP (fun h => decide (h ≤ x)) = c at *
      have hc1 : c - 1 < (As l).length := by omega
      have hle : (As l)[c - 1] ≤ x := (count_le_sorted _ hsA x _ hc1).2 (by omega)
      refine Or.inr ⟨c - 1, hc1, hle, ?_⟩
      have := eB_mono (Bs l) hle
      omega
  have hle : ∀ x, cnt l x ≤ m.toNat := by
    intro x
    rcases hcount x with q | ⟨j, hj, _, q⟩
    · omega
    · have := h.le j hj hj; omega
  refine ⟨hle, fun h0 => h.zero (by omega), ?_, ?_, ?_, ?_⟩
  all_goals have F := fun (h0 : 0 < m.toNat) => h.first (by omega)
  · intro h0
    obtain ⟨j, hj, _, he, ha, ⟨h2, hb⟩, hf⟩ := F h0
    have hs := cnt_sweep l a
    have : j < (As l).countP (fun h => decide (h ≤ a)) := (count_le_sorted _ hsA a j hj).1 (by omega)
    have := hle a
    rw [← ha] at he
    omega
  · intro x hx h0
    obtain ⟨j, hj, _, he, ha, ⟨h2, hb⟩, hf⟩ := F h0
    rcases hcount x with q | ⟨i, hi, hix, q⟩
    · omega
    · have hij : i < j := by
        rcases Nat.lt_or_ge i j with r | r
        · exact r
        · exfalso
          rcases Nat.eq_or_lt_of_le r with r | r
          · subst r; omega
          · have := List.pairwise_iff_getElem.1 hsA j i hj hi r
            omega
      have := hf i hi hij
      omega
  · intro h0
    obtain ⟨j, hj, _, he, ha, ⟨h2, hb⟩, hf⟩ := F h0
    simp only [← ha] at he h2 hb
    have hmB : b ∈ highs l := (List.mergeSort_perm (highs l) leB).mem_iff.1 (by rw [hb]; exact List.getElem_mem _)
    obtain ⟨i, hi, hib⟩ := List.mem_map.1 hmB
    have hok := (List.mem_filter.1 hi).2
    have hil := (List.mem_filter.1 hi).1
    simp [okB] at hok
    have hge : ¬ b < a := by
      rw [hb]
      intro q
      have := (count_lt_sorted _ hsB a _ h2).1 q
      omega
    refine ⟨i, hil, ?_, hib⟩
    rcases Int.lt_or_le a i.1 with q | q
    · exfalso
      -- at i.1 there would be one more
      have hs1 := cnt_sweep l i.1
      have hs0 := cnt_sweep l a
      have e1 : eB (Bs l) i.1 = eB (Bs l) a := by
        apply Nat.le_antisymm
        · rcases Nat.lt_or_ge (eB (Bs l) a) (eB (Bs l) i.1) with r | r
          · exfalso
            have := (count_lt_sorted _ hsB i.1 _ h2).2 r
            rw [← hb] at this
            omega
          · exact r
        · exact eB_mono _ (by omega)
      have hja : j < (As l).countP (fun h => decide (h ≤ a)) := (count_le_sorted _ hsA a j hj).1 (by omega)
      have hmA : i.1 ∈ As l := (List.mergeSort_perm (lows l) leB).mem_iff.2 (List.mem_map.2 ⟨i, hi, rfl⟩)
      obtain ⟨t, ht, hte⟩ := List.mem_iff_getElem.1 hmA
      have h3 : t < (As l).countP (fun h => decide (h ≤ i.1)) := (count_le_sorted _ hsA i.1 t ht).1 (by omega)
      have h4 : ¬ t < (As l).countP (fun h => decide (h ≤ a)) := fun r => by
        have := (count_le_sorted _ hsA a t ht).2 r
        omega
      have := hle i.1
      omega
    · simp [inB]; omega
  · intro i hil h0 hin
    obtain ⟨j, hj, _, he, ha, ⟨h2, hb⟩, hf⟩ := F h0
    simp only [← ha] at he h2 hb
    simp [inB] at hin
    have hiv : i ∈ l.filter okB := List.mem_filter.2 ⟨hil, by simp [okB]; omega⟩
    have hmB : i.2 ∈ Bs l := (List.mergeSort_perm (highs l) leB).mem_iff.2 (List.mem_map.2 ⟨i, hiv, rfl⟩)
    obtain ⟨t, ht, hte⟩ := List.mem_iff_getElem.1 hmB
    rcases Nat.lt_or_ge t (eB (Bs l) a) with q | q
    · have := (count_lt_sorted _ hsB a t ht).2 q
      omega
    · rw [hb, ← hte]
      rcases Nat.eq_or_lt_of_le q with r | r
      · simp [r]
      · exact List.pairwise_iff_getElem.1 hsB _ _ h2 ht r
end Ag
end Go.Proofs.Ytdkcdaknifikeaa
