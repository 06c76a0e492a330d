/- Rows of intervals that the call owns. -/
import Derived.Test.YtepdnkpmkhjlgaaGreatBase
import Derived.Test.YtepdnkpmkhjlgaaGreatInts2
import Derived.Test.YtepdnkpmkhjlgaaGreatCells
import Derived.Deep.AppendLies
import Derived.Laws.OwnMore
import Derived.Sort.OwnSortedInts
import Derived.Test.YtepdnkpmkhjlgaaGreatSortL
import Derived.BigGuard
import Derived.BigGuardPart
import Derived.BigCall
import Derived.Test.YtepdnkpmkhjlgaaGreatLow40
/- What most of some intervals have in common: by a sweep over their ends (plain mathematics). -/
set_option linter.unusedSimpArgs false
set_option linter.unusedVariables false
namespace Go.Proofs.YtepdnkpmkhjlgaaGreat
namespace Ag

def inB (x : Int) (i : Int × Int) : Bool := decide (i.1 ≤ x) && decide (x ≤ i.2)
def cnt (l : List (Int × Int)) (x : Int) : Nat := l.countP (inB x)
/-- What most of l have in common, and how many they are. -/
structure MostIs (l : List (Int × Int)) (a b : Int) (n : Nat) : Prop where
  le : ∀ x, cnt l x ≤ n
  zero : n = 0 → a = 0 ∧ b = 0
  at_ : 0 < n → cnt l a = n
  least : ∀ x, x < a → 0 < n → cnt l x < n
  high : 0 < n → ∃ i ∈ l, inB a i = true ∧ i.2 = b
  low : ∀ i ∈ l, 0 < n → inB a i = true → b ≤ i.2

theorem MostIs.unique {l : List (Int × Int)} {a b a' b' : Int} {n n' : Nat} (h : MostIs l a b n) (k : MostIs l a' b' n') : a = a' ∧ b = b' ∧ n = n' := by
  have hn : n = n' := by
    rcases Nat.eq_zero_or_pos n with h0 | h0
    · rcases Nat.eq_zero_or_pos n' with k0 | k0
      · omega
      · have := k.at_ k0; have := h.le a'; omega
    · have h1 := h.at_ h0
      have h2 := k.le a
      rcases Nat.eq_zero_or_pos n' with k0 | k0
      · omega
      · have := k.at_ k0; have := h.le a'; omega
  subst hn
  rcases Nat.eq_zero_or_pos n with h0 | h0
  · obtain ⟨x, y⟩ := h.zero h0
    obtain ⟨x', y'⟩ := k.zero h0
    exact ⟨by omega, by omega, rfl⟩
  · have ha : a = a' := by
      rcases Int.lt_trichotomy a a' with q | q | q
      · have := k.least a q h0; have := h.at_ h0; omega
      · exact q
      · have := h.least a' q h0; have := k.at_ h0; omega
    subst ha
    obtain ⟨i, hi, hx, rfl⟩ := h.high h0
    obtain ⟨j, hj, hy, rfl⟩ := k.high h0
    have := h.low j hj h0 hy
    have := k.low i hi h0 hx
    exact ⟨rfl, by omega, rfl⟩
theorem cnt_perm {l m : List (Int × Int)} (h : l.Perm m) (x : Int) : cnt l x = cnt m x := h.countP_eq _
theorem MostIs.perm {l m : List (Int × Int)} {a b : Int} {n : Nat} (h : MostIs l a b n) (p : l.Perm m) : MostIs m a b n :=
  ⟨fun x => by rw [← cnt_perm p]; exact h.le x, h.zero, fun h0 => by rw [← cnt_perm p]; exact h.at_ h0, fun x hx h0 => by rw [← cnt_perm p]; exact h.least x hx h0,
   fun h0 => by obtain ⟨i, hi, r⟩ := h.high h0; exact ⟨i, p.mem_iff.1 hi, r⟩, fun i hi => h.low i (p.mem_iff.2 hi)⟩
theorem MostIs.ab {l : List (Int × Int)} {a b : Int} {n : Nat} (h : MostIs l a b n) : a ≤ b := by
  rcases Nat.eq_zero_or_pos n with h0 | h0
  · obtain ⟨x, y⟩ := h.zero h0; omega
  · obtain ⟨i, hi, hx, rfl⟩ := h.high h0
    simp [inB] at hx; omega
/-- As many as there are at all points of what is told. -/
theorem MostIs.within {l : List (Int × Int)} {a b : Int} {n : Nat} (h : MostIs l a b n) (h0 : 0 < n) : l.countP (fun i => decide (i.1 ≤ a) && decide (b ≤ i.2)) = n := by
  rw [← h.at_ h0]
  unfold cnt
  apply List.countP_congr
  intro i hi
  have := h.low i hi h0
  have hab := h.ab
  simp only [inB, Bool.and_eq_true, decide_eq_true_eq] at this ⊢
  constructor
  · rintro ⟨x, y⟩; exact ⟨x, by omega⟩
  · rintro ⟨x, y⟩; exact ⟨x, this ⟨x, y⟩⟩

/-! The sweep. -/
def okB (i : Int × Int) : Bool := decide (i.1 ≤ i.2)
def lows (l : List (Int × Int)) : List Int := (l.filter okB).map (·.1)
def highs (l : List (Int × Int)) : List Int := (l.filter okB).map (·.2)
def leB (x y : Int) : Bool := decide (x ≤ y)
def As (l : List (Int × Int)) : List Int := (lows l).mergeSort leB
def Bs (l : List (Int × Int)) : List Int := (highs l).mergeSort leB
theorem cnt_filter (l : List (Int × Int)) (x : Int) : cnt (l.filter okB) x = cnt l x := by
  unfold cnt
  rw [List.countP_filter]
  apply List.countP_congr
  intro i _
  simp [inB, okB]
  omega
theorem lens (l : List (Int × Int)) : (As l).length = (l.filter okB).length ∧ (Bs l).length = (l.filter okB).length := by
  simp [As, Bs, lows, highs]
/-- How many highs lie below. -/
def eB (B : List Int) (x : Int) : Nat := B.countP fun h => decide (h < x)
theorem cnt_split (v : List (Int × Int)) (hv : ∀ i ∈ v, okB i = true) (x : Int) : cnt v x + (v.map (·.2)).countP (fun h => decide (h < x)) = (v.map (·.1)).countP (fun h => decide (h ≤ x)) := by
  induction v with
  | nil => rfl
  | cons i v ih =>
    have h1 := hv i (by simp)
    have h2 := ih fun j hj => hv j (by simp [hj])
    simp only [cnt, List.map_cons, List.countP_cons] at h2 ⊢
    simp [okB] at h1
    by_cases q : i.1 ≤ x <;> by_cases r : i.2 < x <;> by_cases s : x ≤ i.2 <;> simp [inB, q, r, s, -List.countP_map] <;> omega
theorem leB_trans (a b c : Int) : leB a b → leB b c → leB a c := by simp [leB]; omega
theorem leB_total (a b : Int) : (leB a b || leB b a) = true := by simp [leB]; omega
theorem sorted_As (l : List (Int × Int)) : (As l).Pairwise (fun a b => a ≤ b) := by
  have := List.pairwise_mergeSort (le := leB) leB_trans leB_total (lows l)
  exact this.imp (by simp [leB])
theorem sorted_Bs (l : List (Int × Int)) : (Bs l).Pairwise (fun a b => a ≤ b) := by
  have := List.pairwise_mergeSort (le := leB) leB_trans leB_total (highs l)
  exact this.imp (by simp [leB])
theorem cnt_sweep (l : List (Int × Int)) (x : Int) : cnt l x + eB (Bs l) x = (As l).countP (fun h => decide (h ≤ x)) := by
  have h := cnt_split (l.filter okB) (fun i hi => (List.mem_filter.1 hi).2) x
  rw [cnt_filter] at h
  have e1 : eB (Bs l) x = (highs l).countP (fun h => decide (h < x)) := (List.mergeSort_perm (highs l) leB).countP_eq _
  have e2 : (As l).countP (fun h => decide (h ≤ x)) = (lows l).countP (fun h => decide (h ≤ x)) := (List.mergeSort_perm (lows l) leB).countP_eq _
  rw [e1, e2]
  exact h
/-- In a rising list: how many are below, and where they end. -/
theorem count_lt_sorted (B : List Int) (hB : B.Pairwise (fun a b => a ≤ b)) (x : Int) (t : Nat) (ht : t < B.length) : B[t] < x ↔ t < eB B x := by
  induction B generalizing t with
  | nil => simp at ht
  | cons b B ih =>
    obtain ⟨hb, hB'⟩ := List.pairwise_cons.1 hB
    simp only [eB, List.countP_cons]
    by_cases q : b < x
    · simp only [q, decide_true, if_true]
      cases t with
      | zero => simp [q]
      | succ t =>
        have := ih hB' t (by simpa using ht)
        simp only [eB] at this
        simp only [List.getElem_cons_succ]
        rw [this]; omega
    · have hz : B.countP (fun h => decide (h < x)) = 0 := by
        rw [List.countP_eq_zero]
        intro y hy
        have := hb y hy
        simp; omega
      simp only [q, decide_false, hz]
      simp
      cases t with
      | zero => simp; omega
      | succ t =>
        simp only [List.getElem_cons_succ]
        have := hb (B[t]'(by simpa using ht)) (List.getElem_mem _)
        omega
theorem count_le_sorted (B : List Int) (hB : B.Pairwise (fun a b => a ≤ b)) (x : Int) (t : Nat) (ht : t < B.length) : B[t] ≤ x ↔ t < B.countP (fun h => decide (h ≤ x)) := by
  have h := count_lt_sorted B hB (x + 1) t ht
  have e : eB B (x + 1) = B.countP (fun h => decide (h ≤ x)) := by
    unfold eB
    apply List.countP_congr
    intro y _
    simp; omega
  rw [e] at h
  rw [← h]; omega
/-- Behind k rounds: the greatest number so far, and where it was first. -/
structure Best (A B : List Int) (k : Nat) (a b : Int) (m : Int) : Prop where
  le : ∀ j (h : j < A.length), j < k → (j + 1 : Int) - eB B A[j] ≤ m
  nn : 0 ≤ m
  zero : m = 0 → a = 0 ∧ b = 0
  first : 0 < m → ∃ j, ∃ h : j < A.length, j < k ∧ (j + 1 : Int) - eB B A[j] = m ∧ a = A[j] ∧ (∃ h2 : eB B A[j] < B.length, b = B[eB B A[j]]) ∧ ∀ i (hi : i < A.length), i < j → (i + 1 : Int) - eB B A[i] < m
theorem Best.start (A B : List Int) : Best A B 0 0 0 0 := ⟨fun j _ h => absurd h (by omega), by omega, fun _ => ⟨rfl, rfl⟩, fun h => absurd h (by omega)⟩
theorem Best.stay {A B : List Int} {k : Nat} {a b m : Int} (h : Best A B k a b m) (hk : k < A.length) (hle : (k + 1 : Int) - eB B A[k] ≤ m) : Best A B (k + 1) a b m :=
  ⟨fun j hj hjk => by
    rcases (show j < k ∨ j = k from by omega) with q | q
    · exact h.le j hj q
    · subst q; exact hle, h.nn, h.zero, fun h0 => by
    obtain ⟨j, hj, hjk, r⟩ := h.first h0
    exact ⟨j, hj, by omega, r⟩⟩
theorem Best.more {A B : List Int} {k : Nat} {a b m : Int} (h : Best A B k a b m) (hk : k < A.length) (h2 : eB B A[k] < B.length) (hgt : m < (k + 1 : Int) - eB B A[k]) : Best A B (k + 1) A[k] B[eB B A[k]] ((k + 1 : Int) - eB B A[k]) :=
  ⟨fun j hj hjk => by
    rcases (show j < k ∨ j = k from by omega) with q | q
    · have := h.le j hj q; omega
    · subst q; exact Int.le_refl _, by have := h.nn; omega, fun h0 => by have := h.nn; omega, fun _ => ⟨k, hk, by omega, rfl, rfl, ⟨h2, rfl⟩, fun i hi hik => by have := h.le i hi hik; omega⟩⟩
/-- A high that is not below lies there. -/
theorem eB_lt (l : List (Int × Int)) (k : Nat) (hk : k < (As l).length) : eB (Bs l) (As l)[k] < (Bs l).length := by
  have hm : (As l)[k] ∈ lows l := (List.mergeSort_perm (lows l) leB).mem_iff.1 (List.getElem_mem hk)
  obtain ⟨i, hi, he⟩ := List.mem_map.1 hm
  have hok := (List.mem_filter.1 hi).2
  simp [okB] at hok
  have hb : i.2 ∈ Bs l := (List.mergeSort_perm (highs l) leB).mem_iff.2 (List.mem_map.2 ⟨i, hi, rfl⟩)
  unfold eB
  rcases Nat.lt_or_ge ((Bs l).countP fun h => decide (h < (As l)[k])) (Bs l).length with q | q
  · exact q
  · exfalso
    have : (Bs l).countP (fun h => decide (h < (As l)[k])) = (Bs l).length := Nat.le_antisymm List.countP_le_length q
    have := List.countP_eq_length.1 this i.2 hb
    simp at this
    omega
theorem eB_mono (B : List Int) {x y : Int} (h : x ≤ y) : eB B x ≤ eB B y := by
  unfold eB
  apply List.countP_mono_left
  intro z _ hz
  simp at hz ⊢; omega
theorem Best.most {l : List (Int × Int)} {a b m : Int} (h : Best (As l) (Bs l) (As l).length a b m) : MostIs l a b m.toNat := by
  have hsA := sorted_As l
  have hsB := sorted_Bs l
  have hnn := h.nn
  have hcount : ∀ x, cnt l x = 0 ∨ ∃ j, ∃ hj : j < (As l).length, (As l)[j] ≤ x ∧ (cnt l x : Int) ≤ (j + 1 : Int) - eB (Bs l) (As l)[j] := by
    intro x
    have hs := cnt_sweep l x
    rcases Nat.eq_zero_or_pos ((As l).countP (fun h => decide (h ≤ x))) with q | q
    · exact Or.inl (by omega)
    · have hlen : (As l).countP (fun h => decide (h ≤ x)) ≤ (As l).length := List.countP_le_length
      generalize hc : (As l).countP (fun h => decide (h ≤ x)) = c at *
      have hc1 : c - 1 < (As l).length := by omega
      have hle : (As l)[c - 1] ≤ x := (count_le_sorted _ hsA x _ hc1).2 (by omega)
      refine Or.inr ⟨c - 1, hc1, hle, ?_⟩
      have := eB_mono (Bs l) hle
      omega
  have hle : ∀ x, cnt l x ≤ m.toNat := by
    intro x
    rcases hcount x with q | ⟨j, hj, _, q⟩
    · omega
    · have := h.le j hj hj; omega
  refine ⟨hle, fun h0 => h.zero (by omega), ?_, ?_, ?_, ?_⟩
  all_goals have F := fun (h0 : 0 < m.toNat) => h.first (by omega)
  · intro h0
    obtain ⟨j, hj, _, he, ha, ⟨h2, hb⟩, hf⟩ := F h0
    have hs := cnt_sweep l a
    have : j < (As l).countP (fun h => decide (h ≤ a)) := (count_le_sorted _ hsA a j hj).1 (by omega)
    have := hle a
    rw [← ha] at he
    omega
  · intro x hx h0
    obtain ⟨j, hj, _, he, ha, ⟨h2, hb⟩, hf⟩ := F h0
    rcases hcount x with q | ⟨i, hi, hix, q⟩
    · omega
    · have hij : i < j := by
        rcases Nat.lt_or_ge i j with r | r
        · exact r
        · exfalso
          rcases Nat.eq_or_lt_of_le r with r | r
          · subst r; omega
          · have := List.pairwise_iff_getElem.1 hsA j i hj hi r
            omega
      have := hf i hi hij
      omega
  · intro h0
    obtain ⟨j, hj, _, he, ha, ⟨h2, hb⟩, hf⟩ := F h0
    simp only [← ha] at he h2 hb
    have hmB : b ∈ highs l := (List.mergeSort_perm (highs l) leB).mem_iff.1 (by rw [hb]; exact List.getElem_mem _)
    obtain ⟨i, hi, hib⟩ := List.mem_map.1 hmB
    have hok := (List.mem_filter.1 hi).2
    have hil := (List.mem_filter.1 hi).1
    simp [okB] at hok
    have hge : ¬ b < a := by
      rw [hb]
      intro q
      have := (count_lt_sorted _ hsB a _ h2).1 q
      omega
    refine ⟨i, hil, ?_, hib⟩
    rcases Int.lt_or_le a i.1 with q | q
    · exfalso
      -- at i.1 there would be one more
      have hs1 := cnt_sweep l i.1
      have hs0 := cnt_sweep l a
      have e1 : eB (Bs l) i.1 = eB (Bs l) a := by
        apply Nat.le_antisymm
        · rcases Nat.lt_or_ge (eB (Bs l) a) (eB (Bs l) i.1) with r | r
          · exfalso
            have := (count_lt_sorted _ hsB i.1 _ h2).2 r
            rw [← hb] at this
            omega
          · exact r
        · exact eB_mono _ (by omega)
      have hja : j < (As l).countP (fun h => decide (h ≤ a)) := (count_le_sorted _ hsA a j hj).1 (by omega)
      have hmA : i.1 ∈ As l := (List.mergeSort_perm (lows l) leB).mem_iff.2 (List.mem_map.2 ⟨i, hi, rfl⟩)
      obtain ⟨t, ht, hte⟩ := List.mem_iff_getElem.1 hmA
      have h3 : t < (As l).countP (fun h => decide (h ≤ i.1)) := (count_le_sorted _ hsA i.1 t ht).1 (by omega)
      have h4 : ¬ t < (As l).countP (fun h => decide (h ≤ a)) := fun r => by
        have := (count_le_sorted _ hsA a t ht).2 r
        omega
      have := hle i.1
      omega
    · simp [inB]; omega
  · intro i hil h0 hin
    obtain ⟨j, hj, _, he, ha, ⟨h2, hb⟩, hf⟩ := F h0
    simp only [← ha] at he h2 hb
    simp [inB] at hin
    have hiv : i ∈ l.filter okB := List.mem_filter.2 ⟨hil, by simp [okB]; omega⟩
    have hmB : i.2 ∈ Bs l := (List.mergeSort_perm (highs l) leB).mem_iff.2 (List.mem_map.2 ⟨i, hiv, rfl⟩)
    obtain ⟨t, ht, hte⟩ := List.mem_iff_getElem.1 hmB
    rcases Nat.lt_or_ge t (eB (Bs l) a) with q | q
    · have := (count_lt_sorted _ hsB a t ht).2 q
      omega
    · rw [hb, ← hte]
      rcases Nat.eq_or_lt_of_le q with r | r
      · simp [r]
      · exact List.pairwise_iff_getElem.1 hsB _ _ h2 ht r
end Ag
end Go.Proofs.YtepdnkpmkhjlgaaGreat

/- Two rows of ints that the call owns. -/
namespace Go.Proofs.YtepdnkpmkhjlgaaGreat
open Go.RowKit

theorem int_info : (Tryz.prog.info? 3).map (fun i => (i.zero, i.size, i.bytes)) = some (some (.int .i64 0), 1, 8) := by kernel_rfl
/-- Two rows, of blocks of their own. -/
structure Two (base : Nat) (W : World) (v u : Value) (xs ys : List Int) : Prop where
  a : W.ownsRow base 3 1 v xs.length (xs.map (Value.int .i64))
  b : W.ownsRow base 3 1 u ys.length (ys.map (Value.int .i64))
  ne : ∀ k, v.ownBlock = some k → u.ownBlock ≠ some k
theorem Two.swap {base : Nat} {W : World} {v u : Value} {xs ys : List Int} (h : Two base W v u xs ys) : Two base W u v ys xs := ⟨h.b, h.a, fun k hk he => h.ne k he hk⟩
theorem Two.start (base : Nat) (W : World) : Two base W (.slice none 0 0) (.slice none 0 0) [] [] := ⟨World.ownsRow_nil _ _ _ _, World.ownsRow_nil _ _ _ _, fun k hk => by simp [Value.ownBlock] at hk⟩
theorem Two.alloc {base : Nat} {W : World} {v u : Value} {xs ys : List Int} (h : Two base W v u xs ys) (o : Obj) : Two base (W.alloc o) v u xs ys := ⟨h.a.alloc o, h.b.alloc o, h.ne⟩
theorem Two.drewN {base : Nat} {W : World} {v u : Value} {xs ys : List Int} (h : Two base W v u xs ys) (n : Nat) : Two base (W.drewN n) v u xs ys := ⟨h.a, h.b, h.ne⟩
theorem Two.drew {base : Nat} {W : World} {v u : Value} {xs ys : List Int} (h : Two base W v u xs ys) : Two base W.drew v u xs ys := ⟨h.a, h.b, h.ne⟩
theorem Two.growA {base g cap : Nat} {W W' : World} {v u : Value} {xs ys : List Int} {x : Int} (h : Two base W v u xs ys)
    (hown : W'.ownsRow base 3 1 (.slice (some ⟨g, 0, none⟩) (xs.length + 1) cap) (xs.length + 1) (xs.map (Value.int .i64) ++ [.int .i64 x]))
    (hg : W.grownBy W' v.ownBlock) (hat : v.ownBlock = some g ∨ g = W.heap.size) : Two base W' (.slice (some ⟨g, 0, none⟩) (xs.length + 1) cap) u (xs ++ [x]) ys := by
  refine ⟨by simpa using hown, h.b.kept hg ?_, fun k hk he => ?_⟩
  · cases hu : u.ownBlock with
    | none => exact .inl rfl
    | some k => exact .inr fun e => h.ne k e.symm hu
  · have : g = k := by simpa [Value.ownBlock] using hk
    subst this
    rcases hat with q | q
    · exact h.ne g q he
    · have := (h.b.lt g he).2
      omega
theorem Two.growB {base g cap : Nat} {W W' : World} {v u : Value} {xs ys : List Int} {x : Int} (h : Two base W v u xs ys)
    (hown : W'.ownsRow base 3 1 (.slice (some ⟨g, 0, none⟩) (ys.length + 1) cap) (ys.length + 1) (ys.map (Value.int .i64) ++ [.int .i64 x]))
    (hg : W.grownBy W' u.ownBlock) (hat : u.ownBlock = some g ∨ g = W.heap.size) : Two base W' v (.slice (some ⟨g, 0, none⟩) (ys.length + 1) cap) xs (ys ++ [x]) := (h.swap.growA hown hg hat).swap
/-- Two ints at a block that is no row's. -/
theorem Ints2.grown {W W' : World} {b : Nat} {x y : Int} {row : Option Nat} (h : Ints2 W b x y) (hg : W.grownBy W' row) (hn : some b ≠ row) : Ints2 W' b x y := by
  have hb := hg.block b h.lt hn
  exact ⟨(World.cell?_of_block (a := ⟨b, 0, none⟩) hb).trans h.c0, (World.cell?_of_block (a := ⟨b, 1, none⟩) hb).trans h.c1, (World.frozen?_of_block (a := ⟨b, 0, none⟩) hb).trans h.f0, (World.frozen?_of_block (a := ⟨b, 1, none⟩) hb).trans h.f1, Nat.lt_of_lt_of_le h.lt hg.size⟩
theorem Two.kept {base : Nat} {W W' : World} {v u : Value} {xs ys : List Int} {row : Option Nat} (h : Two base W v u xs ys) (hg : W.grownBy W' row) (h1 : v.ownBlock = none ∨ v.ownBlock ≠ row) (h2 : u.ownBlock = none ∨ u.ownBlock ≠ row) : Two base W' v u xs ys := ⟨h.a.kept hg h1, h.b.kept hg h2, h.ne⟩
/-- A cell of a block of its own that is no row's. -/
structure Pend (W : World) (v u : Value) (b : Nat) (x : Int) : Prop where
  c : W.cell? ⟨b, 0, none⟩ = some (.int .i64 x)
  lt : b < W.heap.size
  nv : v.ownBlock ≠ some b
  nu : u.ownBlock ≠ some b
theorem Pend.alloc {W : World} {v u : Value} {b : Nat} {x : Int} (h : Pend W v u b x) (o : Obj) : Pend (W.alloc o) v u b x :=
  ⟨(World.cell?_alloc_past o b 0 h.lt).trans h.c, by have := h.lt; simp; omega, h.nv, h.nu⟩
theorem Pend.new {base : Nat} {W : World} {v u : Value} {xs ys : List Int} (h : Two base W v u xs ys) (x : Int) (t : TypeId) : Pend (W.alloc (.cells #[.int .i64 x] t)) v u W.heap.size x :=
  ⟨by simp, by simp, fun e => by have := (h.a.lt _ e).2; omega, fun e => by have := (h.b.lt _ e).2; omega⟩
theorem Pend.grown {W W' : World} {v u : Value} {b : Nat} {x : Int} (h : Pend W v u b x) {row : Option Nat} (hg : W.grownBy W' row) (hn : row ≠ some b) {v' u' : Value} (nv : v'.ownBlock ≠ some b) (nu : u'.ownBlock ≠ some b) : Pend W' v' u' b x :=
  ⟨(World.cell?_of_block (a := ⟨b, 0, none⟩) (hg.block b h.lt (fun e => hn e.symm))).trans h.c, Nat.lt_of_lt_of_le h.lt hg.size, nv, nu⟩
theorem Pend.appA {W W' : World} {v u : Value} {b g cap n : Nat} {x : Int} (h : Pend W v u b x) (hg : W.grownBy W' v.ownBlock) (hat : v.ownBlock = some g ∨ g = W.heap.size) : Pend W' (.slice (some ⟨g, 0, none⟩) n cap) u b x :=
  h.grown hg h.nv (fun e => by
    have e : g = b := by simpa [Value.ownBlock] using e
    rcases hat with q | q
    · exact h.nv (by rw [q, e])
    · have := h.lt; omega) h.nu
theorem Pend.appB {W W' : World} {v u : Value} {b g cap n : Nat} {x : Int} (h : Pend W v u b x) (hg : W.grownBy W' u.ownBlock) (hat : u.ownBlock = some g ∨ g = W.heap.size) : Pend W' v (.slice (some ⟨g, 0, none⟩) n cap) b x :=
  h.grown hg h.nu h.nv (fun e => by
    have e : g = b := by simpa [Value.ownBlock] using e
    rcases hat with q | q
    · exact h.nu (by rw [q, e])
    · have := h.lt; omega)
theorem Pend.news {W : World} {v u : Value} {b : Nat} {x : Int} (h : Pend W v u b x) : ∀ j y, ([.int .i64 x] : List Value)[j]? = some y → W.cell? ((⟨b, 0, none⟩ : Addr).add j) = some y := by
  intro j y hj
  cases j with
  | zero => simp at hj; subst hj; exact h.c
  | succ j => simp at hj
/-- Two rows and a pair beside them, while a call runs that began at w. -/
structure St (bx : Nat) (w W : World) (v u : Value) (xs ys : List Int) (lo hi : Int) : Prop where
  two : Two (w.heap.size + 1) W v u xs ys
  box : Ints2 W bx lo hi
  hb : Below w.heap.size w W
  lt : w.heap.size < W.heap.size
  nv : v.ownBlock ≠ some bx
  nu : u.ownBlock ≠ some bx
  out : Ints2 W w.heap.size 0 0
theorem St.held {bx : Nat} {w W : World} {v u : Value} {xs ys : List Int} {lo hi : Int} (h : St bx w W v u xs ys lo hi) : W.cell? ⟨bx, 0, none⟩ = some (.int .i64 lo) ∧ W.cell? ⟨bx, 1, none⟩ = some (.int .i64 hi) := ⟨h.box.c0, h.box.c1⟩
theorem St.drew {bx : Nat} {w W : World} {v u : Value} {xs ys : List Int} {lo hi : Int} (h : St bx w W v u xs ys lo hi) : St bx w W.drew v u xs ys lo hi := ⟨h.two.drew, h.box.drew, h.hb.drew, h.lt, h.nv, h.nu, h.out.drew⟩
theorem St.alloc {bx : Nat} {w W : World} {v u : Value} {xs ys : List Int} {lo hi : Int} (h : St bx w W v u xs ys lo hi) (o : Obj) : St bx w (W.alloc o) v u xs ys lo hi := ⟨h.two.alloc o, h.box.alloc o, h.hb.alloc h.hb.size o, by have := h.lt; simp; omega, h.nv, h.nu, h.out.alloc o⟩
theorem St.appA {bx g cap : Nat} {w W W' : World} {v u : Value} {xs ys : List Int} {lo hi x : Int} (h : St bx w W v u xs ys lo hi)
    (hown : W'.ownsRow (w.heap.size + 1) 3 1 (.slice (some ⟨g, 0, none⟩) (xs.length + 1) cap) (xs.length + 1) (xs.map (Value.int .i64) ++ [.int .i64 x]))
    (hg : W.grownBy W' v.ownBlock) (hat : v.ownBlock = some g ∨ g = W.heap.size) : St bx w W' (.slice (some ⟨g, 0, none⟩) (xs.length + 1) cap) u (xs ++ [x]) ys lo hi :=
  ⟨h.two.growA hown hg hat, h.box.grown hg (fun e => h.nv e.symm), h.hb.grown hg h.hb.size (fun k hk => by have := (h.two.a.lt k hk).1; omega), Nat.lt_of_lt_of_le h.lt hg.size, fun e => by
    have e : g = bx := by simpa [Value.ownBlock] using e
    rcases hat with q | q
    · exact h.nv (by rw [q, e])
    · have := h.box.lt; omega, h.nu, h.out.grown hg (fun e => by have := (h.two.a.lt _ e.symm).1; omega)⟩
theorem St.appB {bx g cap : Nat} {w W W' : World} {v u : Value} {xs ys : List Int} {lo hi x : Int} (h : St bx w W v u xs ys lo hi)
    (hown : W'.ownsRow (w.heap.size + 1) 3 1 (.slice (some ⟨g, 0, none⟩) (ys.length + 1) cap) (ys.length + 1) (ys.map (Value.int .i64) ++ [.int .i64 x]))
    (hg : W.grownBy W' u.ownBlock) (hat : u.ownBlock = some g ∨ g = W.heap.size) : St bx w W' v (.slice (some ⟨g, 0, none⟩) (ys.length + 1) cap) xs (ys ++ [x]) lo hi :=
  ⟨h.two.growB hown hg hat, h.box.grown hg (fun e => h.nu e.symm), h.hb.grown hg h.hb.size (fun k hk => by have := (h.two.b.lt k hk).1; omega), Nat.lt_of_lt_of_le h.lt hg.size, h.nv, fun e => by
    have e : g = bx := by simpa [Value.ownBlock] using e
    rcases hat with q | q
    · exact h.nu (by rw [q, e])
    · have := h.box.lt; omega, h.out.grown hg (fun e => by have := (h.two.b.lt _ e.symm).1; omega)⟩
end Go.Proofs.YtepdnkpmkhjlgaaGreat

/- agree.Most of any intervals (written by gen/most.py). -/
namespace Go.Proofs.YtepdnkpmkhjlgaaGreat
open Go.RowKit

def ivs (z : Nat → Int) (n : Nat) : List (Int × Int) := (List.range n).map fun j => (z (j * 2), z (j * 2 + 1))
theorem ivs_succ (z : Nat → Int) (n : Nat) : ivs z (n + 1) = ivs z n ++ [(z (n * 2), z (n * 2 + 1))] := by simp [ivs, List.range_succ]
theorem ivs_len (z : Nat → Int) (n : Nat) : (ivs z n).length = n := by simp [ivs]
theorem lows_le (l : List (Int × Int)) : (Ag.lows l).length ≤ l.length ∧ (Ag.highs l).length = (Ag.lows l).length := by
  simp [Ag.lows, Ag.highs]
  exact List.length_filter_le _ _
theorem lows_yes (l : List (Int × Int)) (a b : Int) (h : a ≤ b) : Ag.lows (l ++ [(a, b)]) = Ag.lows l ++ [a] ∧ Ag.highs (l ++ [(a, b)]) = Ag.highs l ++ [b] := by
  simp [Ag.lows, Ag.highs, List.filter_append, Ag.okB, h, List.filter_cons]
theorem lows_no (l : List (Int × Int)) (a b : Int) (h : b < a) : Ag.lows (l ++ [(a, b)]) = Ag.lows l ∧ Ag.highs (l ++ [(a, b)]) = Ag.highs l := by
  have h' : ¬ a ≤ b := by omega
  simp [Ag.lows, Ag.highs, List.filter_append, Ag.okB, h', List.filter_cons]
theorem sort_own (base : Nat) (v : Value) (xs : List Int) (W : World) (h : W.ownsRow base 3 1 v xs.length (xs.map (Value.int .i64))) (hl : xs.length < 4611686018427387904) :
    Calls Tryz.prog 88 #[v] W fun e W' => e = .returned (.tuple #[]) ∧ W.grownBy W' v.ownBlock ∧ W'.ownsRow base 3 1 v xs.length ((xs.mergeSort Ag.leB).map (Value.int .i64)) := by
  rcases h.2 with ⟨rfl, h0⟩ | ⟨g, cap, cur, rfl, hbase, hb, h1, h2, h3, h4⟩
  · have hx : xs = [] := List.length_eq_zero_iff.1 h0
    subst hx
    refine (Any.slices_Sort_int_none Tryz.lays189 none 0 W).mono ?_
    rintro e W' ⟨rfl, rfl⟩
    exact ⟨rfl, ⟨rfl, rfl, rfl, Nat.le_refl _, fun _ _ _ => rfl⟩, by simpa using h⟩
  · refine (Any.slices_Sort_int Tryz.lays189 g 0 cap xs W (holds_of_blockI hb (by simpa using h4)) ((Array.getElem?_eq_some_iff.1 hb).1) hl).mono ?_
    rintro e W' ⟨rfl, nn, os, rfl⟩
    exact ⟨rfl, grownBy_sortedI _, ownsRow_sortedI (by simp) hbase hb h1 h2 h3⟩
/-- A row's cells, one by one. -/
def RowAt (W : World) (p : Option Addr) (l : List Int) : Prop := 0 < l.length → ∃ B, p = some ⟨B, 0, none⟩ ∧ B < W.heap.size ∧ ∀ j (h : j < l.length), W.cell? ⟨B, j, none⟩ = some (.int .i64 l[j])
theorem own_row {W : World} {base : Nat} {e : TypeId} {v : Value} {l : List Int} (h : W.ownsRow base e 1 v l.length (l.map (Value.int .i64))) : ∃ p c, v = .slice p l.length c ∧ RowAt W p l := by
  have hc0 := fun g hg => h.cells (g := g) hg
  rcases h.2 with ⟨rfl, h0⟩ | ⟨g, cap, cur, rfl, hb', hh, _⟩
  · exact ⟨none, 0, by rw [h0], fun hn => absurd hn (by omega)⟩
  · refine ⟨_, _, rfl, fun hn => ⟨g, rfl, (h.lt g rfl).2, fun j hj => ?_⟩⟩
    have := hc0 g rfl j (.int .i64 l[j]) (by simp [hj])
    rwa [at_add, Nat.zero_add] at this
/-- A row's cells, off a block. -/
def RowOff (W : World) (p : Option Addr) (l : List Int) (bx : Nat) : Prop := 0 < l.length → ∃ B, p = some ⟨B, 0, none⟩ ∧ B < W.heap.size ∧ B ≠ bx ∧ ∀ j (h : j < l.length), W.cell? ⟨B, j, none⟩ = some (.int .i64 l[j])
theorem RowAt.off {W : World} {p : Option Addr} {l : List Int} (h : RowAt W p l) (o : Obj) : RowOff (W.alloc o) p l W.heap.size := by
  intro h0
  obtain ⟨B, rfl, hB, hc⟩ := h h0
  exact ⟨B, rfl, by simp; omega, by omega, fun j hj => (World.cell?_alloc_past o B j hB).trans (hc j hj)⟩
theorem RowOff.only {W W' : World} {p : Option Addr} {l : List Int} {bx : Nat} (h : RowOff W p l bx) (k : Only bx W W') : RowOff W' p l bx := by
  intro h0
  obtain ⟨B, rfl, hB, hn, hc⟩ := h h0
  exact ⟨B, rfl, Nat.lt_of_lt_of_le hB k.size, hn, fun j hj => (k.cell B j hB hn).trans (hc j hj)⟩
/-- Where the highs behind k lows begin. -/
def endK (A B : List Int) : Nat → Nat
  | 0 => 0
  | k + 1 => Ag.eB B (A.getD k 0)
theorem endK_le {A B : List Int} (hA : A.Pairwise (fun a b => a ≤ b)) (k : Nat) (hk : k < A.length) : endK A B k ≤ Ag.eB B A[k] := by
  cases k with
  | zero => exact Nat.zero_le _
  | succ k =>
    refine Ag.eB_mono B ?_
    rw [List.getD_eq_getElem?_getD, List.getElem?_eq_getElem (by omega)]
    exact List.pairwise_iff_getElem.1 hA k (k + 1) (by omega) hk (by omega)
/-- Behind k rounds of the second loop. -/
def Lp2 (A B : List Int) (w W3 wr : World) (bx k : Nat) (m o t : Value) : Prop := ∃ a b mm : Int, m = .int .i64 mm ∧ o = .int .i64 ((k : Int) - (endK A B k : Int)) ∧ t = .int .i64 (endK A B k : Int) ∧ Ag.Best A B k a b mm ∧ Ints2 wr bx a b ∧ Ints2 wr w.heap.size 0 0 ∧ Only bx W3 wr
/-- Behind k rounds of the first loop. -/
def Lp1 (z : Nat → Int) (w wr : World) (k : Nat) (v u : Value) : Prop := Two (w.heap.size + 1) wr v u (Ag.lows (ivs z k)) (Ag.highs (ivs z k)) ∧ Below w.heap.size w wr ∧ Ints2 wr w.heap.size 0 0
/-- What most of some intervals have in common is told. -/
def SomeMost (l : List (Int × Int)) (w : World) (e : Ending) (w' : World) : Prop := ∃ a b, ∃ m : Nat, e = .returned (.tuple #[.agg #[.int .i64 a, .int .i64 b], .int .i64 m]) ∧ Ag.MostIs l a b m ∧ Below w.heap.size w w'
set_option maxRecDepth 100000 in
set_option maxHeartbeats 4000000 in
theorem most_any (z : Nat → Int) (A : Option Addr) (n c : Nat) (w : World) (hn : n ≤ 100000) (hz : FlatAt w A 2 n z) :
    Calls Tryz.prog 70 #[.slice A n c] w (SomeMost (ivs z n) w) := by
  obtain ⟨i0, hi0, hz0, hz1, hz2⟩ := info_parts int_info
  have HZ := Lib.hid hz
  have hL0 : Lp1 z w (w.alloc (.cells #[.int .i64 0, .int .i64 0] 67)) 0 (.slice none 0 0) (.slice none 0 0) := ⟨Two.start _ _, by (repeat' (first | (with_reducible exact Below.refl _ _) | (with_reducible assumption) | (with_reducible refine Below.trans ?_ (Below.mono (by with_reducible assumption) ?_)) | (with_reducible refine Below.alloc ?_ ?_ _) | (with_reducible refine Below.setCell ?_ ?_ _) | (with_reducible refine below_drewN ?_ _) | (with_reducible refine Below.drew ?_) | go_size)), Ints2.new w 0 0 67⟩
  have HL0 := Lib.hid hL0
  clear hz hL0
  go_enter Tryz.func70, Tryz.ntmps70
  go_wp2
  go_loopw [4, 5, 16] (fun v u i wr => ∃ k : Nat, k ≤ n ∧ i = .int .i64 k ∧ Lp1 z w wr k v u) (fun _ _ i _ => n - (intOf i).toNat)
  case atStart => exact ⟨0, Nat.zero_le _, rfl, HL0.out⟩
  case round =>
    obtain ⟨k, hk, rfl, hT, HB, hO⟩ := hrel
    clear HL0
    have zr : w.heap.size < wr.heap.size := hO.lt
    by_cases hlt : k < n
    · obtain ⟨B, O, rfl, hB, hcells⟩ := HZ.out (by omega)
      have x0 : wr.cell? ⟨B, O + k * 2, none⟩ = some (.int .i64 (z (k * 2))) := (HB.cell (p := ⟨B, O + k * 2, none⟩) hB).trans (hcells (k * 2) (by omega)).1
      have x1 : wr.cell? ⟨B, O + k * 2 + 1, none⟩ = some (.int .i64 (z (k * 2 + 1))) := (HB.cell (p := ⟨B, O + (k * 2 + 1), none⟩) hB).trans (hcells (k * 2 + 1) (by omega)).1
      have hv := ivs_succ z k
      have hll := lows_le (ivs z k)
      rw [ivs_len] at hll
      have hy := lows_yes (ivs z k) (z (k * 2)) (z (k * 2 + 1))
      have hno := lows_no (ivs z k) (z (k * 2)) (z (k * 2 + 1))
      rw [← hv] at hy hno
      have HY := Lib.hid hy
      have HN := Lib.hid hno
      have lB : B < wr.heap.size := by omega
      have nB : B ≠ wr.heap.size := by omega
      have lk : (k : Int) < (n : Int) := by omega
      clear hcells hv hy hno
      generalize Ag.lows (ivs z k) = xs at *
      generalize Ag.highs (ivs z k) = ys at *
      generalize z (k * 2) = lo at *
      generalize z (k * 2 + 1) = hi at *
      have ST : St wr.heap.size w (wr.alloc (.cells #[.int .i64 lo, .int .i64 hi] 67)) u4 u5 xs ys lo hi := ⟨hT.alloc _, Ints2.new wr lo hi _, HB.alloc HB.size _, by simp; omega, fun e => by have := (hT.a.lt _ e).2; omega, fun e => by have := (hT.b.lt _ e).2; omega, hO.alloc _⟩
      have hls : xs.length ≤ k ∧ ys.length ≤ k := by omega
      clear hll
      have HST := Lib.hid ST
      by_cases hc : lo ≤ hi
      · clear hT HB hO
        go_wp2_with fail
        generalize wr.alloc (.cells #[.int .i64 lo, .int .i64 hi] 67) = wb at *
        generalize hbx : wr.heap.size = bx at *
        have S0 := ST.drew
        clear ST HST x0 x1
        refine wp_region_held_drew (S := fun w' => w'.cell? ⟨bx, 0, none⟩ = some (.int .i64 lo) ∧ w'.cell? ⟨bx, 1, none⟩ = some (.int .i64 hi)) (by kernel_rfl) ?_ (fun hHeld => ?_)
        · exact S0.held
        generalize hW0 : wb.drew = W0 at *
        clear hW0
        refine wpAnyH_take (i := 0) (v := ?_) rfl (by kernel_rfl) (by kernel_rfl) (by kernel_rfl) (fun _ _ _ h => h) (Or.inl ⟨by rfl, ?_⟩) (by assumption) ?_
        rotate_left
        · intro w' hSw; (try dsimp only at hSw); go_simp; (try with_reducible rfl)
        (try simp only [Act.put, List.setIfInBounds_toArray, List.set_cons_zero, List.set_cons_succ, List.getElem_toArray, List.getElem_cons_succ, List.getElem_cons_zero])
        refine wpAnyH_take (i := 1) (v := ?_) rfl (by kernel_rfl) (by kernel_rfl) (by kernel_rfl) (fun _ _ _ h => h) (Or.inl ⟨by rfl, ?_⟩) (by assumption) ?_
        rotate_left
        · intro w' hSw; (try dsimp only at hSw); go_simp; (try with_reducible rfl)
        (try simp only [Act.put, List.setIfInBounds_toArray, List.set_cons_zero, List.set_cons_succ, List.getElem_toArray, List.getElem_cons_succ, List.getElem_cons_zero])
        refine wpAnyH_take (i := 2) (v := ?_) rfl (by kernel_rfl) (by kernel_rfl) (by kernel_rfl) (fun _ _ _ h => h) (Or.inl ⟨by rfl, ?_⟩) (by assumption) ?_
        rotate_left
        · intro w' hSw; (try dsimp only at hSw); go_simp; (try with_reducible rfl)
        (try simp only [Act.put, List.setIfInBounds_toArray, List.set_cons_zero, List.set_cons_succ, List.getElem_toArray, List.getElem_cons_succ, List.getElem_cons_zero])
        refine wpAnyH_take (i := 5) (v := ?_) rfl (by kernel_rfl) (by kernel_rfl) (by kernel_rfl) (fun _ _ _ h => h) (Or.inl ⟨by rfl, ?_⟩) (by assumption) ?_
        rotate_left
        · intro w' hSw; (try dsimp only at hSw); go_simp; (try with_reducible rfl)
        (try simp only [Act.put, List.setIfInBounds_toArray, List.set_cons_zero, List.set_cons_succ, List.getElem_toArray, List.getElem_cons_succ, List.getElem_cons_zero])
        refine wpAnyH_take (i := 6) (v := ?_) rfl (by kernel_rfl) (by kernel_rfl) (by kernel_rfl) (fun _ _ _ h => h) (Or.inl ⟨by rfl, ?_⟩) (by assumption) ?_
        rotate_left
        · intro w' hSw; (try dsimp only at hSw); go_simp; (try with_reducible rfl)
        (try simp only [Act.put, List.setIfInBounds_toArray, List.set_cons_zero, List.set_cons_succ, List.getElem_toArray, List.getElem_cons_succ, List.getElem_cons_zero])
        refine wpAnyH_take (i := 7) (v := ?_) rfl (by kernel_rfl) (by kernel_rfl) (by kernel_rfl) (fun _ _ _ h => h) (Or.inl ⟨by rfl, ?_⟩) (by assumption) ?_
        rotate_left
        · intro w' hSw; (try dsimp only at hSw); go_simp; (try with_reducible rfl)
        (try simp only [Act.put, List.setIfInBounds_toArray, List.set_cons_zero, List.set_cons_succ, List.getElem_toArray, List.getElem_cons_succ, List.getElem_cons_zero])
        refine wpAnyH_ready (rs := [3, 8]) (by kernel_rfl) (by simp) ?_
        refine AllReadyH.cons rfl (fun K hK => ?_) (AllReadyH.cons rfl (fun K hK => ?_) (AllReadyH.nil))
        · go_simp
          (try dsimp only)
          refine hK.out _ _ ?_ (fun hHeld => ?_)
          · exact (S0.alloc (.cells #[.int .i64 lo] 3)).held
          clear hK K
          (try simp only [Act.put, List.setIfInBounds_toArray, List.set_cons_zero, List.set_cons_succ, List.getElem_toArray, List.getElem_cons_succ, List.getElem_cons_zero])
          have S1 := S0.alloc (.cells #[.int .i64 lo] 3)
          have Pa1 := Pend.new S0.two lo 3
          generalize hW1 : W0.alloc (.cells #[.int .i64 lo] 3) = W1 at *
          clear hW1
          refine wpAnyH_ready (rs := [4, 8]) (by kernel_rfl) (by simp) ?_
          refine AllReadyH.cons rfl (fun K hK => ?_) (AllReadyH.cons rfl (fun K hK => ?_) (AllReadyH.nil))
          · rw [if_pos (by rfl)]
            refine wp_append_lies _ _ _ _ (by rfl) (w.heap.size + 1) 3 i0 _ 1 8 Tryz.underlying48 hi0 hz0 hz1 hz2 rfl (by decide) _ _ _ (by rfl) S1.two.a ⟨W0.heap.size, 0, none⟩ 1 1 [.int .i64 lo] (by rfl) (by rfl) Pa1.news (by simp [Value.oneCell']) (by omega) (by unfold maxLen; omega) (by omega) S1.lt _ rfl ?_
            intro g2 cap2 W2 own2 hg2 hat2 hlt2
            have S2 := S1.appA own2 hg2 hat2
            (try dsimp only)
            refine hK.out _ _ ?_ (fun hHeld => ?_)
            · exact S2.held
            clear hK K
            (try simp only [Act.put, List.setIfInBounds_toArray, List.set_cons_zero, List.set_cons_succ, List.getElem_toArray, List.getElem_cons_succ, List.getElem_cons_zero])
            clear own2 hg2 hat2 hlt2
            refine wpAnyH_ready (rs := [8]) (by kernel_rfl) (by simp) ?_
            refine AllReadyH.cons rfl (fun K hK => ?_) (AllReadyH.nil)
            · go_simp
              (try dsimp only)
              refine hK.out _ _ ?_ (fun hHeld => ?_)
              · exact (S2.alloc (.cells #[.int .i64 hi] 3)).held
              clear hK K
              (try simp only [Act.put, List.setIfInBounds_toArray, List.set_cons_zero, List.set_cons_succ, List.getElem_toArray, List.getElem_cons_succ, List.getElem_cons_zero])
              have S3 := S2.alloc (.cells #[.int .i64 hi] 3)
              have Pb3 := Pend.new S2.two hi 3
              generalize hW3 : W2.alloc (.cells #[.int .i64 hi] 3) = W3 at *
              clear hW3
              refine wpAnyH_ready (rs := [9]) (by kernel_rfl) (by simp) ?_
              refine AllReadyH.cons rfl (fun K hK => ?_) (AllReadyH.nil)
              · rw [if_pos (by rfl)]
                refine wp_append_lies _ _ _ _ (by rfl) (w.heap.size + 1) 3 i0 _ 1 8 Tryz.underlying48 hi0 hz0 hz1 hz2 rfl (by decide) _ _ _ (by rfl) S3.two.b ⟨W2.heap.size, 0, none⟩ 1 1 [.int .i64 hi] (by rfl) (by rfl) Pb3.news (by simp [Value.oneCell']) (by omega) (by unfold maxLen; omega) (by omega) S3.lt _ rfl ?_
                intro g4 cap4 W4 own4 hg4 hat4 hlt4
                have S4 := S3.appB own4 hg4 hat4
                (try dsimp only)
                refine hK.out _ _ ?_ (fun hHeld => ?_)
                · exact S4.held
                clear hK K
                (try simp only [Act.put, List.setIfInBounds_toArray, List.set_cons_zero, List.set_cons_succ, List.getElem_toArray, List.getElem_cons_succ, List.getElem_cons_zero])
                clear own4 hg4 hat4 hlt4
                refine wpAnyH_take (i := 10) (v := ?_) rfl (by kernel_rfl) (by kernel_rfl) (by kernel_rfl) (fun _ _ _ h => h) (Or.inl ⟨by rfl, ?_⟩) (by assumption) ?_
                rotate_left
                · intro w' hSw; (try dsimp only at hSw); go_simp; (try with_reducible rfl)
                (try simp only [Act.put, List.setIfInBounds_toArray, List.set_cons_zero, List.set_cons_succ, List.getElem_toArray, List.getElem_cons_succ, List.getElem_cons_zero])
                refine wpAnyH_take (i := 11) (v := ?_) rfl (by kernel_rfl) (by kernel_rfl) (by kernel_rfl) (fun _ _ _ h => h) (Or.inl ⟨by rfl, ?_⟩) (by assumption) ?_
                rotate_left
                · intro w' hSw; (try dsimp only at hSw); go_simp; (try with_reducible rfl)
                (try simp only [Act.put, List.setIfInBounds_toArray, List.set_cons_zero, List.set_cons_succ, List.getElem_toArray, List.getElem_cons_succ, List.getElem_cons_zero])
                refine wpAnyH_done (by kernel_rfl) ?_ _
                have hE0 := S4.two
                rw [← (HY.out hc).1, ← (HY.out hc).2] at hE0
                have HE := Lib.hid (show Lp1 z w W4 (k + 1) _ _ from ⟨hE0, S4.hb, S4.out⟩)
                clear hE0
                clear S4
                (try clear hHeld)
                go_wp2
                go_roundw
                case rel => exact ⟨k + 1, by omega, by go_num, HE.out⟩
                case measure => simp [intOf]; omega
          · go_simp
            (try dsimp only)
            refine hK.out _ _ ?_ (fun hHeld => ?_)
            · exact (S1.alloc (.cells #[.int .i64 hi] 3)).held
            clear hK K
            (try simp only [Act.put, List.setIfInBounds_toArray, List.set_cons_zero, List.set_cons_succ, List.getElem_toArray, List.getElem_cons_succ, List.getElem_cons_zero])
            have S2 := S1.alloc (.cells #[.int .i64 hi] 3)
            have Pb2 := Pend.new S1.two hi 3
            have Pa2 := Pa1.alloc (.cells #[.int .i64 hi] 3)
            generalize hW2 : W1.alloc (.cells #[.int .i64 hi] 3) = W2 at *
            clear hW2
            refine wpAnyH_ready (rs := [4]) (by kernel_rfl) (by simp) ?_
            refine AllReadyH.cons rfl (fun K hK => ?_) (AllReadyH.nil)
            · rw [if_pos (by rfl)]
              refine wp_append_lies _ _ _ _ (by rfl) (w.heap.size + 1) 3 i0 _ 1 8 Tryz.underlying48 hi0 hz0 hz1 hz2 rfl (by decide) _ _ _ (by rfl) S2.two.a ⟨W0.heap.size, 0, none⟩ 1 1 [.int .i64 lo] (by rfl) (by rfl) Pa2.news (by simp [Value.oneCell']) (by omega) (by unfold maxLen; omega) (by omega) S2.lt _ rfl ?_
              intro g3 cap3 W3 own3 hg3 hat3 hlt3
              have S3 := S2.appA own3 hg3 hat3
              have Pb3 := Pb2.appA (n := xs.length + 1) (cap := cap3) hg3 hat3
              (try dsimp only)
              refine hK.out _ _ ?_ (fun hHeld => ?_)
              · exact S3.held
              clear hK K
              (try simp only [Act.put, List.setIfInBounds_toArray, List.set_cons_zero, List.set_cons_succ, List.getElem_toArray, List.getElem_cons_succ, List.getElem_cons_zero])
              clear own3 hg3 hat3 hlt3
              refine wpAnyH_ready (rs := [9]) (by kernel_rfl) (by simp) ?_
              refine AllReadyH.cons rfl (fun K hK => ?_) (AllReadyH.nil)
              · rw [if_pos (by rfl)]
                refine wp_append_lies _ _ _ _ (by rfl) (w.heap.size + 1) 3 i0 _ 1 8 Tryz.underlying48 hi0 hz0 hz1 hz2 rfl (by decide) _ _ _ (by rfl) S3.two.b ⟨W1.heap.size, 0, none⟩ 1 1 [.int .i64 hi] (by rfl) (by rfl) Pb3.news (by simp [Value.oneCell']) (by omega) (by unfold maxLen; omega) (by omega) S3.lt _ rfl ?_
                intro g4 cap4 W4 own4 hg4 hat4 hlt4
                have S4 := S3.appB own4 hg4 hat4
                (try dsimp only)
                refine hK.out _ _ ?_ (fun hHeld => ?_)
                · exact S4.held
                clear hK K
                (try simp only [Act.put, List.setIfInBounds_toArray, List.set_cons_zero, List.set_cons_succ, List.getElem_toArray, List.getElem_cons_succ, List.getElem_cons_zero])
                clear own4 hg4 hat4 hlt4
                refine wpAnyH_take (i := 10) (v := ?_) rfl (by kernel_rfl) (by kernel_rfl) (by kernel_rfl) (fun _ _ _ h => h) (Or.inl ⟨by rfl, ?_⟩) (by assumption) ?_
                rotate_left
                · intro w' hSw; (try dsimp only at hSw); go_simp; (try with_reducible rfl)
                (try simp only [Act.put, List.setIfInBounds_toArray, List.set_cons_zero, List.set_cons_succ, List.getElem_toArray, List.getElem_cons_succ, List.getElem_cons_zero])
                refine wpAnyH_take (i := 11) (v := ?_) rfl (by kernel_rfl) (by kernel_rfl) (by kernel_rfl) (fun _ _ _ h => h) (Or.inl ⟨by rfl, ?_⟩) (by assumption) ?_
                rotate_left
                · intro w' hSw; (try dsimp only at hSw); go_simp; (try with_reducible rfl)
                (try simp only [Act.put, List.setIfInBounds_toArray, List.set_cons_zero, List.set_cons_succ, List.getElem_toArray, List.getElem_cons_succ, List.getElem_cons_zero])
                refine wpAnyH_done (by kernel_rfl) ?_ _
                have hE0 := S4.two
                rw [← (HY.out hc).1, ← (HY.out hc).2] at hE0
                have HE := Lib.hid (show Lp1 z w W4 (k + 1) _ _ from ⟨hE0, S4.hb, S4.out⟩)
                clear hE0
                clear S4
                (try clear hHeld)
                go_wp2
                go_roundw
                case rel => exact ⟨k + 1, by omega, by go_num, HE.out⟩
                case measure => simp [intOf]; omega
        · go_simp
          (try dsimp only)
          refine hK.out _ _ ?_ (fun hHeld => ?_)
          · exact (S0.alloc (.cells #[.int .i64 hi] 3)).held
          clear hK K
          (try simp only [Act.put, List.setIfInBounds_toArray, List.set_cons_zero, List.set_cons_succ, List.getElem_toArray, List.getElem_cons_succ, List.getElem_cons_zero])
          have S1 := S0.alloc (.cells #[.int .i64 hi] 3)
          have Pb1 := Pend.new S0.two hi 3
          generalize hW1 : W0.alloc (.cells #[.int .i64 hi] 3) = W1 at *
          clear hW1
          refine wpAnyH_ready (rs := [3]) (by kernel_rfl) (by simp) ?_
          refine AllReadyH.cons rfl (fun K hK => ?_) (AllReadyH.nil)
          · go_simp
            (try dsimp only)
            refine hK.out _ _ ?_ (fun hHeld => ?_)
            · exact (S1.alloc (.cells #[.int .i64 lo] 3)).held
            clear hK K
            (try simp only [Act.put, List.setIfInBounds_toArray, List.set_cons_zero, List.set_cons_succ, List.getElem_toArray, List.getElem_cons_succ, List.getElem_cons_zero])
            have S2 := S1.alloc (.cells #[.int .i64 lo] 3)
            have Pa2 := Pend.new S1.two lo 3
            have Pb2 := Pb1.alloc (.cells #[.int .i64 lo] 3)
            generalize hW2 : W1.alloc (.cells #[.int .i64 lo] 3) = W2 at *
            clear hW2
            refine wpAnyH_ready (rs := [4]) (by kernel_rfl) (by simp) ?_
            refine AllReadyH.cons rfl (fun K hK => ?_) (AllReadyH.nil)
            · rw [if_pos (by rfl)]
              refine wp_append_lies _ _ _ _ (by rfl) (w.heap.size + 1) 3 i0 _ 1 8 Tryz.underlying48 hi0 hz0 hz1 hz2 rfl (by decide) _ _ _ (by rfl) S2.two.a ⟨W1.heap.size, 0, none⟩ 1 1 [.int .i64 lo] (by rfl) (by rfl) Pa2.news (by simp [Value.oneCell']) (by omega) (by unfold maxLen; omega) (by omega) S2.lt _ rfl ?_
              intro g3 cap3 W3 own3 hg3 hat3 hlt3
              have S3 := S2.appA own3 hg3 hat3
              have Pb3 := Pb2.appA (n := xs.length + 1) (cap := cap3) hg3 hat3
              (try dsimp only)
              refine hK.out _ _ ?_ (fun hHeld => ?_)
              · exact S3.held
              clear hK K
              (try simp only [Act.put, List.setIfInBounds_toArray, List.set_cons_zero, List.set_cons_succ, List.getElem_toArray, List.getElem_cons_succ, List.getElem_cons_zero])
              clear own3 hg3 hat3 hlt3
              refine wpAnyH_ready (rs := [9]) (by kernel_rfl) (by simp) ?_
              refine AllReadyH.cons rfl (fun K hK => ?_) (AllReadyH.nil)
              · rw [if_pos (by rfl)]
                refine wp_append_lies _ _ _ _ (by rfl) (w.heap.size + 1) 3 i0 _ 1 8 Tryz.underlying48 hi0 hz0 hz1 hz2 rfl (by decide) _ _ _ (by rfl) S3.two.b ⟨W0.heap.size, 0, none⟩ 1 1 [.int .i64 hi] (by rfl) (by rfl) Pb3.news (by simp [Value.oneCell']) (by omega) (by unfold maxLen; omega) (by omega) S3.lt _ rfl ?_
                intro g4 cap4 W4 own4 hg4 hat4 hlt4
                have S4 := S3.appB own4 hg4 hat4
                (try dsimp only)
                refine hK.out _ _ ?_ (fun hHeld => ?_)
                · exact S4.held
                clear hK K
                (try simp only [Act.put, List.setIfInBounds_toArray, List.set_cons_zero, List.set_cons_succ, List.getElem_toArray, List.getElem_cons_succ, List.getElem_cons_zero])
                clear own4 hg4 hat4 hlt4
                refine wpAnyH_take (i := 10) (v := ?_) rfl (by kernel_rfl) (by kernel_rfl) (by kernel_rfl) (fun _ _ _ h => h) (Or.inl ⟨by rfl, ?_⟩) (by assumption) ?_
                rotate_left
                · intro w' hSw; (try dsimp only at hSw); go_simp; (try with_reducible rfl)
                (try simp only [Act.put, List.setIfInBounds_toArray, List.set_cons_zero, List.set_cons_succ, List.getElem_toArray, List.getElem_cons_succ, List.getElem_cons_zero])
                refine wpAnyH_take (i := 11) (v := ?_) rfl (by kernel_rfl) (by kernel_rfl) (by kernel_rfl) (fun _ _ _ h => h) (Or.inl ⟨by rfl, ?_⟩) (by assumption) ?_
                rotate_left
                · intro w' hSw; (try dsimp only at hSw); go_simp; (try with_reducible rfl)
                (try simp only [Act.put, List.setIfInBounds_toArray, List.set_cons_zero, List.set_cons_succ, List.getElem_toArray, List.getElem_cons_succ, List.getElem_cons_zero])
                refine wpAnyH_done (by kernel_rfl) ?_ _
                have hE0 := S4.two
                rw [← (HY.out hc).1, ← (HY.out hc).2] at hE0
                have HE := Lib.hid (show Lp1 z w W4 (k + 1) _ _ from ⟨hE0, S4.hb, S4.out⟩)
                clear hE0
                clear S4
                (try clear hHeld)
                go_wp2
                go_roundw
                case rel => exact ⟨k + 1, by omega, by go_num, HE.out⟩
                case measure => simp [intOf]; omega
      · have hc' : hi < lo := by omega
        have hE0 := ST.two
        rw [← (HN.out hc').1, ← (HN.out hc').2] at hE0
        have HE := Lib.hid (show Lp1 z w _ (k + 1) _ _ from ⟨hE0, ST.hb, ST.out⟩)
        clear hE0 ST HST hT HB hO hc
        go_wp2
        go_roundw
        case rel => exact ⟨k + 1, by omega, by go_num, HE.out⟩
        case measure => simp [intOf]; omega
    · obtain rfl : k = n := by omega
      have hll := lows_le (ivs z k)
      rw [ivs_len] at hll
      have hsA := hT.a
      have HT := Lib.hid hT
      have HO := Lib.hid hO
      have HBB := Lib.hid HB
      clear hT hO HB hlt hk
      go_wp2_with fail
      refine (sort_own _ _ _ _ hsA (by omega)).mono ?_; rintro e W1 ⟨rfl, hg1, ha1⟩
      have hb1 := HT.out.b.kept hg1 (by
        cases hu : u5.ownBlock with
        | none => exact .inl rfl
        | some q => exact .inr fun e => HT.out.ne q e.symm hu)
      have ho1 := HO.out.grown hg1 (fun e => by have := (HT.out.a.lt _ e.symm).1; omega)
      have HB1 := HBB.out.grown hg1 HBB.out.size (fun q hq => by have := (HT.out.a.lt q hq).1; omega)
      clear hsA hg1
      go_wp2_with fail
      refine (sort_own _ _ _ _ hb1 (by omega)).mono ?_; rintro e W2 ⟨rfl, hg2, hb2⟩
      have ha2 := ha1.kept hg2 (by
        cases hu : u4.ownBlock with
        | none => exact .inl rfl
        | some q => exact .inr fun e => HT.out.ne q hu e.symm)
      have ho2 := ho1.grown hg2 (fun e => by have := (hb1.lt _ e.symm).1; omega)
      have HB2 := HB1.grown hg2 HB1.size (fun q hq => by have := (hb1.lt q hq).1; omega)
      clear hb1 ha1 hg2 ho1 HB1 HO HBB HT
      have hA : Ag.As (ivs z k) = (Ag.lows (ivs z k)).mergeSort Ag.leB := rfl
      have hBs : Ag.Bs (ivs z k) = (Ag.highs (ivs z k)).mergeSort Ag.leB := rfl
      have hls := Ag.lens (ivs z k)
      rw [← hA] at ha2
      rw [← hBs] at hb2
      have hl2 : (Ag.lows (ivs z k)).length = (Ag.As (ivs z k)).length := by rw [hA]; simp
      have hl3 : (Ag.highs (ivs z k)).length = (Ag.Bs (ivs z k)).length := by rw [hBs]; simp
      rw [hl2] at ha2 hll
      rw [hl3] at hb2 hll
      obtain ⟨pA, cA, rfl, hpA⟩ := own_row ha2
      obtain ⟨pB, cB, rfl, hpB⟩ := own_row hb2
      have HPA := Lib.hid (hpA.off (.cells #[.int .i64 0, .int .i64 0] 67))
      have HPB := Lib.hid (hpB.off (.cells #[.int .i64 0, .int .i64 0] 67))
      have hle := hll.2
      have hNk : (Ag.As (ivs z k)).length ≤ 100000 := by omega
      have HLE := Lib.hid (And.intro hle hNk)
      have hO3 := Lib.hid (ho2.alloc (.cells #[.int .i64 0, .int .i64 0] 67))
      have hX3 := Lib.hid (Ints2.new W2 0 0 67)
      have HB3 := Lib.hid (HB2.alloc HB2.size (.cells #[.int .i64 0, .int .i64 0] 67))
      have hz2' := HB2.size
      have ho2l := ho2.lt
      clear hA hBs hls hl2 hl3 ha2 hb2 hll hpA hpB HB2 ho2 hle
      have HBM := fun a b m => Ag.Best.most (l := ivs z k) (a := a) (b := b) (m := m)
      have HM := Lib.hid HBM
      have HSB := Lib.hid (Ag.sorted_Bs (ivs z k))
      have HSA := Lib.hid (Ag.sorted_As (ivs z k))
      have HEL := Lib.hid (Ag.eB_lt (ivs z k))
      clear HBM
      generalize Ag.As (ivs z k) = LA at *
      generalize Ag.Bs (ivs z k) = LB at *
      go_wp2
      generalize hW3 : W2.alloc (.cells #[.int .i64 0, .int .i64 0] 67) = W3 at *
      generalize hbx : W2.heap.size = bx at *
      clear hW3
      go_loopw [9, 10, 11, 42] (fun m o t i wr => ∃ k : Nat, k ≤ LA.length ∧ i = .int .i64 k ∧ Lp2 LA LB w W3 wr bx k m o t) (fun _ _ _ i _ => LA.length - (intOf i).toNat)
      case atStart => exact ⟨0, Nat.zero_le _, rfl, 0, 0, 0, rfl, rfl, rfl, Ag.Best.start _ _, hX3.out, hO3.out, Only.refl _ _⟩
      case round =>
        obtain ⟨j, hj, rfl, a, b, m, rfl, rfl, rfl, hbest, hX, hO, hOn⟩ := hrel
        clear hX3 hO3
        have hzw := hOn.size
        by_cases hlt : j < LA.length
        · obtain ⟨gA, rfl, hgA, nA, cA⟩ := HPA.out.only hOn (by omega)
          obtain ⟨gB, rfl, hgB, nB, cB⟩ := HPB.out.only hOn (by have := HLE.out; omega)
          have hE := HEL.out j hlt
          have hmore := hbest.more hlt hE
          have hstay := hbest.stay hlt
          have hcnt := Ag.count_lt_sorted LB HSB.out LA[j]
          have hele := endK_le (B := LB) HSA.out j hlt
          have hend : endK LA LB (j + 1) = Ag.eB LB LA[j] := by
            show Ag.eB LB (LA.getD j 0) = _
            rw [List.getD_eq_getElem?_getD, List.getElem?_eq_getElem hlt]
            rfl
          have xA := cA j hlt
          have xE := cB _ hE
          have hNB : (LB.length : Int) ≤ 100000 := by have := HLE.out; omega
          have hNA : (LA.length : Int) ≤ 100000 := by have := HLE.out; omega
          clear cA
          obtain ⟨hi, hhi⟩ : ∃ hi, LB[Ag.eB LB LA[j]] = hi := ⟨_, rfl⟩
          rw [hhi] at hmore xE
          have hno : ¬ hi < LA[j] := by rw [← hhi, hcnt]; omega
          clear hhi
          obtain ⟨lw, hlw⟩ : ∃ lw, LA[j] = lw := ⟨_, rfl⟩
          simp only [hlw] at hmore hcnt xA hele hend hE hstay xE hno
          obtain ⟨E, hEE⟩ : ∃ E, Ag.eB LB lw = E := ⟨_, rfl⟩
          simp only [hEE] at hmore hcnt hele hend hE hstay xE
          obtain ⟨en, hen⟩ : ∃ en, endK LA LB j = en := ⟨_, rfl⟩
          rw [hen] at hele ⊢
          have lj : (j : Int) < (LA.length : Int) := by omega
          have HCB := Lib.hid cB
          have HCNT := Lib.hid hcnt
          have HMO := Lib.hid hmore
          have HST := Lib.hid hstay
          have HEND := Lib.hid hend
          have hnn := hbest.nn
          have HBE := Lib.hid hbest
          have HX := Lib.hid hX
          have HO := Lib.hid hO
          obtain ⟨y0, y1, f0, f1, lx⟩ := hX
          clear cB hcnt hmore hstay hend hlw hEE hen hbest hO
          go_wp2
          go_loop [10, 11] (fun o t => ∃ s : Nat, en ≤ s ∧ s ≤ E ∧ o = .int .i64 ((j : Int) - (s : Int)) ∧ t = .int .i64 s) (fun _ t => E - (intOf t).toNat)
          case atStart => exact ⟨en, Nat.le_refl _, hele, rfl, rfl⟩
          case round =>
            obtain ⟨s, hs1, hs2, rfl, rfl⟩ := hrel
            by_cases hst : s < E
            · have hsl : s < LB.length := by omega
              have xs := HCB.out s hsl
              have hb := (HCNT.out s hsl).2 hst
              generalize LB[s] = y at *
              have hsl' : (s : Int) < (LB.length : Int) := by omega
              have hss : (s : Int) ≤ 100000 := by omega
              clear xE hno
              go_wp2
              go_round
              case rel => exact ⟨s + 1, by omega, by omega, by go_num, by go_num⟩
              case measure => simp [intOf]; omega
            · obtain rfl : s = E := by omega
              have hsl' : (s : Int) < (LB.length : Int) := by omega
              have hss : (s : Int) ≤ 100000 := by omega
              have hge : lw ≤ hi := by omega
              by_cases hm : m < (j : Int) - s + 1
              · clear hno
                go_wp2
                go_region
                all_goals
                  go_wp2
                  go_roundw
                  case rel => exact ⟨j + 1, by omega, by go_num, lw, hi, (j : Int) + 1 - s, by go_num, by rw [HEND.out]; go_num, by rw [HEND.out], HMO.out (by omega), by have hXX := HX.out; (repeat' (first | (with_reducible assumption) | (with_reducible apply Ints2.set0) | (with_reducible apply Ints2.set1) | (with_reducible refine Ints2.other ?_ ?_ _) | (with_reducible refine Ints2.alloc ?_ _) | (with_reducible refine Ints2.drewN ?_ _) | (with_reducible refine Ints2.drew ?_) | (with_reducible exact Ints2.new _ _ _ _) | go_size)), by have hOO := HO.out; (repeat' (first | (with_reducible assumption) | (with_reducible apply Ints2.set0) | (with_reducible apply Ints2.set1) | (with_reducible refine Ints2.other ?_ ?_ _) | (with_reducible refine Ints2.alloc ?_ _) | (with_reducible refine Ints2.drewN ?_ _) | (with_reducible refine Ints2.drew ?_) | (with_reducible exact Ints2.new _ _ _ _) | go_size)), by (repeat' (first | (with_reducible exact Only.refl _ _) | (with_reducible assumption) | (with_reducible refine Only.alloc ?_ _) | (with_reducible refine Only.setB ?_ _) | (refine Only.setCell ?_ (Or.inr ?_) _) | (with_reducible refine Only.drewN ?_ _) | (with_reducible refine Only.drew ?_) | (with_reducible refine Only.trans ?_ (by with_reducible assumption)) | (with_reducible refine Only.trans ?_ (Only.of_below (by with_reducible assumption))) | go_size))⟩
                  case measure => simp [intOf]; omega
              · clear hno
                go_wp2
                go_roundw
                case rel => exact ⟨j + 1, by omega, by go_num, a, b, m, rfl, by rw [HEND.out]; go_num, by rw [HEND.out], HST.out (by omega), HX.out, HO.out, hOn⟩
                case measure => simp [intOf]; omega
        · obtain rfl : j = LA.length := by omega
          have hmost := HM.out a b m hbest
          have hnn := hbest.nn
          have R0 := (hO.set0 a).c0
          have R1 := ((hO.set0 a).set1 b).c1
          have hBf : Below w.heap.size w wr := HB3.out.trans (hOn.below (by omega) HB3.out.size)
          have HMOST := Lib.hid hmost
          obtain ⟨x0, x1, g0, g1, lt⟩ := hX
          obtain ⟨y0, y1, f0, f1, lt'⟩ := hO
          clear hbest hmost hOn
          go_wp2
          refine bodyPost_ret (v := .tuple #[.agg #[.int .i64 a, .int .i64 b], .int .i64 m]) (by simp [results, Tryz.results70, go_sem, R0, R1]) rfl ⟨a, b, m.toNat, by rw [Int.toNat_of_nonneg hnn], HMOST.out, ?_⟩
          go_light
          (repeat' (first | (with_reducible exact Below.refl _ _) | (with_reducible assumption) | (with_reducible refine Below.trans ?_ (Below.mono (by with_reducible assumption) ?_)) | (with_reducible refine Below.alloc ?_ ?_ _) | (with_reducible refine Below.setCell ?_ ?_ _) | (with_reducible refine below_drewN ?_ _) | (with_reducible refine Below.drew ?_) | go_size))
end Go.Proofs.YtepdnkpmkhjlgaaGreat

/- agree.Majority of any intervals; what is known of stage 7. -/
namespace Go.Proofs.YtepdnkpmkhjlgaaGreat
open Go.RowKit

/-- What is told of a majority. -/
def majV (n : Nat) (m : Nat) (a : Int) : Int := if 2 * m ≤ n then 0 else a
def majE (n : Nat) (m : Nat) : Int := if 2 * m ≤ n then 7 else 0
def SomeMaj (l : List (Int × Int)) (w : World) (e : Ending) (w' : World) : Prop := ∃ a b, ∃ m : Nat, e = .returned (.tuple #[.agg #[.int .i64 (majV l.length m a), .int .i64 (majV l.length m b)], .int .i64 (majE l.length m)]) ∧ Ag.MostIs l a b m ∧ Below w.heap.size w w'
theorem most_le {l : List (Int × Int)} {a b : Int} {m : Nat} (h : Ag.MostIs l a b m) : m ≤ l.length := by
  rcases Nat.eq_zero_or_pos m with h0 | h0
  · omega
  · rw [← h.at_ h0]; exact List.countP_le_length
def k6 (j : Nat) : Int := [1, 5, 4, 8, 7, 9].getD j 0
def k4 (j : Nat) : Int := [1, 2, 3, 4].getD j 0
theorem k6_is : Ag.MostIs (ivs k6 3) 4 5 2 := by
  have e : ivs k6 3 = [(1, 5), (4, 8), (7, 9)] := by decide
  have hle : ∀ x, Ag.cnt [(1, 5), (4, 8), (7, 9)] x ≤ 2 := fun x => by
    simp only [Ag.cnt, List.countP_cons, List.countP_nil, Ag.inB, Bool.and_eq_true, decide_eq_true_eq]
    split <;> split <;> split <;> omega
  rw [e]
  refine ⟨hle, fun h => absurd h (by omega), fun _ => by decide, fun x hx _ => ?_, fun _ => ⟨(1, 5), by simp, by decide, rfl⟩, ?_⟩
  · simp only [Ag.cnt, List.countP_cons, List.countP_nil, Ag.inB, Bool.and_eq_true, decide_eq_true_eq]
    split <;> split <;> split <;> omega
  · intro i hi _ hx
    simp at hi
    rcases hi with rfl | rfl | rfl <;> simp_all [Ag.inB]
theorem k4_is : Ag.MostIs (ivs k4 2) 1 2 1 := by
  have e : ivs k4 2 = [(1, 2), (3, 4)] := by decide
  have hle : ∀ x, Ag.cnt [(1, 2), (3, 4)] x ≤ 1 := fun x => by
    simp only [Ag.cnt, List.countP_cons, List.countP_nil, Ag.inB, Bool.and_eq_true, decide_eq_true_eq]
    split <;> split <;> omega
  rw [e]
  refine ⟨hle, fun h => absurd h (by omega), fun _ => by decide, fun x hx _ => ?_, fun _ => ⟨(1, 2), by simp, by decide, rfl⟩, ?_⟩
  · simp only [Ag.cnt, List.countP_cons, List.countP_nil, Ag.inB, Bool.and_eq_true, decide_eq_true_eq]
    split <;> split <;> omega
  · intro i hi _ hx
    simp at hi
    rcases hi with rfl | rfl <;> simp_all [Ag.inB]
theorem flat_new (w : World) (cs : List Int) (t : TypeId) (n : Nat) (h : cs.length = n * 2) (hb : ∀ x ∈ cs, -9223372036854775808 ≤ x ∧ x ≤ 9223372036854775807) : FlatAt (w.alloc (.cells (cs.map (Value.int .i64)).toArray t)) (some ⟨w.heap.size, 0, none⟩) 2 n (fun j => cs.getD j 0) := by
  intro h0
  refine ⟨w.heap.size, 0, rfl, by simp, fun j hj => ⟨?_, ?_⟩⟩
  · rw [World.cell?_alloc_new]
    have hj' : j < cs.length := by omega
    simp [hj', List.getD_eq_getElem?_getD]
  · have hj' : j < cs.length := by omega
    simp only [List.getD_eq_getElem?_getD, List.getElem?_eq_getElem hj', Option.getD_some]
    exact hb _ (List.getElem_mem _)
theorem flat6 (w : World) : FlatAt (w.alloc (.cells #[.int .i64 1, .int .i64 5, .int .i64 4, .int .i64 8, .int .i64 7, .int .i64 9] 67)) (some ⟨w.heap.size, 0, none⟩) 2 3 k6 := flat_new w [1, 5, 4, 8, 7, 9] 67 3 rfl (by simp)
theorem flat4 (w : World) : FlatAt (w.alloc (.cells #[.int .i64 1, .int .i64 2, .int .i64 3, .int .i64 4] 67)) (some ⟨w.heap.size, 0, none⟩) 2 2 k4 := flat_new w [1, 2, 3, 4] 67 2 rfl (by simp)
theorem maj_k4 : majE (ivs k4 2).length 1 = 7 ∧ ∀ x, majV (ivs k4 2).length 1 x = 0 := ⟨by decide, fun x => by unfold majV; rw [if_pos (by decide)]⟩
end Go.Proofs.YtepdnkpmkhjlgaaGreat

/- What is known of stage 7. -/
namespace Go.Proofs.YtepdnkpmkhjlgaaGreat
open Go.RowKit

end Go.Proofs.YtepdnkpmkhjlgaaGreat

/- Rows of intervals that the call owns. -/
namespace Go.Proofs.YtepdnkpmkhjlgaaGreat
open Go.RowKit

theorem iv_info : (Tryz.prog.info? 67).map (fun i => (i.zero, i.size, i.bytes)) = some (some (.agg #[.int .i64 0, .int .i64 0]), 2, 16) := by kernel_rfl
def zl (l : List (Int × Int)) (j : Nat) : Int := if j % 2 = 0 then (l.getD (j / 2) (0, 0)).1 else (l.getD (j / 2) (0, 0)).2
theorem zl_ivs (z : Nat → Int) (n j : Nat) (h : j < n * 2) : zl (ivs z n) j = z j := by
  have h2 : j / 2 < n := by omega
  unfold zl
  rw [List.getD_eq_getElem?_getD, List.getElem?_eq_getElem (by rw [ivs_len]; exact h2)]
  simp only [ivs, List.getElem_map, List.getElem_range, Option.getD_some]
  split
  · congr 1; omega
  · congr 1; omega
theorem cellsOf_congr {z y : Nat → Int} {k : Nat} (h : ∀ j, j < k → z j = y j) : cellsOf z k = cellsOf y k := by
  unfold cellsOf
  apply List.map_congr_left
  intro j hj
  rw [h j (by simpa using hj)]
theorem cells_ivs (z : Nat → Int) (n : Nat) : cellsOf z (n * 2) = cellsOf (zl (ivs z n)) (n * 2) := cellsOf_congr fun j hj => (zl_ivs z n j hj).symm
theorem ivs_zl (l : List (Int × Int)) : ivs (zl l) l.length = l := by
  apply List.ext_getElem (ivs_len _ _)
  intro j h1 h2
  have e0 : j * 2 % 2 = 0 := by omega
  have e1 : j * 2 / 2 = j := by omega
  have e2 : (j * 2 + 1) % 2 = 1 := by omega
  have e3 : (j * 2 + 1) / 2 = j := by omega
  simp [ivs, zl, e0, e1, e2, e3, List.getD_eq_getElem?_getD, h2]
theorem zl_snoc (l : List (Int × Int)) (i : Int × Int) : cellsOf (zl (l ++ [i])) ((l.length + 1) * 2) = cellsOf (zl l) (l.length * 2) ++ [.int .i64 i.1, .int .i64 i.2] := by
  rw [show (l.length + 1) * 2 = l.length * 2 + 1 + 1 from by omega]
  unfold cellsOf
  rw [List.range_succ, List.range_succ]
  simp only [List.map_append, List.map_cons, List.map_nil, List.append_assoc, List.cons_append, List.nil_append]
  have e2 : (l.length * 2 + 1) % 2 = 1 := by omega
  have e3 : (l.length * 2 + 1) / 2 = l.length := by omega
  congr 1
  · apply List.map_congr_left
    intro j hj
    have hj : j < l.length * 2 := by simpa using hj
    have h2 : j / 2 < l.length := by omega
    simp [zl, List.getD_eq_getElem?_getD, List.getElem?_append_left h2]
  · simp [zl, e2, e3, List.getD_eq_getElem?_getD]
/-- Ints that an int tells. -/
def Tells (l : List (Int × Int)) : Prop := ∀ i ∈ l, (-9223372036854775808 ≤ i.1 ∧ i.1 ≤ 9223372036854775807) ∧ (-9223372036854775808 ≤ i.2 ∧ i.2 ≤ 9223372036854775807)
theorem Tells.at_ {l : List (Int × Int)} (h : Tells l) (j : Nat) (hj : j < l.length * 2) : -9223372036854775808 ≤ zl l j ∧ zl l j ≤ 9223372036854775807 := by
  have h2 : j / 2 < l.length := by omega
  have := h _ (List.getElem_mem h2)
  unfold zl
  rw [List.getD_eq_getElem?_getD, List.getElem?_eq_getElem h2, Option.getD_some]
  split
  · exact this.1
  · exact this.2
/-- A row of intervals that the call owns. -/
def POwn (base : Nat) (W : World) (v : Value) (l : List (Int × Int)) : Prop := W.ownsRow base 67 2 v l.length (cellsOf (zl l) (l.length * 2))
theorem POwn.flat {base : Nat} {W : World} {v : Value} {l : List (Int × Int)} (h : POwn base W v l) (hb : Tells l) : ∃ A c, v = .slice A l.length c ∧ FlatAt W A 2 l.length (zl l) := by
  have hc0 := fun g hg => World.ownsRow.cells h (g := g) hg
  rcases h.2 with ⟨rfl, h0⟩ | ⟨g, cap, cur, rfl, hb', hh, _⟩
  · exact ⟨none, 0, by rw [h0], fun hn => absurd hn (by omega)⟩
  · refine ⟨_, _, rfl, fun hn => ⟨g, 0, rfl, (World.ownsRow.lt h g rfl).2, fun j hj => ⟨?_, hb.at_ j hj⟩⟩⟩
    have := hc0 g rfl j _ (cellsOf_at (zl l) (l.length * 2) j hj)
    rwa [at_add] at this
theorem FlatAt.tells {W : World} {A : Option Addr} {n : Nat} {z : Nat → Int} (h : FlatAt W A 2 n z) : Tells (ivs z n) := by
  intro i hi
  obtain ⟨j, hj, rfl⟩ := List.mem_map.1 hi
  have hj : j < n := by simpa using hj
  obtain ⟨B, O, _, _, hc⟩ := h (by omega)
  exact ⟨(hc (j * 2) (by omega)).2, (hc (j * 2 + 1) (by omega)).2⟩
theorem most_list {l : List (Int × Int)} {A : Option Addr} {c : Nat} {W : World} (hz : FlatAt W A 2 l.length (zl l)) (hn : l.length ≤ 100000) : Calls Tryz.prog 70 #[.slice A l.length c] W (SomeMost l W) := by
  have := most_any (zl l) A l.length c W hn hz
  rwa [ivs_zl] at this
theorem POwn.snoc {base : Nat} {W' : World} {v' : Value} {l : List (Int × Int)} {i : Int × Int} (h : W'.ownsRow base 67 2 v' (l.length + 1) (cellsOf (zl l) (l.length * 2) ++ [.int .i64 i.1, .int .i64 i.2])) : POwn base W' v' (l ++ [i]) := by
  unfold POwn
  rw [List.length_append, List.length_singleton, zl_snoc]
  exact h
theorem POwn.nil (base : Nat) (W : World) : POwn base W (.slice none 0 0) [] := World.ownsRow_nil _ _ _ _
theorem POwn.drew {base : Nat} {W : World} {v : Value} {l : List (Int × Int)} (h : POwn base W v l) : POwn base W.drew v l := h
theorem POwn.alloc {base : Nat} {W : World} {v : Value} {l : List (Int × Int)} (h : POwn base W v l) (o : Obj) : POwn base (W.alloc o) v l := World.ownsRow.alloc h o
theorem POwn.kept {base : Nat} {W W' : World} {v : Value} {l : List (Int × Int)} (h : POwn base W v l) (hb : Below W.heap.size W W') : POwn base W' v l := by
  refine ⟨h.1, ?_⟩
  rcases h.2 with hn | ⟨g, cap, cur, rfl, hb2, hgg, rest⟩
  · exact .inl hn
  · refine .inr ⟨g, cap, cur, rfl, hb2, ?_, rest⟩
    rw [hb.block g (Array.getElem?_eq_some_iff.1 hgg).1]
    exact hgg
end Go.Proofs.YtepdnkpmkhjlgaaGreat

