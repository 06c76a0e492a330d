/- Quote as mathematics: bytes as a word. -/
import Derived.Test.YtelabakcadhffaaDoorStrB
set_option linter.unusedSimpArgs false
set_option linter.unusedVariables false
namespace Go.Proofs.YtelabakcadhffaaDoor
open Go.RowKit

def hexd (n : Int) : Int := if n < 10 then 48 + n else 87 + n
def quoX (c : Int) : Bool := decide (c = 34) || decide (c = 92) || decide (c < 32) || decide (126 < c)
def quoB (c : Int) : List Int := if quoX c = true then [92, 120, hexd (c / 16), hexd (c % 16)] else [c]
def quoM (b : List Int) : List Int := b.flatMap quoB
def quoL (b : List Int) : List Int := 34 :: (quoM b ++ [34])
theorem quoM_append (a b : List Int) : quoM (a ++ b) = quoM a ++ quoM b := by simp [quoM]
theorem quoM_take {p : List Int} {k : Nat} {x : Int} (h : p[k]? = some x) : quoM (p.take (k + 1)) = quoM (p.take k) ++ quoB x := by
  have hk := (List.getElem?_eq_some_iff.1 h).1
  rw [List.take_succ_eq_append_getElem hk, quoM_append]
  rw [List.getElem?_eq_getElem hk] at h
  injection h with h
  rw [h]
  simp [quoM]
theorem quoX_false {c : Int} (h : quoX c = false) : c ≠ 34 ∧ c ≠ 92 ∧ 32 ≤ c ∧ c ≤ 126 := by
  simp [quoX] at h
  omega
theorem hexd_in {n : Int} (h0 : 0 ≤ n) (h1 : n < 16) : 48 ≤ hexd n ∧ hexd n ≤ 102 := by unfold hexd; split <;> omega
theorem hexd_inj {n m : Int} (h0 : 0 ≤ n) (h1 : n < 16) (k0 : 0 ≤ m) (k1 : m < 16) (h : hexd n = hexd m) : n = m := by
  unfold hexd at h
  split at h <;> split at h <;> omega
theorem quoB_in {c : Int} (h0 : 0 ≤ c) (h1 : c < 256) : ∀ x ∈ quoB c, 32 ≤ x ∧ x ≤ 126 := by
  intro x hx
  unfold quoB at hx
  split at hx
  · have h2 := hexd_in (n := c / 16) (by omega) (by omega)
    have h3 := hexd_in (n := c % 16) (by omega) (by omega)
    simp at hx
    rcases hx with rfl | rfl | rfl | rfl <;> omega
  · rename_i hq
    simp at hx
    subst hx
    have := quoX_false (by simpa using hq)
    omega
theorem quoB_len (c : Int) : 1 ≤ (quoB c).length ∧ (quoB c).length ≤ 4 := by unfold quoB; split <;> simp
theorem quoM_in {b : List Int} (h : isBy b) : ∀ x ∈ quoM b, 32 ≤ x ∧ x ≤ 126 := by
  intro x hx
  simp only [quoM, List.mem_flatMap] at hx
  obtain ⟨c, hc, hx⟩ := hx
  have := h c hc
  exact quoB_in this.1 (by omega) x hx
theorem quoM_len (b : List Int) : b.length ≤ (quoM b).length ∧ (quoM b).length ≤ 4 * b.length := by
  induction b with
  | nil => simp [quoM]
  | cons c t ih =>
    have h := quoB_len c
    simp only [quoM, List.flatMap_cons, List.length_append, List.length_cons] at ih ⊢
    omega
theorem quoL_len (b : List Int) : b.length + 2 ≤ (quoL b).length ∧ (quoL b).length ≤ 4 * b.length + 2 := by
  have := quoM_len b
  simp only [quoL, List.length_cons, List.length_append, List.length_nil]
  omega
theorem quoL_in {b : List Int} (h : isBy b) : ∀ x ∈ quoL b, 32 ≤ x ∧ x ≤ 126 := by
  intro x hx
  simp only [quoL, List.mem_cons, List.mem_append, List.not_mem_nil, or_false] at hx
  rcases hx with rfl | hx | rfl
  · omega
  · exact quoM_in h x hx
  · omega
theorem quoL_by {b : List Int} (h : isBy b) : isBy (quoL b) := fun x hx => by have := quoL_in h x hx; omega
theorem quoM_inj : ∀ {a b : List Int}, isBy a → isBy b → quoM a = quoM b → a = b
  | [], [], _, _, _ => rfl
  | [], c :: t, _, _, h => by
    have h1 := quoM_len (c :: t)
    rw [← h] at h1
    simp [quoM] at h1
  | c :: t, [], _, _, h => by
    have h1 := quoM_len (c :: t)
    rw [h] at h1
    simp [quoM] at h1
  | c :: t, d :: u, ha, hb, h => by
    have hc := ha c (by simp)
    have hd := hb d (by simp)
    have h2 : quoB c ++ quoM t = quoB d ++ quoM u := h
    have iht := fun e => quoM_inj (a := t) (b := u) (fun x hx => ha x (by simp [hx])) (fun x hx => hb x (by simp [hx])) e
    unfold quoB at h2
    split at h2
    · split at h2
      · simp only [List.cons_append, List.nil_append, List.cons.injEq, true_and] at h2
        obtain ⟨e1, e2, e3⟩ := h2
        have e1 := hexd_inj (by omega) (by omega) (by omega) (by omega) e1
        have e2 := hexd_inj (by omega) (by omega) (by omega) (by omega) e2
        rw [iht e3, show c = d from by omega]
      · rename_i hq
        simp only [List.cons_append, List.nil_append, List.cons.injEq] at h2
        have := quoX_false (by simpa using hq)
        omega
    · rename_i hq
      split at h2
      · simp only [List.cons_append, List.nil_append, List.cons.injEq] at h2
        have := quoX_false (by simpa using hq)
        omega
      · simp only [List.cons_append, List.nil_append, List.cons.injEq] at h2
        obtain ⟨rfl, e3⟩ := h2
        rw [iht e3]
theorem quoL_inj {a b : List Int} (ha : isBy a) (hb : isBy b) : quoL a = quoL b ↔ a = b := by
  refine ⟨fun h => ?_, fun h => by rw [h]⟩
  unfold quoL at h
  injection h with _ h
  exact quoM_inj ha hb (List.append_cancel_right h)
end Go.Proofs.YtelabakcadhffaaDoor
