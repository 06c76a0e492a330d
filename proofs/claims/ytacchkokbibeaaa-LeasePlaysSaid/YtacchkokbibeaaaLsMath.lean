/- Leases by rising numbers: finding, taking away. -/
import Derived.Test.YtacchkokbibeaaaLsFind
set_option linter.unusedSimpArgs false
set_option linter.unusedVariables false
namespace Go.Proofs.Ytacchkokbibeaaa

def Rise (L : List Le) : Prop := L.Pairwise fun a b => a.id < b.id
def rm (L : List Le) (id : Int) : List Le := L.filter fun y => !(y.id == id)
def closeL (L : List Le) (ids : List Int) : List Le := ids.foldl rm L
theorem Rise.sub {L M : List Le} (h : Rise L) (s : M.Sublist L) : Rise M := List.Pairwise.sublist s h
theorem rm_sub (L : List Le) (id : Int) : (rm L id).Sublist L := List.filter_sublist
theorem rm_len (L : List Le) (id : Int) : (rm L id).length ≤ L.length := (rm_sub L id).length_le
theorem closeL_sub : ∀ (ids : List Int) (L : List Le), (closeL L ids).Sublist L
  | [], L => List.Sublist.refl L
  | i :: r, L => (closeL_sub r (rm L i)).trans (rm_sub L i)
theorem closeL_snoc (L : List Le) (ids : List Int) (i : Int) : closeL L (ids ++ [i]) = rm (closeL L ids) i := by simp [closeL, List.foldl_append]
theorem rm_none {L : List Le} {id : Int} (h : ∀ y ∈ L, y.id ≠ id) : rm L id = L := by
  unfold rm
  rw [List.filter_eq_self]
  intro y hy
  simp [h y hy]
theorem erase_rm : ∀ {L : List Le} {k : Nat} {x : Le}, Rise L → L[k]? = some x → L.eraseIdx k = rm L x.id
  | [], k, x, _, h => by simp at h
  | a :: t, 0, x, hr, h => by
    obtain rfl : a = x := by simpa using h
    have h1 := (List.pairwise_cons.1 hr).1
    show t = rm (a :: t) a.id
    unfold rm
    rw [List.filter_cons_of_neg (by simp)]
    exact (rm_none (fun y hy e => by have := h1 y hy; omega)).symm
  | a :: t, k + 1, x, hr, h => by
    have h' : t[k]? = some x := by simpa using h
    have h1 := (List.pairwise_cons.1 hr).1 x (List.mem_of_getElem? h')
    show a :: t.eraseIdx k = rm (a :: t) x.id
    unfold rm
    rw [List.filter_cons_of_pos (by simp; omega), erase_rm (List.pairwise_cons.1 hr).2 h']
    rfl
theorem find_ex {L : List Le} (hr : Rise L) (id : Int) : ∃ k bb, FindAns L id k bb := by
  have key : ∀ n, n ≤ L.length → ∃ k, k ≤ n ∧ (∀ j x, j < k → L[j]? = some x → x.id < id) ∧ (∀ j x, k ≤ j → j < n → L[j]? = some x → id ≤ x.id) := by
    intro n
    induction n with
    | zero => exact fun _ => ⟨0, Nat.le_refl _, fun j x h => by omega, fun j x _ h => by omega⟩
    | succ n ih =>
      intro hn
      obtain ⟨k, hk, h1, h2⟩ := ih (by omega)
      obtain ⟨y, hy⟩ : ∃ y, L[n]? = some y := ⟨L[n]'(by omega), List.getElem?_eq_getElem _⟩
      by_cases hkn : k < n
      · obtain ⟨z, hz⟩ : ∃ z, L[k]? = some z := ⟨L[k]'(by omega), List.getElem?_eq_getElem _⟩
        have hzi := h2 k z (Nat.le_refl _) hkn hz
        refine ⟨k, by omega, h1, fun j x a b hx => ?_⟩
        by_cases hj : j < n
        · exact h2 j x a hj hx
        · obtain rfl : j = n := by omega
          have hxy : x = y := by rw [hy] at hx; injection hx with e; exact e.symm
          subst hxy
          have := List.pairwise_iff_getElem.1 hr k j (by omega) (by omega) hkn
          rw [List.getElem?_eq_getElem (by omega)] at hz hx
          injection hz with hz
          injection hx with hx
          rw [hz, hx] at this
          omega
      · obtain rfl : k = n := by omega
        by_cases hyi : y.id < id
        · refine ⟨k + 1, Nat.le_refl _, fun j x hj hx => ?_, fun j x a b => by omega⟩
          by_cases hj' : j < k
          · exact h1 j x hj' hx
          · obtain rfl : j = k := by omega
            rw [hy] at hx
            injection hx with e
            subst e
            exact hyi
        · refine ⟨k, by omega, h1, fun j x a b hx => ?_⟩
          obtain rfl : j = k := by omega
          rw [hy] at hx
          injection hx with e
          subst e
          omega
  obtain ⟨k, hk, h1, h2⟩ := key L.length (Nat.le_refl _)
  have hs : Stand L id k := ⟨hk, h1, fun j x a hx => h2 j x a (List.getElem?_eq_some_iff.1 hx).1 hx⟩
  by_cases hkl : k < L.length
  · obtain ⟨z, hz⟩ : ∃ z, L[k]? = some z := ⟨L[k]'hkl, List.getElem?_eq_getElem _⟩
    have hge := hs.hi k z (Nat.le_refl _) hz
    by_cases he : z.id = id
    · exact ⟨k, true, hs, fun _ => ⟨z, hz, he⟩, fun h => by cases h⟩
    · exact ⟨k, false, hs, fun h => (by cases h), fun _ x hx => by rw [hz] at hx; injection hx with e; subst e; omega⟩
  · exact ⟨k, false, hs, fun h => (by cases h), fun _ x hx => by have := (List.getElem?_eq_some_iff.1 hx).1; omega⟩
/-- What is not found is not there. -/
theorem find_none {L : List Le} {id : Int} {k : Nat} (h : FindAns L id k false) (hr : Rise L) : ∀ y ∈ L, y.id ≠ id := by
  intro y hy e
  obtain ⟨j, hj⟩ := List.mem_iff_getElem?.1 hy
  by_cases hjk : j < k
  · have := h.1.lo j y hjk hj; omega
  · have hk : k < L.length := by have := (List.getElem?_eq_some_iff.1 hj).1; omega
    have h1 := h.2.2 rfl _ (List.getElem?_eq_getElem hk)
    have h2 : L[k].id ≤ y.id := by
      by_cases e2 : j = k
      · subst e2; rw [List.getElem?_eq_getElem hk] at hj; injection hj with hj; rw [hj]; exact Int.le_refl _
      · have hjl := (List.getElem?_eq_some_iff.1 hj).1
        have := List.pairwise_iff_getElem.1 hr k j hk hjl (by omega)
        rw [List.getElem?_eq_getElem hjl] at hj
        injection hj with hj
        rw [hj] at this
        omega
    omega
theorem find_some {L : List Le} {id : Int} {k : Nat} (h : FindAns L id k true) (hr : Rise L) : L.eraseIdx k = rm L id ∧ k < L.length ∧ (rm L id).length + 1 = L.length := by
  obtain ⟨x, hx, e⟩ := h.2.1 rfl
  have hk := (List.getElem?_eq_some_iff.1 hx).1
  have := erase_rm hr hx
  rw [e] at this
  refine ⟨this, hk, ?_⟩
  rw [← this, List.length_eraseIdx, if_pos hk]
  omega
/-- A number that is above all others ends a rising row. -/
theorem Rise.snoc {L : List Le} (h : Rise L) {x : Le} (hx : ∀ y ∈ L, y.id < x.id) : Rise (L ++ [x]) := by
  unfold Rise
  rw [List.pairwise_append]
  exact ⟨h, List.pairwise_singleton _ _, fun a ha b hb => by simp at hb; subst hb; exact hx a ha⟩
end Go.Proofs.Ytacchkokbibeaaa
