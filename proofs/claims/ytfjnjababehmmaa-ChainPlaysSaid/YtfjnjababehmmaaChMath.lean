/- Chains as lists: where a version goes, what is there at a stamp (plain mathematics). -/
import Derived.Test.YtfjnjababehmmaaChFind
import Derived.Test.YtfjnjababehmmaaChSeen
set_option linter.unusedSimpArgs false
set_option linter.unusedVariables false
namespace Go.Proofs.Ytfjnjababehmmaa

def posP (p : Vs → Bool) (L : List Vs) : Nat := (L.takeWhile p).length
theorem takeWhile_at {p : Vs → Bool} : ∀ {L : List Vs} {j : Nat} {x : Vs}, j < (L.takeWhile p).length → L[j]? = some x → p x = true
  | [], j, x, h, _ => by simp at h
  | a :: t, j, x, h, hx => by
    rw [List.takeWhile_cons] at h
    split at h
    · cases j with
      | zero => simp at hx; subst hx; assumption
      | succ j => exact takeWhile_at (L := t) (j := j) (by simpa using h) (by simpa using hx)
    · simp at h
theorem takeWhile_stop {p : Vs → Bool} : ∀ {L : List Vs} {x : Vs}, L[(L.takeWhile p).length]? = some x → p x = false
  | [], x, h => by simp at h
  | a :: t, x, h => by
    rw [List.takeWhile_cons] at h
    split at h
    · exact takeWhile_stop (L := t) (by simpa using h)
    · simp at h; subst h; simp_all
theorem posP_le (p : Vs → Bool) (L : List Vs) : posP p L ≤ L.length := (List.takeWhile_prefix p).length_le
theorem stand_of {L : List Mv} {p : Vs → Bool} {q : Vs → Prop} (hq : ∀ x, p x = true ↔ q x) (hm : ∀ (i j : Nat) x y, i < j → (L.map Mv.v)[i]? = some x → (L.map Mv.v)[j]? = some y → p y = true → p x = true) : StandV L q (posP p (L.map Mv.v)) := by
  refine ⟨by have := posP_le p (L.map Mv.v); simpa using this, fun j x hj hx => (hq _).1 (takeWhile_at hj (by simp [hx])), fun j x hj hx h => ?_⟩
  have hjl := (List.getElem?_eq_some_iff.1 hx).1
  have hp := (hq _).2 h
  obtain ⟨y, hy⟩ : ∃ y, (L.map Mv.v)[posP p (L.map Mv.v)]? = some y := ⟨(L.map Mv.v)[posP p (L.map Mv.v)]'(by simp; omega), List.getElem?_eq_getElem _⟩
  have hs := takeWhile_stop (p := p) hy
  rcases Nat.lt_or_ge (posP p (L.map Mv.v)) j with r | r
  · rw [hm _ j y x.v r hy (by simp [hx]) hp] at hs
    cases hs
  · obtain rfl : j = posP p (L.map Mv.v) := by omega
    rw [show (L.map Mv.v)[posP p (L.map Mv.v)]? = some x.v from by simp [hx]] at hy
    injection hy with hy
    subst hy
    rw [hp] at hs
    cases hs
def ltP (v x : Vs) : Bool := decide (cmpV x v < 0)
def leT (t : Int × Int) (x : Vs) : Bool := decide (cmp2 x.ml x.ct t.1 t.2 ≤ 0)
def posV (L : List Vs) (v : Vs) : Nat := posP (ltP v) L
def posT (L : List Vs) (t : Int × Int) : Nat := posP (leT t) L
theorem LtV.trans {a b c : Vs} (h : LtV a b) (k : LtV b c) : LtV a c := by unfold LtV at *; omega
theorem cmp2_le {a b c d : Int} : cmp2 a b c d ≤ 0 ↔ a < c ∨ a = c ∧ b ≤ d := by
  unfold cmp2 or2 cmp1
  (repeat' split) <;> omega
theorem stand_v {L : List Mv} (h : Rise (L.map Mv.v)) (v : Vs) : StandV L (fun x => cmpV x v < 0) (posV (L.map Mv.v) v) :=
  stand_of (fun x => by simp [ltP]) (fun i j x y hij hx hy hp => by
    have h1 := h i j x y hij hx hy
    have h2 : LtV y v := cmpV_lt.1 (by simpa [ltP] using hp)
    simpa [ltP] using cmpV_lt.2 (h1.trans h2))
theorem stand_t {L : List Mv} (h : Rise (L.map Mv.v)) (t : Int × Int) : StandV L (fun x => cmp2 x.ml x.ct t.1 t.2 ≤ 0) (posT (L.map Mv.v) t) :=
  stand_of (fun x => by simp [leT]) (fun i j x y hij hx hy hp => by
    have h1 := h i j x y hij hx hy
    have h2 := cmp2_le.1 (by simpa [leT] using hp : cmp2 y.ml y.ct t.1 t.2 ≤ 0)
    have h3 : cmp2 x.ml x.ct t.1 t.2 ≤ 0 := cmp2_le.2 (by unfold LtV at h1; omega)
    simpa [leT] using h3)
def hasAt (L : List Vs) (v : Vs) : Bool := match L[posV L v]? with | some x => decide (cmpV x v = 0) | none => false
theorem has_v {L : List Mv} (v : Vs) : HasV L v (posV (L.map Mv.v) v) (hasAt (L.map Mv.v) v) := by
  have key : ∀ x : Mv, L[posV (L.map Mv.v) v]? = some x → 0 ≤ cmpV x.v v := fun x hx => by
    have := takeWhile_stop (p := ltP v) (L := L.map Mv.v) (x := x.v) (by show (L.map Mv.v)[posV (L.map Mv.v) v]? = _; simp [hx])
    simpa [ltP] using this
  unfold hasAt HasV
  cases hc : L[posV (L.map Mv.v) v]? with
  | none => simp [hc]
  | some x =>
    have := key x hc
    simp [hc]
    omega
def putE (L : List Vs) (v : Vs) : Int := if v.ok = true then (if hasAt L v = true then 8 else 0) else 1
def putL (L : List Vs) (v : Vs) : List Vs := L.take (posV L v) ++ v :: L.drop (posV L v)
theorem putE_ok {L : List Vs} {v : Vs} (h : putE L v = 0) : v.ok = true ∧ hasAt L v = false := by
  unfold putE at h
  split at h
  · split at h
    · omega
    · simp_all
  · omega
theorem rise_put {L : List Vs} {v : Vs} (h : Rise L) (hh : hasAt L v = false) : Rise (putL L v) := by
  have hle := posP_le (ltP v) L
  have hlo : ∀ j x, j < posV L v → L[j]? = some x → LtV x v := fun j x hj hx => cmpV_lt.1 (by simpa [ltP] using takeWhile_at (p := ltP v) hj hx)
  have hhi : ∀ j x, posV L v ≤ j → L[j]? = some x → LtV v x := fun j x hj hx => by
    have hjl := (List.getElem?_eq_some_iff.1 hx).1
    obtain ⟨y, hy⟩ : ∃ y, L[posV L v]? = some y := ⟨L[posV L v]'(by omega), List.getElem?_eq_getElem _⟩
    have hs := takeWhile_stop (p := ltP v) (L := L) hy
    have h0 : ¬ cmpV y v < 0 := by simpa [ltP] using hs
    have h1 : ¬ cmpV y v = 0 := by
      unfold hasAt at hh
      rw [hy] at hh
      simpa using hh
    have h2 : LtV v y := cmpV_gt.1 (by omega)
    rcases Nat.lt_or_ge (posV L v) j with r | r
    · exact h2.trans (h _ j y x r hy hx)
    · obtain rfl : j = posV L v := by omega
      rw [hx] at hy
      injection hy with hy
      subst hy
      exact h2
  have hle' : posV L v ≤ L.length := hle
  have hat : ∀ (i : Nat) x, (putL L v)[i]? = some x → (i < posV L v ∧ L[i]? = some x) ∨ (i = posV L v ∧ x = v) ∨ (posV L v < i ∧ L[i - 1]? = some x) := fun i x hx => by
    unfold putL at hx
    have htl : (L.take (posV L v)).length = posV L v := by rw [List.length_take]; omega
    rcases Nat.lt_trichotomy i (posV L v) with r | r | r
    · rw [List.getElem?_append_left (by omega), List.getElem?_take_of_lt r] at hx
      exact .inl ⟨r, hx⟩
    · rw [List.getElem?_append_right (by omega), htl, r, Nat.sub_self] at hx
      simp at hx
      exact .inr (.inl ⟨r, hx.symm⟩)
    · rw [List.getElem?_append_right (by omega), htl, show i - posV L v = (i - posV L v - 1) + 1 from by omega, List.getElem?_cons_succ, List.getElem?_drop, show posV L v + (i - posV L v - 1) = i - 1 from by omega] at hx
      exact .inr (.inr ⟨r, hx⟩)
  intro i j x y hij hx hy
  rcases hat i x hx with ⟨r1, h1⟩ | ⟨r1, rfl⟩ | ⟨r1, h1⟩
  · rcases hat j y hy with ⟨r2, h2⟩ | ⟨r2, rfl⟩ | ⟨r2, h2⟩
    · exact h i j x y hij h1 h2
    · exact hlo i x r1 h1
    · exact h i (j - 1) x y (by omega) h1 h2
  · rcases hat j y hy with ⟨r2, h2⟩ | ⟨r2, rfl⟩ | ⟨r2, h2⟩
    · omega
    · omega
    · exact hhi (j - 1) y (by omega) h2
  · rcases hat j y hy with ⟨r2, h2⟩ | ⟨r2, rfl⟩ | ⟨r2, h2⟩
    · omega
    · omega
    · exact h (i - 1) (j - 1) x y (by omega) h1 h2
theorem rise_nil : Rise [] := fun i j x y _ h => by simp at h
theorem rise_drop {L : List Vs} (h : Rise L) (n : Nat) : Rise (L.drop n) := fun i j x y hij hx hy => by
  rw [List.getElem?_drop] at hx hy
  exact h (n + i) (n + j) x y (by omega) hx hy
/-- Versions laid one behind the other. -/
def ofM : List Vs → List Vs → Int × List Vs
  | acc, [] => (0, acc)
  | acc, v :: t => if putE acc v = 0 then ofM (putL acc v) t else (putE acc v, [])
theorem putL_len (L : List Vs) (v : Vs) : (putL L v).length = L.length + 1 := by
  have := posP_le (ltP v) L
  unfold putL posV
  simp
  omega
theorem putL_mem {L : List Vs} {v x : Vs} : x ∈ putL L v ↔ x = v ∨ x ∈ L := by
  unfold putL
  have e : ∀ n, x ∈ L ↔ x ∈ L.take n ∨ x ∈ L.drop n := fun n => by
    conv => lhs; rw [← List.take_append_drop n L]
    rw [List.mem_append]
  rw [List.mem_append, List.mem_cons, e (posV L v)]
  constructor <;> (rintro (h | h | h) <;> simp [h])
end Go.Proofs.Ytfjnjababehmmaa
