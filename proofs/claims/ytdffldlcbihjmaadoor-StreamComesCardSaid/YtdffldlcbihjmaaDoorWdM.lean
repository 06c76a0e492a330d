/- Words: what they are, their bytes, and back (plain mathematics). -/
import Derived.Test.YtdffldlcbihjmaaDoorFrM
import Derived.Test.YtdffldlcbihjmaaDoorRecList
import Derived.Test.YtdffldlcbihjmaaDoorRdNums
set_option linter.unusedSimpArgs false
set_option linter.unusedVariables false
namespace Go.Proofs.YtdffldlcbihjmaaDoor

theorem listR_enc : ∀ (rs : List Rc) (t : List Int) (acc : List Rc), (∀ r ∈ rs, r.Ok) → listR rs.length (some (bodyE rs ++ t)) acc = some (acc ++ rs, some t)
  | [], t, acc, _ => by simp [bodyE, listR]
  | r :: rs, t, acc, h => by
    have hr := h r (List.mem_cons_self ..)
    have e1 : bodyE (r :: rs) ++ t = encN (encR r).length ++ (encR r ++ (bodyE rs ++ t)) := by simp [bodyE]
    have e2 := rBytes_enc (encR r) (bodyE rs ++ t) (by have := encR_len r hr; omega)
    show listR (rs.length + 1) _ _ = _
    rw [e1, listR_some (r := r) (by rw [e2]; exact decR_enc r hr), e2, listR_enc rs t (acc ++ [r]) (fun x hx => h x (List.mem_cons_of_mem _ hx))]
    simp
theorem rdL_enc {rs : List Rc} (h : lsC rs = 0) : rdL (lsV rs) = some rs ∧ rs.length ≤ 64 := by
  by_cases h64 : 64 < rs.length
  · rw [(ls_long h64).2] at h; omega
  by_cases ho : ∀ r ∈ rs, okR r = true
  · have hy := ls_yes h64 ho
    rw [hy.1]
    have hn := rNum_enc rs.length (bodyE rs) (by omega)
    refine ⟨rdL_yes (by rw [hn]; exact h64) ?_, by omega⟩
    rw [hn]
    have := listR_enc rs [] [] (fun r hr => (ok_iff r).1 (ho r hr))
    simpa using this
  · simp only [Classical.not_forall] at ho
    obtain ⟨r, hr, ho⟩ := ho
    rw [(ls_bad h64 hr (by simpa using ho)).2] at h
    omega
theorem lsV_len (rs : List Rc) : (lsV rs).length ≤ 80000 := by
  by_cases h64 : 64 < rs.length
  · rw [(ls_long h64).1]; simp
  by_cases ho : ∀ r ∈ rs, okR r = true
  · rw [(ls_yes h64 ho).1]
    have h1 := bodyE_len rs (fun r hr => (ok_iff r).1 (ho r hr))
    have h2 := enc2_len (n := rs.length) (by omega)
    rw [List.length_append]
    have : rs.length * 1202 ≤ 64 * 1202 := Nat.mul_le_mul_right _ (by omega)
    omega
  · simp only [Classical.not_forall] at ho
    obtain ⟨r, hr, ho⟩ := ho
    rw [(ls_bad h64 hr (by simpa using ho)).1]
    simp
theorem bodyE_by : ∀ (rs : List Rc), (∀ r ∈ rs, isBy r.key ∧ isBy r.val) → isBy (bodyE rs)
  | [], _ => isBy_nil
  | r :: rs, h => isBy_append (isBy_append (encN_by _) (encR_by r (h r (List.mem_cons_self ..)).1 (h r (List.mem_cons_self ..)).2)) (bodyE_by rs (fun x hx => h x (List.mem_cons_of_mem _ hx)))
theorem lsV_by {rs : List Rc} (h : ∀ r ∈ rs, isBy r.key ∧ isBy r.val) : isBy (lsV rs) := by
  unfold lsV
  repeat' split
  · exact isBy_nil
  · exact isBy_append (encN_by _) (bodyE_by rs h)
  · exact isBy_nil
/-- A word. -/
structure Wd where
  k : Int
  o : Int
  s : Int
  m1 : Int
  c1 : Int
  m2 : Int
  c2 : Int
  rs : List Rc
/-- Records of one place that go on from a number. -/
def rowB (o s : Int) : List Rc → Bool
  | [] => true
  | r :: t => okR r && (decide (r.o = o) && (decide (r.s = s) && rowB o (s + 1) t))
def bareW (w : Wd) : Bool := decide (w.m1 = 0) && (decide (w.c1 = 0) && (decide (w.m2 = 0) && decide (w.c2 = 0)))
def headW (w : Wd) : Bool := decide (0 ≤ w.o) && (decide (w.o < 5) && (decide (0 ≤ w.s) && decide (w.s ≤ 1099511627776)))
def okW (w : Wd) : Bool := headW w && (if w.k = 1 then bareW w && (rowB w.o w.s w.rs && (decide (1 ≤ w.rs.length) && decide (w.rs.length ≤ 64)))
  else if w.k = 2 then bareW w && w.rs.isEmpty else if w.k = 3 then isStampB w.m1 w.c1 && (isStampB w.m2 w.c2 && w.rs.isEmpty) else false)
def encW (w : Wd) : List Int := numsE [w.k, w.o, w.s] ++ (if w.k = 1 then lsV w.rs else if w.k = 3 then numsE [w.m1, w.c1, w.m2, w.c2] else [])
theorem rowB_ok : ∀ (rs : List Rc) (o s : Int), rowB o s rs = true → ∀ r ∈ rs, okR r = true
  | [], _, _, _, r, hr => by cases hr
  | x :: t, o, s, h, r, hr => by
    simp only [rowB, Bool.and_eq_true] at h
    rcases List.mem_cons.1 hr with rfl | hr
    · exact h.1
    · exact rowB_ok t o (s + 1) h.2.2.2 r hr
theorem headW_bd {w : Wd} (h : headW w = true) : 0 ≤ w.o ∧ w.o < 5 ∧ 0 ≤ w.s ∧ w.s ≤ 1099511627776 := by
  simpa [headW] using h
theorem bareW_eq {w : Wd} (h : bareW w = true) : w.m1 = 0 ∧ w.c1 = 0 ∧ w.m2 = 0 ∧ w.c2 = 0 := by
  simpa [bareW] using h
theorem okW_kind {w : Wd} (h : okW w = true) : headW w = true ∧ ((w.k = 1 ∧ bareW w = true ∧ rowB w.o w.s w.rs = true ∧ 1 ≤ w.rs.length ∧ w.rs.length ≤ 64) ∨ (w.k = 2 ∧ bareW w = true ∧ w.rs = []) ∨ (w.k = 3 ∧ isStampB w.m1 w.c1 = true ∧ isStampB w.m2 w.c2 = true ∧ w.rs = [])) := by
  unfold okW at h
  rw [Bool.and_eq_true] at h
  refine ⟨h.1, ?_⟩
  have h2 := h.2
  split at h2
  · rename_i hk
    simp only [Bool.and_eq_true, decide_eq_true_eq] at h2
    exact .inl ⟨hk, h2.1, h2.2.1, h2.2.2.1, h2.2.2.2⟩
  · split at h2
    · rename_i hk
      simp only [Bool.and_eq_true, List.isEmpty_iff] at h2
      exact .inr (.inl ⟨hk, h2.1, h2.2⟩)
    · split at h2
      · rename_i hk
        simp only [Bool.and_eq_true, List.isEmpty_iff] at h2
        exact .inr (.inr ⟨hk, h2.1, h2.2.1, h2.2.2⟩)
      · cases h2
theorem lsC_ok {rs : List Rc} (h64 : rs.length ≤ 64) (h : ∀ r ∈ rs, okR r = true) : lsC rs = 0 := (ls_yes (by omega) h).2
theorem numsE_cons (x : Int) (zs : List Int) : numsE (x :: zs) = encN x.toNat ++ numsE zs := rfl
theorem numsE_by (zs : List Int) : isBy (numsE zs) := by
  induction zs with
  | nil => exact isBy_nil
  | cons x zs ih => exact isBy_append (encN_by _) ih
theorem numsE_len9 (zs : List Int) (h : ∀ x ∈ zs, x ≤ 4611686018427387904) : (numsE zs).length ≤ 9 * zs.length := by
  induction zs with
  | nil => simp [numsE]
  | cons x zs ih =>
    have hx := h x (by simp)
    have e9 : (128 : Nat) ^ 9 = 9223372036854775808 := by decide
    have h1 := encN_len x.toNat 9 (by omega) (by rw [e9]; omega)
    have h2 := ih (fun y hy => h y (by simp [hy]))
    rw [numsE_cons, List.length_append, List.length_cons]
    omega
theorem stamp_bdW {m c : Int} (h : isStampB m c = true) : 0 ≤ m ∧ m ≤ 281474976710655 ∧ 0 ≤ c ∧ c ≤ 65535 := by
  simp [isStampB, isMilliB] at h; omega
theorem encW_bd {w : Wd} (h : okW w = true) : 0 < (encW w).length ∧ (encW w).length ≤ 100000 := by
  obtain ⟨hh, hk⟩ := okW_kind h
  obtain ⟨a1, a2, a3, a4⟩ := headW_bd hh
  have h3 : (numsE [w.k, w.o, w.s]).length ≤ 27 := by
    have := numsE_len9 [w.k, w.o, w.s] (by
      intro x hx
      simp at hx
      rcases hk with ⟨e, _⟩ | ⟨e, _⟩ | ⟨e, _⟩ <;> rcases hx with rfl | rfl | rfl <;> omega)
    simpa using this
  have h0 : 0 < (numsE [w.k, w.o, w.s]).length := by
    rw [numsE_cons, List.length_append]
    have := encN_len0 w.k.toNat
    omega
  unfold encW
  rw [List.length_append]
  refine ⟨by omega, ?_⟩
  split
  · have := lsV_len w.rs; omega
  · split
    · rename_i hk3
      rcases hk with ⟨e, _⟩ | ⟨e, _⟩ | ⟨e, s1, s2, _⟩
      · omega
      · omega
      · have b1 := stamp_bdW s1
        have b2 := stamp_bdW s2
        have := numsE_len9 [w.m1, w.c1, w.m2, w.c2] (by
          intro x hx
          simp at hx
          rcases hx with rfl | rfl | rfl | rfl <;> omega)
        simp at this
        omega
    · simp; omega
theorem encW_by {w : Wd} (hb : ∀ r ∈ w.rs, isBy r.key ∧ isBy r.val) : isBy (encW w) := by
  unfold encW
  refine isBy_append (numsE_by _) ?_
  split
  · exact lsV_by hb
  · split
    · exact numsE_by _
    · exact isBy_nil
theorem numsR_encN : ∀ (n : Nat) (zs : List Int) (t : List Int), zs.length = n → (∀ x ∈ zs, 0 ≤ x ∧ x ≤ 4611686018427387904) → numsR n (some (numsE zs ++ t)) = (zs.map Int.toNat, some t)
  | 0, zs, t, hl, _ => by
    obtain rfl := List.length_eq_zero_iff.1 hl
    rfl
  | n + 1, zs, t, hl, h => by
    have hne : zs ≠ [] := by rintro rfl; simp at hl
    obtain ⟨ys, x, rfl⟩ : ∃ ys x, zs = ys ++ [x] := ⟨zs.dropLast, zs.getLast hne, (List.dropLast_concat_getLast hne).symm⟩
    have hyl : ys.length = n := by simpa using hl
    have hx := h x (by simp)
    have e : numsE (ys ++ [x]) ++ t = numsE ys ++ (encN x.toNat ++ t) := by
      rw [numsE_append, List.append_assoc]; simp [numsE]
    have hi := numsR_encN n ys (encN x.toNat ++ t) hyl (fun y hy => h y (by simp [hy]))
    rw [e]
    show ((numsR n _).1 ++ [(rNum (numsR n _).2).1], (rNum (numsR n _).2).2) = _
    rw [hi, rNum_enc x.toNat t (by omega)]
    simp
theorem numsR_enc (zs : List Int) (t : List Int) (h : ∀ x ∈ zs, 0 ≤ x ∧ x ≤ 4611686018427387904) : numsR zs.length (some (numsE zs ++ t)) = (zs.map Int.toNat, some t) := numsR_encN _ zs t rfl h
/-- What bytes tell as a word. -/
def chkW (w : Wd) (st : RSt) : Option Wd := if st = some [] ∧ okW w = true then some w else none
def decW (p : List Int) : Option Wd :=
  let r := numsR 3 (some p)
  let k : Int := (r.1.getD 0 0 : Nat)
  let o : Int := (r.1.getD 1 0 : Nat)
  let s : Int := (r.1.getD 2 0 : Nat)
  if k = 1 then match rdL (rRaw (rLeft r.2) r.2).1 with
    | none => none
    | some rs => chkW ⟨k, o, s, 0, 0, 0, 0, rs⟩ (rRaw (rLeft r.2) r.2).2
  else if k = 3 then
    let q := numsR 4 r.2
    chkW ⟨k, o, s, (q.1.getD 0 0 : Nat), (q.1.getD 1 0 : Nat), (q.1.getD 2 0 : Nat), (q.1.getD 3 0 : Nat), []⟩ q.2
  else chkW ⟨k, o, s, 0, 0, 0, 0, []⟩ r.2
theorem decW_enc {w : Wd} (h : okW w = true) : decW (encW w) = some w := by
  obtain ⟨hh, hk⟩ := okW_kind h
  obtain ⟨a1, a2, a3, a4⟩ := headW_bd hh
  obtain ⟨k, o, s, m1, c1, m2, c2, rs⟩ := w
  simp only at a1 a2 a3 a4 hk
  have hb3 : ∀ x ∈ [k, o, s], 0 ≤ x ∧ x ≤ 4611686018427387904 := by
    intro x hx
    simp at hx
    rcases hk with ⟨e, _⟩ | ⟨e, _⟩ | ⟨e, _⟩ <;> rcases hx with rfl | rfl | rfl <;> omega
  have h3 := fun t => numsR_enc [k, o, s] t hb3
  rcases hk with ⟨rfl, hz, hr, h1, h64⟩ | ⟨rfl, hz, rfl⟩ | ⟨rfl, s1, s2, rfl⟩
  · obtain ⟨z1, z2, z3, z4⟩ := bareW_eq hz
    simp only at z1 z2 z3 z4
    subst z1 z2 z3 z4
    have he : encW ⟨1, o, s, 0, 0, 0, 0, rs⟩ = numsE [1, o, s] ++ lsV rs := by unfold encW; rw [if_pos rfl]
    have hl := rdL_enc (lsC_ok h64 (rowB_ok rs o s hr))
    have hraw : rRaw (lsV rs).length (some (lsV rs)) = (lsV rs, some []) := by
      have := rRaw_app (lsV rs) []
      rwa [List.append_nil] at this
    unfold decW
    rw [he]
    have h3' := h3 (lsV rs)
    simp only [List.length_cons, List.length_nil] at h3'
    rw [h3']
    simp only [List.map_cons, List.map_nil, List.getD_cons_zero, List.getD_cons_succ]
    have e1 : (((1 : Int).toNat : Nat) : Int) = 1 := rfl
    have e2 : ((o.toNat : Nat) : Int) = o := by omega
    have e3 : ((s.toNat : Nat) : Int) = s := by omega
    rw [e1, e2, e3, if_pos rfl, show rLeft (some (lsV rs)) = (lsV rs).length from rfl, hraw]
    simp only [hl.1]
    unfold chkW
    rw [if_pos ⟨rfl, h⟩]
  · obtain ⟨z1, z2, z3, z4⟩ := bareW_eq hz
    simp only at z1 z2 z3 z4
    subst z1 z2 z3 z4
    have he : encW ⟨2, o, s, 0, 0, 0, 0, []⟩ = numsE [2, o, s] ++ [] := by unfold encW; rw [if_neg (by simp), if_neg (by simp)]
    unfold decW
    rw [he]
    have h3' := h3 []
    simp only [List.length_cons, List.length_nil] at h3'
    rw [h3']
    simp only [List.map_cons, List.map_nil, List.getD_cons_zero, List.getD_cons_succ]
    have e1 : (((2 : Int).toNat : Nat) : Int) = 2 := rfl
    have e2 : ((o.toNat : Nat) : Int) = o := by omega
    have e3 : ((s.toNat : Nat) : Int) = s := by omega
    rw [e1, e2, e3, if_neg (by decide), if_neg (by decide)]
    unfold chkW
    rw [if_pos ⟨rfl, h⟩]
  · have he : encW ⟨3, o, s, m1, c1, m2, c2, []⟩ = numsE [3, o, s] ++ numsE [m1, c1, m2, c2] := by unfold encW; rw [if_neg (by simp), if_pos rfl]
    have b1 := stamp_bdW s1
    have b2 := stamp_bdW s2
    have h4 := numsR_enc [m1, c1, m2, c2] [] (by
      intro x hx
      simp at hx
      rcases hx with rfl | rfl | rfl | rfl <;> omega)
    unfold decW
    rw [he]
    have h3' := h3 (numsE [m1, c1, m2, c2])
    simp only [List.length_cons, List.length_nil] at h3'
    rw [h3']
    simp only [List.map_cons, List.map_nil, List.getD_cons_zero, List.getD_cons_succ]
    have e1 : (((3 : Int).toNat : Nat) : Int) = 3 := rfl
    have e2 : ((o.toNat : Nat) : Int) = o := by omega
    have e3 : ((s.toNat : Nat) : Int) = s := by omega
    rw [e1, e2, e3, if_neg (by decide), if_pos rfl]
    rw [List.append_nil] at h4
    simp only [List.length_cons, List.length_nil] at h4
    rw [h4]
    simp only [List.map_cons, List.map_nil, List.getD_cons_zero, List.getD_cons_succ]
    have f1 : ((m1.toNat : Nat) : Int) = m1 := by omega
    have f2 : ((c1.toNat : Nat) : Int) = c1 := by omega
    have f3 : ((m2.toNat : Nat) : Int) = m2 := by omega
    have f4 : ((c2.toNat : Nat) : Int) = c2 := by omega
    rw [f1, f2, f3, f4]
    unfold chkW
    rw [if_pos ⟨rfl, h⟩]
theorem encW_inj {a b : Wd} (ha : okW a = true) (hb : okW b = true) (h : encW a = encW b) : a = b := by
  have h1 := decW_enc ha
  rw [h, decW_enc hb] at h1
  injection h1 with h1
  exact h1.symm
end Go.Proofs.YtdffldlcbihjmaaDoor
