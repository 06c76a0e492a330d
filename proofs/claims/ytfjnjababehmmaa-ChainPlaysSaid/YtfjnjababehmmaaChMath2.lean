/- Chains as lists: more (plain mathematics). -/
import Derived.Test.YtfjnjababehmmaaChMath
import Derived.Test.YtfjnjababehmmaaSameVR
set_option linter.unusedSimpArgs false
set_option linter.unusedVariables false
namespace Go.Proofs.Ytfjnjababehmmaa

theorem Vs.ext_iff' {a b : Vs} : a = b ↔ a.ml = b.ml ∧ a.ct = b.ct ∧ a.vo = b.vo ∧ a.val = b.val ∧ a.gone = b.gone ∧ a.tt = b.tt := by
  cases a; cases b; simp
theorem sameVB_iff (a b : Vs) : sameVB a.ml a.ct a.vo a.val a.gone a.tt b.ml b.ct b.vo b.val b.gone b.tt = true ↔ a = b := by
  rw [Vs.ext_iff']
  simp [sameVB]
theorem posP_eq {p : Vs → Bool} {L : List Vs} {i : Nat} {x : Vs} (h : ∀ j y, j < i → L[j]? = some y → p y = true) (hx : L[i]? = some x) (hp : p x = false) : posP p L = i := by
  have hil := (List.getElem?_eq_some_iff.1 hx).1
  rcases Nat.lt_trichotomy (posP p L) i with r | r | r
  · obtain ⟨y, hy⟩ : ∃ y, L[posP p L]? = some y := ⟨L[posP p L]'(by omega), List.getElem?_eq_getElem _⟩
    have h1 := takeWhile_stop (p := p) hy
    rw [h _ y r hy] at h1
    cases h1
  · exact r
  · rw [takeWhile_at (p := p) r hx] at hp
    cases hp
theorem posP_all {p : Vs → Bool} {L : List Vs} (h : ∀ x ∈ L, p x = true) : posP p L = L.length := by
  have hle := posP_le p L
  rcases Nat.lt_or_ge (posP p L) L.length with r | r
  · have hy : L[posP p L]? = some (L[posP p L]'r) := List.getElem?_eq_getElem _
    have h1 := takeWhile_stop (p := p) hy
    rw [h _ (List.getElem_mem r)] at h1
    cases h1
  · omega
theorem posP_none {p : Vs → Bool} {L : List Vs} (h : ∀ x ∈ L, p x = false) : posP p L = 0 := by
  rcases Nat.eq_zero_or_pos (posP p L) with r | r
  · exact r
  · have hle := posP_le p L
    have hy : L[0]? = some (L[0]'(by omega)) := List.getElem?_eq_getElem _
    have h1 := takeWhile_at (p := p) (j := 0) r hy
    rw [h _ (List.getElem_mem _)] at h1
    cases h1
theorem has_of_mem {L : List Vs} {x v : Vs} (h : Rise L) (hx : x ∈ L) (he : cmpV x v = 0) : hasAt L v = true := by
  obtain ⟨i, hi, rfl⟩ := List.mem_iff_getElem.1 hx
  have hxi : L[i]? = some L[i] := List.getElem?_eq_getElem hi
  have hk := cmpV_eq.1 he
  have hp : posV L v = i := posP_eq (p := ltP v) (fun j y hj hy => by
    have h1 := h j i y _ hj hy hxi
    have h2 : LtV y v := by unfold LtV at *; omega
    simpa [ltP] using cmpV_lt.2 h2) hxi (by simp [ltP, he])
  unfold hasAt
  rw [hp, hxi]
  simpa using he
theorem mem_of_has {L : List Vs} {v : Vs} (h : hasAt L v = true) : ∃ x ∈ L, cmpV x v = 0 := by
  unfold hasAt at h
  split at h
  · rename_i x hx
    exact ⟨x, List.mem_of_getElem? hx, by simpa using h⟩
  · cases h
theorem ofM_mem : ∀ {l acc : List Vs}, (ofM acc l).1 = 0 → ∀ x, x ∈ (ofM acc l).2 ↔ x ∈ acc ∨ x ∈ l
  | [], acc, _, x => by simp [ofM]
  | v :: t, acc, h, x => by
    by_cases hp : putE acc v = 0
    · have e : ofM acc (v :: t) = ofM (putL acc v) t := by rw [ofM, if_pos hp]
      rw [e] at h ⊢
      rw [ofM_mem h x, putL_mem, List.mem_cons]
      constructor
      · rintro ((q | q) | q)
        · exact .inr (.inl q)
        · exact .inl q
        · exact .inr (.inr q)
      · rintro (q | q | q)
        · exact .inl (.inr q)
        · exact .inl (.inl q)
        · exact .inr q
    · have e : ofM acc (v :: t) = (putE acc v, []) := by rw [ofM, if_neg hp]
      rw [e] at h
      exact absurd h hp
theorem ofM_len : ∀ {l acc : List Vs}, (ofM acc l).1 = 0 → (ofM acc l).2.length = acc.length + l.length
  | [], acc, _ => by simp [ofM]
  | v :: t, acc, h => by
    by_cases hp : putE acc v = 0
    · have e : ofM acc (v :: t) = ofM (putL acc v) t := by rw [ofM, if_pos hp]
      rw [e] at h ⊢
      rw [ofM_len h, putL_len, List.length_cons]
      omega
    · have e : ofM acc (v :: t) = (putE acc v, []) := by rw [ofM, if_neg hp]
      rw [e] at h
      exact absurd h hp
theorem ofM_ok : ∀ {l acc : List Vs}, (ofM acc l).1 = 0 → ∀ x ∈ l, x.ok = true
  | [], acc, _, x, hx => by cases hx
  | v :: t, acc, h, x, hx => by
    by_cases hp : putE acc v = 0
    · have e : ofM acc (v :: t) = ofM (putL acc v) t := by rw [ofM, if_pos hp]
      rw [e] at h
      rcases List.mem_cons.1 hx with rfl | hx
      · exact (putE_ok hp).1
      · exact ofM_ok h x hx
    · have e : ofM acc (v :: t) = (putE acc v, []) := by rw [ofM, if_neg hp]
      rw [e] at h
      exact absurd h hp
/-- Whether versions may be laid: each is one, and no two have one place. -/
def Fine (acc l : List Vs) : Prop := (∀ x ∈ l, x.ok = true) ∧ (∀ x ∈ l, ∀ y ∈ acc, cmpV y x ≠ 0) ∧ l.Pairwise (fun x y => cmpV x y ≠ 0)
theorem cmpV_ne_symm {x y : Vs} (h : cmpV x y ≠ 0) : cmpV y x ≠ 0 := fun e => h (cmpV_eq.2 (by have := cmpV_eq.1 e; omega))
theorem ofM_fine : ∀ {l acc : List Vs}, Rise acc → ((ofM acc l).1 = 0 ↔ Fine acc l)
  | [], acc, _ => by simp [ofM, Fine]
  | v :: t, acc, hr => by
    by_cases hp : putE acc v = 0
    · have e : ofM acc (v :: t) = ofM (putL acc v) t := by rw [ofM, if_pos hp]
      obtain ⟨h1, h2⟩ := putE_ok hp
      rw [e, ofM_fine (rise_put hr h2)]
      have hno : ∀ y ∈ acc, cmpV y v ≠ 0 := fun y hy he => by rw [has_of_mem hr hy he] at h2; cases h2
      constructor
      · rintro ⟨a, b, c⟩
        refine ⟨fun x hx => ?_, fun x hx y hy => ?_, List.pairwise_cons.2 ⟨fun y hy => b y hy v (putL_mem.2 (.inl rfl)), c⟩⟩
        · rcases List.mem_cons.1 hx with rfl | hx
          · exact h1
          · exact a x hx
        · rcases List.mem_cons.1 hx with rfl | hx
          · exact hno y hy
          · exact b x hx y (putL_mem.2 (.inr hy))
      · rintro ⟨a, b, c⟩
        obtain ⟨c1, c2⟩ := List.pairwise_cons.1 c
        refine ⟨fun x hx => a x (List.mem_cons_of_mem _ hx), fun x hx y hy => ?_, c2⟩
        rcases putL_mem.1 hy with rfl | hy
        · exact c1 x hx
        · exact b x (List.mem_cons_of_mem _ hx) y hy
    · have e : ofM acc (v :: t) = (putE acc v, []) := by rw [ofM, if_neg hp]
      rw [e]
      constructor
      · exact fun h => absurd h hp
      · rintro ⟨a, b, _⟩
        exfalso
        apply hp
        have h1 := a v (List.mem_cons_self ..)
        have h2 : hasAt acc v = false := by
          cases hh : hasAt acc v with
          | false => rfl
          | true => obtain ⟨x, hx, he⟩ := mem_of_has hh; exact absurd he (b v (List.mem_cons_self ..) x hx)
        unfold putE
        simp [h1, h2]
theorem LtV.irrefl {a : Vs} : ¬ LtV a a := by unfold LtV; omega
theorem rise_tail {a : Vs} {t : List Vs} (h : Rise (a :: t)) : Rise t ∧ ∀ x ∈ t, LtV a x := by
  refine ⟨fun i j x y hij hx hy => h (i + 1) (j + 1) x y (by omega) (by simpa using hx) (by simpa using hy), fun x hx => ?_⟩
  obtain ⟨i, hi, rfl⟩ := List.mem_iff_getElem.1 hx
  exact h 0 (i + 1) a _ (by omega) (by simp) (by simp)
/-- Two rows that rise and have the same in them are one. -/
theorem rise_eq : ∀ {a b : List Vs}, Rise a → Rise b → (∀ x, x ∈ a ↔ x ∈ b) → a = b
  | [], [], _, _, _ => rfl
  | [], y :: t, _, _, h => by have := (h y).2 (List.mem_cons_self ..); simp at this
  | x :: s, [], _, _, h => by have := (h x).1 (List.mem_cons_self ..); simp at this
  | x :: s, y :: t, ha, hb, h => by
    obtain ⟨ha1, ha2⟩ := rise_tail ha
    obtain ⟨hb1, hb2⟩ := rise_tail hb
    have hxy : x = y := by
      rcases List.mem_cons.1 ((h x).1 (List.mem_cons_self ..)) with e | e
      · exact e
      · rcases List.mem_cons.1 ((h y).2 (List.mem_cons_self ..)) with e2 | e2
        · exact e2.symm
        · exact absurd ((hb2 x e).trans (ha2 y e2)) LtV.irrefl
    subst hxy
    rw [rise_eq ha1 hb1 (fun z => ⟨fun hz => ?_, fun hz => ?_⟩)]
    · rcases List.mem_cons.1 ((h z).1 (List.mem_cons_of_mem _ hz)) with e | e
      · subst e; exact absurd (ha2 z hz) LtV.irrefl
      · exact e
    · rcases List.mem_cons.1 ((h z).2 (List.mem_cons_of_mem _ hz)) with e | e
      · subst e; exact absurd (hb2 z hz) LtV.irrefl
      · exact e
theorem ofM_rise : ∀ {l acc : List Vs}, Rise acc → (ofM acc l).1 = 0 → Rise (ofM acc l).2
  | [], acc, hr, _ => by simpa [ofM] using hr
  | v :: t, acc, hr, h => by
    by_cases hp : putE acc v = 0
    · have e : ofM acc (v :: t) = ofM (putL acc v) t := by rw [ofM, if_pos hp]
      rw [e] at h ⊢
      exact ofM_rise (rise_put hr (putE_ok hp).2) h
    · have e : ofM acc (v :: t) = (putE acc v, []) := by rw [ofM, if_neg hp]
      rw [e] at h
      exact absurd h hp
theorem fine_rev {l : List Vs} (h : Fine [] l) : Fine [] l.reverse :=
  ⟨fun x hx => h.1 x (List.mem_reverse.1 hx), (fun _ _ _ hy => by cases hy), List.pairwise_reverse.2 (h.2.2.imp (fun hxy => cmpV_ne_symm hxy))⟩
theorem ofM_rev {l : List Vs} (h : (ofM [] l).1 = 0) : (ofM [] l.reverse).1 = 0 ∧ (ofM [] l.reverse).2 = (ofM [] l).2 := by
  have hf := (ofM_fine rise_nil).1 h
  have h2 := (ofM_fine rise_nil).2 (fine_rev hf)
  refine ⟨h2, rise_eq (ofM_rise rise_nil h2) (ofM_rise rise_nil h) (fun x => ?_)⟩
  rw [ofM_mem h2, ofM_mem h, List.mem_reverse]
theorem ok_bd {v : Vs} (h : v.ok = true) : 0 ≤ v.ml ∧ v.ml ≤ 281474976710655 ∧ 0 ≤ v.ct ∧ v.ct ≤ 65535 ∧ 0 ≤ v.vo ∧ v.vo < 5 ∧ v.val.length ≤ 1024 ∧ 0 ≤ v.tt ∧ v.tt ≤ 281474976710655 := by
  have h' : okV v.ml v.ct v.vo v.val.length v.gone v.tt = true := h
  simp [okV, isStB] at h'
  omega
end Go.Proofs.Ytfjnjababehmmaa
