/- Arguments that are rows of structs, of whatever shape: one theorem for all. -/
import Derived.Test.YtdjhpajmbddffaaArgBy
set_option linter.unusedSimpArgs false
set_option linter.unusedVariables false
namespace Go.Proofs.Ytdjhpajmbddffaa
open Go.ChangeShapes Go.WideShapes Go.ChangeAt Go.RowKit Go.Joins Go.Deep

theorem fm_len {α : Type} (f : α → List Value) (m : Nat) (hm : ∀ x, (f x).length = m) : ∀ L : List α, (L.flatMap f).length = L.length * m
  | [] => by simp
  | a :: t => by
    rw [List.flatMap_cons, List.length_append, hm, fm_len f m hm t, List.length_cons, Nat.add_mul]
    omega
theorem fm_at {α : Type} (f : α → List Value) (m : Nat) (hm : ∀ x, (f x).length = m) {L : List α} {k : Nat} {x : α} (h : L[k]? = some x) (j : Nat) (hj : j < m) : (L.flatMap f)[k * m + j]? = (f x)[j]? := by
  have hk : k < L.length := (List.getElem?_eq_some_iff.1 h).1
  have e : L = L.take k ++ x :: L.drop (k + 1) := by
    have h2 : L[k] = x := by have := List.getElem?_eq_getElem hk; rw [this] at h; injection h
    conv => lhs; rw [← List.take_append_drop k L]
    rw [List.drop_eq_getElem_cons hk, h2]
  have hl : ((L.take k).flatMap f).length = k * m := by rw [fm_len f m hm, List.length_take, show min k L.length = k from by omega]
  rw [e, List.flatMap_append, List.getElem?_append_right (by rw [hl]; omega), hl, show k * m + j - k * m = j from by omega, List.flatMap_cons, List.getElem?_append_left (by rw [hm]; exact hj)]
/-- Structs of m cells at an address. -/
def RowG {α : Type} (f : α → List Value) (w : World) (A : Option Addr) (L : List α) : Prop := 0 < L.length → ∃ B O, A = some ⟨B, O, none⟩ ∧ B < w.heap.size ∧ ∀ j u, (L.flatMap f)[j]? = some u → w.cell? ⟨B, O + j, none⟩ = some u
theorem RowG.below {α : Type} {f : α → List Value} {w w' : World} {A : Option Addr} {L : List α} (h : RowG f w A L) (k : Below w.heap.size w w') : RowG f w' A L := by
  intro h0
  obtain ⟨B, O, rfl, hB, hc⟩ := h h0
  exact ⟨B, O, rfl, Nat.lt_of_lt_of_le hB k.size, fun j u hu => (k.cell (p := ⟨B, O + j, none⟩) hB).trans (hc j u hu)⟩
theorem weightsAll_memG {H : Type} {P : Program} {e : TypeId} : ∀ {ds : List (DataW H)} {d : DataW H}, d ∈ ds → ∀ n ∈ d.weights P e, n ∈ DataW.weightsAll P e ds
  | [], _, h, _, _ => by cases h
  | d' :: r, d, h, n, hn => by
    rw [DataW.weightsAll]
    rcases List.mem_cons.1 h with rfl | h
    · exact List.mem_append_left _ hn
    · exact List.mem_append_right _ (weightsAll_memG h n hn)
/-- A slice of structs, as it is trod: f tells a struct's cells, Q what is known of each, Z what the weights bound. -/
theorem rows_trod {H : Type} {enc : TypeId × Value → H} {w : World} {base : Nat} {sp : Nat → Bool} {t e : TypeId} {α : Type} (f : α → List Value) (m : Nat) (hm0 : 0 < m) (hm : ∀ x, (f x).length = m) (hu : Try.prog.underlying t = some (.slice e)) (he : Try.prog.cellsOf e = m) (Q : α → Prop) (Z : α → Nat → Prop) (dflt : α)
    (helem : ∀ (fuel : Nat) (cs : List Value) (x : DataW H × List MemPlace), cs.length = m → DataW.trod enc Try.prog w base sp true fuel e cs = some x → ∃ a : α, cs = f a ∧ Q a ∧ (∀ M, (∀ n ∈ x.1.weights Try.prog e, n ≤ M) → Z a M))
    {fuel : Nat} {cs : List Value} {x : DataW H × List MemPlace} (hf : DataW.trod enc Try.prog w base sp true fuel t cs = some x) :
    ∃ (L : List α) (A : Option Addr) (c : Nat), cs = [.slice A L.length c] ∧ L.length ≤ c ∧ c ≤ maxLen ∧ RowG f w A L ∧ (∀ a ∈ L, Q a) ∧ (A = none → L.length = 0) ∧ (∀ M, (∀ n ∈ x.1.weights Try.prog t, n ≤ M) → ∀ a ∈ L, Z a M) := by
  rcases Go.Deep.open_slice hu hf with ⟨hcs, _⟩ | ⟨a, len, cap, mm, k, D, Pl, hcs, _, hl, hmx, hmm, hx, hi⟩
  · exact ⟨[], none, 0, hcs, by simp, by unfold maxLen; omega, (fun h => absurd h (by simp)), fun m hm => (by cases hm), fun _ => rfl, fun M _ m hm => (by cases hm)⟩
  · rw [he] at hi
    have hlm : len ≤ mm := by rw [hmm]; split <;> omega
    have hex : ∀ i, ∃ b : α, i < len → (∀ j u, (f b)[j]? = some u → w.cell? ((a.add (i * m)).add j) = some u) ∧ Q b ∧ (∀ M, (∀ n ∈ (D i).weights Try.prog e, n ≤ M) → Z b M) := fun i => by
      by_cases hil : i < len
      · obtain ⟨cs', hc, ht⟩ := hi i (by omega)
        obtain ⟨_, hcl, hat⟩ := World.cells?_some hc
        obtain ⟨b, hb, hq, hz⟩ := helem _ _ _ hcl ht
        refine ⟨b, fun _ => ⟨fun j u hu => ?_, hq, hz⟩⟩
        have hj : j < m := by
          have := (List.getElem?_eq_some_iff.1 hu).1
          rwa [hm] at this
        rw [hat j hj, hb]
        exact hu
      · exact ⟨dflt, fun h => absurd h hil⟩
    have hF : ∃ F : Nat → α, ∀ i, i < len → (∀ j u, (f (F i))[j]? = some u → w.cell? ((a.add (i * m)).add j) = some u) ∧ Q (F i) ∧ (∀ M, (∀ n ∈ (D i).weights Try.prog e, n ≤ M) → Z (F i) M) := ⟨fun i => Classical.choose (hex i), fun i => Classical.choose_spec (hex i)⟩
    obtain ⟨F, hF⟩ := hF
    have hLl : ((List.range len).map F).length = len := by simp
    have hLa : ∀ i, i < len → ((List.range len).map F)[i]? = some (F i) := fun i hi => by simp [hi]
    refine ⟨(List.range len).map F, some a, cap, by rw [hLl]; exact hcs, by rw [hLl]; omega, by omega, fun h0 => ?_, fun b hb => ?_, (fun e => by cases e), fun M hM b hb => ?_⟩
    · rw [hLl] at h0
      obtain ⟨B, O, spot⟩ := a
      have h01 : (f (F 0))[0]? = some ((f (F 0))[0]'(by rw [hm]; exact hm0)) := List.getElem?_eq_getElem _
      have h00 := (hF 0 h0).1 0 _ h01
      have hspot : spot = none := by simpa [Addr.add] using World.cell?_spot h00
      subst hspot
      rw [add_plain, add_plain] at h00
      refine ⟨B, O, rfl, cell_lt' h00, fun j u hu => ?_⟩
      have hj : j < len * m := by
        have := (List.getElem?_eq_some_iff.1 hu).1
        rwa [fm_len f m hm, hLl] at this
      have hk : j / m < len := Nat.div_lt_of_lt_mul (by rw [Nat.mul_comm]; exact hj)
      have hr : j % m < m := Nat.mod_lt _ hm0
      have hej : j / m * m + j % m = j := by rw [Nat.mul_comm]; exact Nat.div_add_mod j m
      have h2 := fm_at f m hm (hLa (j / m) hk) (j % m) hr
      rw [hej] at h2
      rw [h2] at hu
      have h3 := (hF (j / m) hk).1 (j % m) u hu
      rw [add_plain, add_plain, Nat.add_assoc, hej] at h3
      exact h3
    · obtain ⟨i, hi', rfl⟩ := List.mem_map.1 hb
      exact (hF i (List.mem_range.1 hi')).2.1
    · obtain ⟨i, hi', rfl⟩ := List.mem_map.1 hb
      have hil := List.mem_range.1 hi'
      refine (hF i hil).2.2 M (fun n hn => hM n ?_)
      rw [hx]
      simp only [DataW.weights, hu]
      exact List.mem_cons_of_mem _ (List.mem_append_left _ (weightsAll_memG (List.mem_map.2 ⟨i, List.mem_range.2 hil, rfl⟩) n hn))
set_option maxRecDepth 100000 in
/-- The same of an argument. -/
theorem open_rows {H : Type} {enc : TypeId × Value → H} {w : World} {r : Reach} {b0 base : Nat} {sp : Nat → Bool} {t e : TypeId} {v : Value} {d : DataW H} {p : List MemPlace} {α : Type} (f : α → List Value) (m : Nat) (hm0 : 0 < m) (hm : ∀ x, (f x).length = m) (hu : Try.prog.underlying t = some (.slice e)) (he : Try.prog.cellsOf e = m) (Q : α → Prop) (Z : α → Nat → Prop) (dflt : α)
    (helem : ∀ (fuel : Nat) (cs : List Value) (x : DataW H × List MemPlace), cs.length = m → DataW.trod enc Try.prog w base sp true fuel e cs = some x → ∃ a : α, cs = f a ∧ Q a ∧ (∀ M, (∀ n ∈ x.1.weights Try.prog e, n ≤ M) → Z a M))
    (hv : Value.okWide Try.prog w r b0 t v) (h : DataW.Trod enc Try.prog w base sp true t v d p) :
    ∃ (L : List α) (A : Option Addr) (c : Nat), v = .slice A L.length c ∧ L.length ≤ c ∧ c ≤ maxLen ∧ RowG f w A L ∧ (∀ a ∈ L, Q a) ∧ (A = none → L.length = 0) ∧ (∀ M, (∀ n ∈ d.weights Try.prog t, n ≤ M) → ∀ a ∈ L, Z a M) := by
  obtain ⟨a0, len, cap, rfl⟩ := okWide_slice hu hv
  obtain ⟨fuel, hf⟩ := h
  obtain ⟨L, A, c, hcs, h1, h2, h3, h4, h5, h6⟩ := rows_trod f m hm0 hm hu he Q Z dflt helem hf
  simp [Value.cells] at hcs
  obtain ⟨rfl, rfl, rfl⟩ := hcs
  exact ⟨L, _, _, rfl, h1, h2, h3, h4, h5, h6⟩
theorem sized_eachG {H : Type} {P : Program} {ts : List TypeId} {ds : List (DataW H)} (h : (DataW.weightsEach P ts ds).all (· ≤ reachBytes) = true) {j : Nat} {t : TypeId} {d : DataW H} (ht : ts[j]? = some t) (hd : ds[j]? = some d) : ∀ n ∈ d.weights P t, n ≤ reachBytes := fun n hn => by
  simpa using List.all_eq_true.1 h n (DataW.weights_mem_each ht hd n hn)
end Go.Proofs.Ytdjhpajmbddffaa
