/- Arguments that are rows of structs, of whatever shape: one theorem for all. -/
import Derived.Test.YtpflbhcgkndpcaaGreatDoorBase
import Derived.Test.YtpflbhcgkndpcaaGreatDoorOctMem
import Derived.Test.YtpflbhcgkndpcaaGreatDoorLaw
import Derived.Deep.Fields
import Derived.BigQuiet
/- The lower bits of a number. -/
set_option linter.unusedSimpArgs false
set_option linter.unusedVariables false
namespace Go.Proofs.YtpflbhcgkndpcaaGreatDoor
open Go.RowKit

theorem bits_and_le (x : Int) (k : Nat) (hk : k < 9223372036854775808) : 0 ≤ bits .and .i64 x (k : Int) ∧ bits .and .i64 x (k : Int) ≤ k := by
  have h : bits .and .i64 x (k : Int) = IntKind.i64.wrap ((BitVec.ofInt 64 x &&& BitVec.ofInt 64 (k : Int)).toNat : Int) := rfl
  have e0 : (BitVec.ofInt 64 (k : Int)).toNat = k := by
    rw [BitVec.ofInt_natCast, BitVec.toNat_ofNat]
    exact Nat.mod_eq_of_lt (by omega)
  have e : (BitVec.ofInt 64 x &&& BitVec.ofInt 64 (k : Int)).toNat ≤ k := by
    rw [BitVec.toNat_and]
    exact Nat.le_trans Nat.and_le_right (by omega)
  rw [h, IntWalk.i64_in _ (by omega)]
  omega
end Go.Proofs.YtpflbhcgkndpcaaGreatDoor

/- An argument that is a row of bytes. -/
namespace Go.Proofs.YtpflbhcgkndpcaaGreatDoor
open Go.ChangeShapes Go.WideShapes Go.ChangeAt Go.RowKit Go.Joins Go.Deep

theorem weights_field {H : Type} {P : Program} {t : TypeId} {xs : List (DataW H)} {fs : Array Field} (hu : P.underlying t = some (.struct fs)) {i : Nat} {f : Field} (hf : fs[i]? = some f) {d : DataW H} (hd : xs[i]? = some d) : ∀ n ∈ d.weights P f.type, n ∈ (DataW.agg xs).weights P t := by
  intro n hn
  simp only [DataW.weights, hu]
  exact DataW.weights_mem_each (j := i) (t := f.type) (by simp; exact ⟨f, by simpa using hf, rfl⟩) hd n hn
theorem u8_cells' : Tryz.prog.cellsOf 5 = 1 := by kernel_rfl
theorem wf_u8' {x : Int} (h : (Lit.int .u8 x).wf = true) : 0 ≤ x ∧ x ≤ 255 := by
  simp [Lit.wf, IntKind.min, IntKind.max, IntKind.signed, IntKind.bits] at h
  omega
theorem cell_lt' {w : World} {B o : Nat} {v : Value} (h : w.cell? ⟨B, o, none⟩ = some v) : B < w.heap.size := by
  rcases Nat.lt_or_ge B w.heap.size with q | q
  · exact q
  · simp [World.cell?, Array.getElem?_eq_none q] at h
/-- A slice of bytes, as it is trod. -/
theorem open_bytes {H : Type} {enc : TypeId × Value → H} {w : World} {base : Nat} {sp : Nat → Bool} {fuel : Nat} {cs : List Value} {x : DataW H × List MemPlace} (hf : DataW.trod enc Tryz.prog w base sp true fuel 42 cs = some x) :
    ∃ (A : Option Addr) (l : List Int) (c : Nat), cs = [.slice A l.length c] ∧ l.length ≤ c ∧ c ≤ maxLen ∧ ByL w A l ∧ isBy l ∧ (A = none → l.length = 0) ∧ (∀ M, (∀ n ∈ x.1.weights Tryz.prog 42, n ≤ M) → l.length ≤ M) := by
  rcases open_ints Tryz.underlying42 Tryz.underlying5 u8_cells' hf with ⟨hcs, hx⟩ | ⟨a, len, cap, zs, hcs, _, hl, hm, hz, hx, hcell, hwz⟩
  · exact ⟨none, [], 0, hcs, by simp, by unfold maxLen; omega, ByL.nil _ _, isBy_nil, fun _ => rfl, fun M _ => by simp⟩
  · have hlz : len ≤ zs.length := by rw [hz]; split <;> omega
    have hle : (zs.take len).length = len := by rw [List.length_take]; omega
    refine ⟨some a, zs.take len, cap, by rw [hle]; exact hcs, by omega, by omega, fun h0 => ?_, fun b hb => ?_, (fun e => by cases e), fun M hM => ?_⟩
    · rw [hle] at h0
      obtain ⟨B, O, spot⟩ := a
      have hspot : spot = none := by simpa [Addr.add] using World.cell?_spot (hcell 0 (by omega))
      subst hspot
      have hc : ∀ j, j < len → w.cell? ⟨B, O + j, none⟩ = some (.int .u8 (zs.getD j 0)) := fun j hj => by rw [← add_plain]; exact hcell j (by omega)
      refine ⟨B, O, rfl, cell_lt' (hc 0 h0), fun j u hu => ?_⟩
      obtain ⟨q, rfl⟩ := bC_some hu
      rw [hle] at q
      rw [hc j q, List.getD_eq_getElem?_getD, List.getElem?_eq_getElem (by omega), List.getElem_take]
      rfl
    · exact wf_u8' (hwz b (List.mem_of_mem_take hb))
    · rw [hle]
      have := hM ((len + (zs.length - len)) * Tryz.prog.bytesOf 5) ?_
      · have hb1 : Tryz.prog.bytesOf 5 = 1 := by kernel_rfl
        rw [hb1] at this
        omega
      · rw [hx]
        simp [DataW.weights, Tryz.underlying42, lits]
        rw [show min len zs.length = len from by omega]
        exact Or.inl rfl
set_option maxRecDepth 100000 in
theorem open_by {H : Type} {enc : TypeId × Value → H} {w : World} {r : Reach} {b0 base : Nat} {sp : Nat → Bool} {v : Value} {d : DataW H} {p : List MemPlace} (hv : Value.okWide Tryz.prog w r b0 42 v) (h : DataW.Trod enc Tryz.prog w base sp true 42 v d p) :
    ∃ (A : Option Addr) (l : List Int) (c : Nat), v = .slice A l.length c ∧ l.length ≤ c ∧ c ≤ maxLen ∧ ByL w A l ∧ isBy l ∧ (A = none → l.length = 0) := by
  obtain ⟨a0, len, cap, rfl⟩ := okWide_slice Tryz.underlying42 hv
  obtain ⟨fuel, hf⟩ := h
  obtain ⟨A, l, c, hcs, h1, h2, h3, h4, h5, _⟩ := open_bytes hf
  simp [Value.cells] at hcs
  obtain ⟨rfl, rfl, rfl⟩ := hcs
  exact ⟨_, l, _, rfl, h1, h2, h3, h4, h5⟩
end Go.Proofs.YtpflbhcgkndpcaaGreatDoor

/- Arguments that are rows of structs, of whatever shape: one theorem for all. -/
namespace Go.Proofs.YtpflbhcgkndpcaaGreatDoor
open Go.ChangeShapes Go.WideShapes Go.ChangeAt Go.RowKit Go.Joins Go.Deep

theorem fm_len {α : Type} (f : α → List Value) (m : Nat) (hm : ∀ x, (f x).length = m) : ∀ L : List α, (L.flatMap f).length = L.length * m
  | [] => by simp
  | a :: t => by
    rw [List.flatMap_cons, List.length_append, hm, fm_len f m hm t, List.length_cons, Nat.add_mul]
    omega
theorem fm_at {α : Type} (f : α → List Value) (m : Nat) (hm : ∀ x, (f x).length = m) {L : List α} {k : Nat} {x : α} (h : L[k]? = some x) (j : Nat) (hj : j < m) : (L.flatMap f)[k * m + j]? = (f x)[j]? := by
  have hk : k < L.length := (List.getElem?_eq_some_iff.1 h).1
  have e : L = L.take k ++ x :: L.drop (k + 1) := by
    have h2 : L[k] = x := by have := List.getElem?_eq_getElem hk; rw [this] at h; injection h
    conv => lhs; rw [← List.take_append_drop k L]
    rw [List.drop_eq_getElem_cons hk, h2]
  have hl : ((L.take k).flatMap f).length = k * m := by rw [fm_len f m hm, List.length_take, show min k L.length = k from by omega]
  rw [e, List.flatMap_append, List.getElem?_append_right (by rw [hl]; omega), hl, show k * m + j - k * m = j from by omega, List.flatMap_cons, List.getElem?_append_left (by rw [hm]; exact hj)]
/-- Structs of m cells at an address. -/
def RowG {α : Type} (f : α → List Value) (w : World) (A : Option Addr) (L : List α) : Prop := 0 < L.length → ∃ B O, A = some ⟨B, O, none⟩ ∧ B < w.heap.size ∧ ∀ j u, (L.flatMap f)[j]? = some u → w.cell? ⟨B, O + j, none⟩ = some u
theorem RowG.below {α : Type} {f : α → List Value} {w w' : World} {A : Option Addr} {L : List α} (h : RowG f w A L) (k : Below w.heap.size w w') : RowG f w' A L := by
  intro h0
  obtain ⟨B, O, rfl, hB, hc⟩ := h h0
  exact ⟨B, O, rfl, Nat.lt_of_lt_of_le hB k.size, fun j u hu => (k.cell (p := ⟨B, O + j, none⟩) hB).trans (hc j u hu)⟩
theorem weightsAll_memG {H : Type} {P : Program} {e : TypeId} : ∀ {ds : List (DataW H)} {d : DataW H}, d ∈ ds → ∀ n ∈ d.weights P e, n ∈ DataW.weightsAll P e ds
  | [], _, h, _, _ => by cases h
  | d' :: r, d, h, n, hn => by
    rw [DataW.weightsAll]
    rcases List.mem_cons.1 h with rfl | h
    · exact List.mem_append_left _ hn
    · exact List.mem_append_right _ (weightsAll_memG h n hn)
/-- A slice of structs, as it is trod: f tells a struct's cells, Q what is known of each, Z what the weights bound. -/
theorem rows_trod {H : Type} {enc : TypeId × Value → H} {w : World} {base : Nat} {sp : Nat → Bool} {t e : TypeId} {α : Type} (f : α → List Value) (m : Nat) (hm0 : 0 < m) (hm : ∀ x, (f x).length = m) (hu : Tryz.prog.underlying t = some (.slice e)) (he : Tryz.prog.cellsOf e = m) (Q : α → Prop) (Z : α → Nat → Prop) (dflt : α)
    (helem : ∀ (fuel : Nat) (cs : List Value) (x : DataW H × List MemPlace), cs.length = m → DataW.trod enc Tryz.prog w base sp true fuel e cs = some x → ∃ a : α, cs = f a ∧ Q a ∧ (∀ M, (∀ n ∈ x.1.weights Tryz.prog e, n ≤ M) → Z a M))
    {fuel : Nat} {cs : List Value} {x : DataW H × List MemPlace} (hf : DataW.trod enc Tryz.prog w base sp true fuel t cs = some x) :
    ∃ (L : List α) (A : Option Addr) (c : Nat), cs = [.slice A L.length c] ∧ L.length ≤ c ∧ c ≤ maxLen ∧ RowG f w A L ∧ (∀ a ∈ L, Q a) ∧ (A = none → L.length = 0) ∧ (∀ M, (∀ n ∈ x.1.weights Tryz.prog t, n ≤ M) → ∀ a ∈ L, Z a M) := by
  rcases Go.Deep.open_slice hu hf with ⟨hcs, _⟩ | ⟨a, len, cap, mm, k, D, Pl, hcs, _, hl, hmx, hmm, hx, hi⟩
  · exact ⟨[], none, 0, hcs, by simp, by unfold maxLen; omega, (fun h => absurd h (by simp)), fun m hm => (by cases hm), fun _ => rfl, fun M _ m hm => (by cases hm)⟩
  · rw [he] at hi
    have hlm : len ≤ mm := by rw [hmm]; split <;> omega
    have hex : ∀ i, ∃ b : α, i < len → (∀ j u, (f b)[j]? = some u → w.cell? ((a.add (i * m)).add j) = some u) ∧ Q b ∧ (∀ M, (∀ n ∈ (D i).weights Tryz.prog e, n ≤ M) → Z b M) := fun i => by
      by_cases hil : i < len
      · obtain ⟨cs', hc, ht⟩ := hi i (by omega)
        obtain ⟨_, hcl, hat⟩ := World.cells?_some hc
        obtain ⟨b, hb, hq, hz⟩ := helem _ _ _ hcl ht
        refine ⟨b, fun _ => ⟨fun j u hu => ?_, hq, hz⟩⟩
        have hj : j < m := by
          have := (List.getElem?_eq_some_iff.1 hu).1
          rwa [hm] at this
        rw [hat j hj, hb]
        exact hu
      · exact ⟨dflt, fun h => absurd h hil⟩
    have hF : ∃ F : Nat → α, ∀ i, i < len → (∀ j u, (f (F i))[j]? = some u → w.cell? ((a.add (i * m)).add j) = some u) ∧ Q (F i) ∧ (∀ M, (∀ n ∈ (D i).weights Tryz.prog e, n ≤ M) → Z (F i) M) := ⟨fun i => Classical.choose (hex i), fun i => Classical.choose_spec (hex i)⟩
    obtain ⟨F, hF⟩ := hF
    have hLl : ((List.range len).map F).length = len := by simp
    have hLa : ∀ i, i < len → ((List.range len).map F)[i]? = some (F i) := fun i hi => by simp [hi]
    refine ⟨(List.range len).map F, some a, cap, by rw [hLl]; exact hcs, by rw [hLl]; omega, by omega, fun h0 => ?_, fun b hb => ?_, (fun e => by cases e), fun M hM b hb => ?_⟩
    · rw [hLl] at h0
      obtain ⟨B, O, spot⟩ := a
      have h01 : (f (F 0))[0]? = some ((f (F 0))[0]'(by rw [hm]; exact hm0)) := List.getElem?_eq_getElem _
      have h00 := (hF 0 h0).1 0 _ h01
      have hspot : spot = none := by simpa [Addr.add] using World.cell?_spot h00
      subst hspot
      rw [add_plain, add_plain] at h00
      refine ⟨B, O, rfl, cell_lt' h00, fun j u hu => ?_⟩
      have hj : j < len * m := by
        have := (List.getElem?_eq_some_iff.1 hu).1
        rwa [fm_len f m hm, hLl] at this
      have hk : j / m < len := Nat.div_lt_of_lt_mul (by rw [Nat.mul_comm]; exact hj)
      have hr : j % m < m := Nat.mod_lt _ hm0
      have hej : j / m * m + j % m = j := by rw [Nat.mul_comm]; exact Nat.div_add_mod j m
      have h2 := fm_at f m hm (hLa (j / m) hk) (j % m) hr
      rw [hej] at h2
      rw [h2] at hu
      have h3 := (hF (j / m) hk).1 (j % m) u hu
      rw [add_plain, add_plain, Nat.add_assoc, hej] at h3
      exact h3
    · obtain ⟨i, hi', rfl⟩ := List.mem_map.1 hb
      exact (hF i (List.mem_range.1 hi')).2.1
    · obtain ⟨i, hi', rfl⟩ := List.mem_map.1 hb
      have hil := List.mem_range.1 hi'
      refine (hF i hil).2.2 M (fun n hn => hM n ?_)
      rw [hx]
      simp only [DataW.weights, hu]
      exact List.mem_cons_of_mem _ (List.mem_append_left _ (weightsAll_memG (List.mem_map.2 ⟨i, List.mem_range.2 hil, rfl⟩) n hn))
set_option maxRecDepth 100000 in
/-- The same of an argument. -/
theorem open_rows {H : Type} {enc : TypeId × Value → H} {w : World} {r : Reach} {b0 base : Nat} {sp : Nat → Bool} {t e : TypeId} {v : Value} {d : DataW H} {p : List MemPlace} {α : Type} (f : α → List Value) (m : Nat) (hm0 : 0 < m) (hm : ∀ x, (f x).length = m) (hu : Tryz.prog.underlying t = some (.slice e)) (he : Tryz.prog.cellsOf e = m) (Q : α → Prop) (Z : α → Nat → Prop) (dflt : α)
    (helem : ∀ (fuel : Nat) (cs : List Value) (x : DataW H × List MemPlace), cs.length = m → DataW.trod enc Tryz.prog w base sp true fuel e cs = some x → ∃ a : α, cs = f a ∧ Q a ∧ (∀ M, (∀ n ∈ x.1.weights Tryz.prog e, n ≤ M) → Z a M))
    (hv : Value.okWide Tryz.prog w r b0 t v) (h : DataW.Trod enc Tryz.prog w base sp true t v d p) :
    ∃ (L : List α) (A : Option Addr) (c : Nat), v = .slice A L.length c ∧ L.length ≤ c ∧ c ≤ maxLen ∧ RowG f w A L ∧ (∀ a ∈ L, Q a) ∧ (A = none → L.length = 0) ∧ (∀ M, (∀ n ∈ d.weights Tryz.prog t, n ≤ M) → ∀ a ∈ L, Z a M) := by
  obtain ⟨a0, len, cap, rfl⟩ := okWide_slice hu hv
  obtain ⟨fuel, hf⟩ := h
  obtain ⟨L, A, c, hcs, h1, h2, h3, h4, h5, h6⟩ := rows_trod f m hm0 hm hu he Q Z dflt helem hf
  simp [Value.cells] at hcs
  obtain ⟨rfl, rfl, rfl⟩ := hcs
  exact ⟨L, _, _, rfl, h1, h2, h3, h4, h5, h6⟩
theorem sized_eachG {H : Type} {P : Program} {ts : List TypeId} {ds : List (DataW H)} (h : (DataW.weightsEach P ts ds).all (· ≤ reachBytes) = true) {j : Nat} {t : TypeId} {d : DataW H} (ht : ts[j]? = some t) (hd : ds[j]? = some d) : ∀ n ∈ d.weights P t, n ≤ reachBytes := fun n hn => by
  simpa using List.all_eq_true.1 h n (DataW.weights_mem_each ht hd n hn)
end Go.Proofs.YtpflbhcgkndpcaaGreatDoor

