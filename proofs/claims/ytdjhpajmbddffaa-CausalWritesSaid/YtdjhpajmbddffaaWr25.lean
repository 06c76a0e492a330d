/- Stage 25: rows of the reference's writes; stores into a block, by its list of cells (written by gen/rw25.py). -/
import Derived.Test.YtdjhpajmbddffaaWm25
import Derived.Test.YtdjhpajmbddffaaEv25
import Derived.Test.YtdjhpajmbddffaaPl25
set_option linter.unusedSimpArgs false
set_option linter.unusedVariables false
namespace Go.Proofs.Ytdjhpajmbddffaa
open Go.RowKit

/-- A row of writes of the call's own, each value in a block of its own. -/
structure Wr5 (B : Nat) (w : World) (v : Value) (L : List Wq) : Prop where
  row : w.ownsRow B 38 9 v L.length (rowQ L)
  at_ : ∀ x ∈ L, ByL w x.A x.m.p ∧ (x.A = none → x.m.p.length = 0) ∧ ∀ ad, x.A = some ad → B ≤ ad.block ∧ ad.block < w.heap.size ∧ v.ownBlock ≠ some ad.block
theorem Wr5.below {B : Nat} {w w' : World} {v : Value} {L : List Wq} (h : Wr5 B w v L) (k : Below w.heap.size w w') : Wr5 B w' v L :=
  ⟨(But.of_below (S := fun _ => False) k).row h.row (fun _ _ hf => hf), fun x hx => ⟨(h.at_ x hx).1.below k, (h.at_ x hx).2.1, fun ad ha => ⟨((h.at_ x hx).2.2 ad ha).1, Nat.lt_of_lt_of_le ((h.at_ x hx).2.2 ad ha).2.1 k.size, ((h.at_ x hx).2.2 ad ha).2.2⟩⟩⟩
theorem Wr5.nil (B : Nat) (w : World) : Wr5 B w (.slice none 0 0) [] := ⟨World.ownsRow_nil _ _ _ _, fun _ h => (by cases h)⟩
theorem Wr5.app {B g cap : Nat} {w w' : World} {v : Value} {L : List Wq} {x : Wq} (h : Wr5 B w v L) (hx : ByL w x.A x.m.p) (hn : x.A = none → x.m.p.length = 0) (ha : ∀ ad, x.A = some ad → B ≤ ad.block ∧ ad.block < w.heap.size ∧ v.ownBlock ≠ some ad.block)
    (hg : w.grownBy w' v.ownBlock) (hat : v.ownBlock = some g ∨ g = w.heap.size) (hr : w'.ownsRow B 38 9 (.slice (some ⟨g, 0, none⟩) (L.length + 1) cap) (L.length + 1) (rowQ L ++ x.cs)) : Wr5 B w' (.slice (some ⟨g, 0, none⟩) (L.length + 1) cap) (L ++ [x]) := by
  have hbt : But (fun i => v.ownBlock = some i) w w' := But.of_grown hg (fun i hi => hi)
  have hz := hbt.size
  have key : ∀ y : Wq, ByL w y.A y.m.p → (∀ ad, y.A = some ad → B ≤ ad.block ∧ ad.block < w.heap.size ∧ v.ownBlock ≠ some ad.block) → ByL w' y.A y.m.p ∧ ∀ ad, y.A = some ad → B ≤ ad.block ∧ ad.block < w'.heap.size ∧ (Value.slice (some ⟨g, 0, none⟩) (L.length + 1) cap).ownBlock ≠ some ad.block := by
    intro y hy hya
    refine ⟨hy.but hbt (fun _ ad ha => (hya ad ha).2.2), fun ad ha => ⟨(hya ad ha).1, Nat.lt_of_lt_of_le (hya ad ha).2.1 hz, fun e => ?_⟩⟩
    have eg : ad.block = g := by simpa [Value.ownBlock] using e.symm
    rcases hat with r | r
    · exact (hya ad ha).2.2 (by rw [r, eg])
    · have := (hya ad ha).2.1; omega
  refine ⟨by rw [List.length_append, rowQ_append, rowQ_one]; exact hr, fun y hy => ?_⟩
  rcases List.mem_append.1 hy with q | q
  · exact ⟨(key y (h.at_ y q).1 (h.at_ y q).2.2).1, (h.at_ y q).2.1, (key y (h.at_ y q).1 (h.at_ y q).2.2).2⟩
  · rw [List.mem_singleton.1 q]
    exact ⟨(key x hx ha).1, hn, (key x hx ha).2⟩
theorem row_shapeR5 {w : World} {base n : Nat} {v : Value} {xs : List Value} (h : w.ownsRow base 38 9 v n xs) : ∃ A c, v = .slice A n c := by
  rcases h.2 with ⟨e, h0⟩ | ⟨g, cap, cur, e, _⟩
  · exact ⟨none, 0, by rw [e, h0]⟩
  · exact ⟨_, _, e⟩

theorem blk_setCells {w : World} {b o : Nat} {C : List Value} (hC : w.rangeAt b 0 C) (ht : w.there b 0 C.length) (vs : List Value) (ho : o + vs.length ≤ C.length) : (w.setCells b o vs).rangeAt b 0 (C.take o ++ (vs ++ C.drop (o + vs.length))) := by
  intro j u hu
  rw [Nat.zero_add]
  have hl : (C.take o).length = o := by rw [List.length_take]; omega
  have hin : ∀ i, i < vs.length → (w.cell? ⟨b, o + i, none⟩).isSome = true := fun i hi => by
    have := (ht (o + i) (by omega)).1
    rwa [Nat.zero_add] at this
  rcases Nat.lt_or_ge j o with h | h
  · rw [List.getElem?_append_left (by omega), List.getElem?_take_of_lt h] at hu
    rw [World.cell?_setCells_out b vs o w ⟨b, j, none⟩ (fun _ _ => by left; exact h)]
    have := hC j u hu
    rwa [Nat.zero_add] at this
  · rw [List.getElem?_append_right (by omega), hl] at hu
    rcases Nat.lt_or_ge (j - o) vs.length with h2 | h2
    · rw [List.getElem?_append_left h2] at hu
      have := World.cell?_setCells_in b vs o w hin (j - o) h2
      rw [show o + (j - o) = j from by omega] at this
      rw [this, ← hu, List.getElem?_eq_getElem h2]
    · rw [List.getElem?_append_right h2, List.getElem?_drop] at hu
      rw [World.cell?_setCells_out b vs o w ⟨b, j, none⟩ (fun _ _ => by right; show o + vs.length ≤ j; omega)]
      have := hC j u (by rw [← hu]; congr 1; omega)
      rwa [Nat.zero_add] at this
theorem row_ev {w : World} {base : Nat} {g cap : Nat} {t : TypeId} {L : List Ev} (h : w.ownsRow base t 18 (.slice (some ⟨g, 0, none⟩) L.length cap) L.length (L.flatMap Ev.cs)) (hg : g < w.heap.size) : RowE w g 0 L := by
  refine ⟨hg, fun k e hk j u hu => ?_⟩
  have hj : j < 18 := by
    have := (List.getElem?_eq_some_iff.1 hu).1
    rwa [Ev.len] at this
  have hfm : ∀ (L : List Ev) (k : Nat) (e : Ev), L[k]? = some e → (L.flatMap Ev.cs)[k * 18 + j]? = e.cs[j]? := by
    intro L
    induction L with
    | nil => intro k e h; simp at h
    | cons a t ih =>
      intro k e h
      rw [List.flatMap_cons]
      cases k with
      | zero =>
        simp at h
        subst h
        rw [List.getElem?_append_left (by rw [Ev.len]; omega)]
        congr 1; omega
      | succ k =>
        rw [List.getElem?_append_right (by rw [Ev.len]; omega), Ev.len, show (k + 1) * 18 + j - 18 = k * 18 + j from by omega]
        exact ih k e (by simpa using h)
  have := row_cell h (j := k * 18 + j) (u := u) (by rw [hfm L k e hk]; exact hu)
  rwa [show 0 + k * 18 + j = k * 18 + j from by omega]
theorem rst_info : (Try.prog.info? 56).map (·.size) = some 10 := by kernel_rfl
theorem ran_info : (Try.prog.info? 58).map (·.size) = some 7 := by kernel_rfl
theorem rw_info : (Try.prog.info? 38).map (fun i => (i.zero, i.size, i.bytes)) = some (some (.agg #[.int .i64 0, .string ⟨#[]⟩, .int .i64 0, .int .i64 0, .int .i64 0, .slice none 0 0, .bool false, .int .i64 0, .bool false]), 9, 96) := by kernel_rfl
theorem rw_size : (Try.prog.info? 38).map (·.size) = some 9 := by kernel_rfl
theorem ver_size : (Try.prog.info? 35).map (·.size) = some 6 := by kernel_rfl
theorem stamp_size : (Try.prog.info? 32).map (·.size) = some 2 := by kernel_rfl
theorem bldW (who : Int) (key : ByteArray) (un : Bool) : (Try.prog).built 38 [(0, .int .i64 who), (1, .string key), (3, .bool un)] = some #[.int .i64 who, .string key, .int .i64 0, .int .i64 0, .int .i64 0, .slice none 0 0, .bool false, .int .i64 0, .bool un] := by kernel_rfl
end Go.Proofs.Ytdjhpajmbddffaa
