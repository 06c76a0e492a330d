/- Stage 25: what may be read of a key among any writes, as plain mathematics; rows of writes that are read, rows of values that a call makes. -/
import Derived.Test.YtdjhpajmbddffaaWm25
import Derived.Test.YtdjhpajmbddffaaEv25
import Derived.Test.YtdjhpajmbddffaaCmp25
import Derived.Test.YtdjhpajmbddffaaArgRows
import Derived.WideShapes
set_option linter.unusedSimpArgs false
set_option linter.unusedVariables false
namespace Go.Proofs.Ytdjhpajmbddffaa
open Go.RowKit

theorem tl_inj {a b : ByteArray} (h : a.toList = b.toList) : a = b := Go.WideShapes.bytes_inj (by rw [ByteArray.toList_eq, ByteArray.toList_eq] at h; exact h)
/-- Where the walk over writes stands: the place of the newest sure one, the unsure values, whether there is an unsure write. -/
structure Ns where
  su : Option Nat
  vs : List (List Int)
  un : Bool
/-- Is a write above the newest one so far? -/
def aboveN (L : List Wm) (m : Wm) : Option Nat → Bool
  | none => true
  | some j => match L[j]? with
    | none => true
    | some q => decide (0 < or2 (cmp2 m.tm m.tc q.tm q.tc) (cmp1 m.nd q.nd))
theorem aboveN_some {L : List Wm} {m q : Wm} {j : Nat} (h : L[j]? = some q) : aboveN L m (some j) = decide (0 < or2 (cmp2 m.tm m.tc q.tm q.tc) (cmp1 m.nd q.nd)) := by
  show (match L[j]? with | none => true | some q => _) = _
  rw [h]
def updN (L : List Wm) (tm tc : Int) (s : Ns) (m : Wm) : Bool := decide (cmp2 m.tm m.tc tm tc ≤ 0) && aboveN L m s.su
def stepN (L : List Wm) (key : ByteArray) (tm tc : Int) (s : Ns) (k : Nat) (m : Wm) : Ns :=
  if m.key = key then
    if m.un = true then ⟨s.su, if m.gn = true then s.vs else s.vs ++ [m.p], true⟩
    else if updN L tm tc s m = true then ⟨some k, s.vs, s.un⟩ else s
  else s
def nsN (L : List Wm) (key : ByteArray) (tm tc : Int) : Nat → Ns
  | 0 => ⟨none, [], false⟩
  | k + 1 => match L[k]? with
    | none => nsN L key tm tc k
    | some m => stepN L key tm tc (nsN L key tm tc k) k m
theorem nsN_succ {L : List Wm} {key : ByteArray} {tm tc : Int} {k : Nat} {m : Wm} (h : L[k]? = some m) : nsN L key tm tc (k + 1) = stepN L key tm tc (nsN L key tm tc k) k m := by
  show (match L[k]? with | none => _ | some m => _) = _
  rw [h]
def newP (L : List Wm) (key : ByteArray) (tm tc : Int) : List (List Int) × Bool :=
  match (nsN L key tm tc L.length).su with
  | none => ((nsN L key tm tc L.length).vs, true)
  | some j => match L[j]? with
    | none => ((nsN L key tm tc L.length).vs, true)
    | some m => if seenQ m.tm m.tc m.gn m.tt tm tc = true then (m.p :: (nsN L key tm tc L.length).vs, (nsN L key tm tc L.length).un) else ((nsN L key tm tc L.length).vs, true)
theorem nsN_lt (L : List Wm) (key : ByteArray) (tm tc : Int) : ∀ (k j : Nat), (nsN L key tm tc k).su = some j → j < k
  | 0, j, h => by cases h
  | k + 1, j, h => by
    cases hL : L[k]? with
    | none =>
      have e : nsN L key tm tc (k + 1) = nsN L key tm tc k := by
        show (match L[k]? with | none => _ | some m => _) = _
        rw [hL]
      rw [e] at h
      have := nsN_lt L key tm tc k j h
      omega
    | some m =>
      rw [nsN_succ hL] at h
      unfold stepN at h
      split at h
      · split at h
        · have := nsN_lt L key tm tc k j h
          omega
        · split at h
          · injection h with h
            omega
          · have := nsN_lt L key tm tc k j h
            omega
      · have := nsN_lt L key tm tc k j h
        omega
theorem nsN_vs (L : List Wm) (key : ByteArray) (tm tc : Int) : ∀ k : Nat, (nsN L key tm tc k).vs.length ≤ k
  | 0 => Nat.le_refl _
  | k + 1 => by
    have ih := nsN_vs L key tm tc k
    cases hL : L[k]? with
    | none =>
      have e : nsN L key tm tc (k + 1) = nsN L key tm tc k := by
        show (match L[k]? with | none => _ | some m => _) = _
        rw [hL]
      rw [e]
      omega
    | some m =>
      rw [nsN_succ hL]
      unfold stepN
      split
      · split
        · show (if m.gn = true then _ else _ : List (List Int)).length ≤ _
          split
          · omega
          · rw [List.length_append]; simp; omega
        · split
          · exact Nat.le_succ_of_le ih
          · omega
      · omega
theorem newP_none {L : List Wm} {key : ByteArray} {tm tc : Int} {st : Ns} (h : nsN L key tm tc L.length = st) (hs : st.su = none) : newP L key tm tc = (st.vs, true) := by
  unfold newP
  rw [h, hs]
theorem newP_no {L : List Wm} {key : ByteArray} {tm tc : Int} {st : Ns} {j : Nat} {m : Wm} (h : nsN L key tm tc L.length = st) (hs : st.su = some j) (hm : L[j]? = some m) (hq : seenQ m.tm m.tc m.gn m.tt tm tc = false) : newP L key tm tc = (st.vs, true) := by
  unfold newP
  simp only [h, hs, hm, hq]
  rfl
theorem newP_yes {L : List Wm} {key : ByteArray} {tm tc : Int} {st : Ns} {j : Nat} {m : Wm} (h : nsN L key tm tc L.length = st) (hs : st.su = some j) (hm : L[j]? = some m) (hq : seenQ m.tm m.tc m.gn m.tt tm tc = true) : newP L key tm tc = (m.p :: st.vs, st.un) := by
  unfold newP
  simp only [h, hs, hm, hq]
  rfl
theorem nsN_mem (L : List Wm) (key : ByteArray) (tm tc : Int) : ∀ (k : Nat) (p : List Int), p ∈ (nsN L key tm tc k).vs → ∃ m ∈ L, m.p = p
  | 0, p, h => by cases h
  | k + 1, p, h => by
    cases hL : L[k]? with
    | none =>
      have e : nsN L key tm tc (k + 1) = nsN L key tm tc k := by
        show (match L[k]? with | none => _ | some m => _) = _
        rw [hL]
      rw [e] at h
      exact nsN_mem L key tm tc k p h
    | some m =>
      have ih := nsN_mem L key tm tc k p
      rw [nsN_succ hL] at h
      unfold stepN at h
      split at h
      · split at h
        · change p ∈ (if m.gn = true then (nsN L key tm tc k).vs else (nsN L key tm tc k).vs ++ [m.p] : List (List Int)) at h
          split at h
          · exact ih h
          · rcases List.mem_append.1 h with q | q
            · exact ih q
            · exact ⟨m, List.mem_of_getElem? hL, (List.mem_singleton.1 q).symm⟩
        · split at h
          · exact ih h
          · exact ih h
      · exact ih h
theorem newP_mem {L : List Wm} {key : ByteArray} {tm tc : Int} {p : List Int} (h : p ∈ (newP L key tm tc).1) : ∃ m ∈ L, m.p = p := by
  unfold newP at h
  split at h
  · exact nsN_mem L key tm tc _ p h
  · split at h
    · exact nsN_mem L key tm tc _ p h
    · rename_i m hm
      split at h
      · rcases List.mem_cons.1 h with q | q
        · exact ⟨m, List.mem_of_getElem? hm, q.symm⟩
        · exact nsN_mem L key tm tc _ p q
      · exact nsN_mem L key tm tc _ p h
/-- A row of writes that is read. -/
structure RdW (w : World) (A : Option Addr) (L : List Wq) : Prop where
  row : RowG Wq.cs w A L
  by_ : ∀ x ∈ L, ByL w x.A x.m.p ∧ (x.A = none → x.m.p.length = 0) ∧ x.m.p.length ≤ 100000
  isb : ∀ x ∈ L, isBy x.m.p
theorem RdW.below {w w' : World} {A : Option Addr} {L : List Wq} (h : RdW w A L) (k : Below w.heap.size w w') : RdW w' A L :=
  ⟨h.row.below k, fun x hx => ⟨(h.by_ x hx).1.below k, (h.by_ x hx).2⟩, h.isb⟩
theorem RdW.at_ {w : World} {A : Option Addr} {L : List Wq} (h : RdW w A L) {k : Nat} {x : Wq} (hk : L[k]? = some x) : ∃ g o, A = some ⟨g, o, none⟩ ∧ g < w.heap.size ∧ w.rangeAt g (o + k * 9) x.cs := by
  have hkl := (List.getElem?_eq_some_iff.1 hk).1
  obtain ⟨g, o, rfl, hg, hc⟩ := h.row (by omega)
  refine ⟨g, o, rfl, hg, fun j u hu => ?_⟩
  have hj : j < 9 := by
    have := (List.getElem?_eq_some_iff.1 hu).1
    rwa [Wq.len] at this
  have := hc (k * 9 + j) u (by rw [fm_at Wq.cs 9 Wq.len hk j hj]; exact hu)
  rwa [← Nat.add_assoc] at this
/-- A value in memory. -/
structure Vq where
  p : List Int
  A : Option Addr
  c : Nat
def Vq.cell (x : Vq) : Value := .slice x.A x.p.length x.c
/-- A row of values of the call's own, each in a block of its own. -/
structure Vw (B : Nat) (w : World) (v : Value) (L : List Vq) : Prop where
  row : w.ownsRow B 33 1 v L.length (L.map Vq.cell)
  at_ : ∀ x ∈ L, ByL w x.A x.p ∧ (x.A = none → x.p.length = 0) ∧ ∀ ad, x.A = some ad → B ≤ ad.block ∧ ad.block < w.heap.size ∧ v.ownBlock ≠ some ad.block
theorem Vw.below {B : Nat} {w w' : World} {v : Value} {L : List Vq} (h : Vw B w v L) (k : Below w.heap.size w w') : Vw B w' v L :=
  ⟨(But.of_below (S := fun _ => False) k).row h.row (fun _ _ hf => hf), fun x hx => ⟨(h.at_ x hx).1.below k, (h.at_ x hx).2.1, fun ad ha => ⟨((h.at_ x hx).2.2 ad ha).1, Nat.lt_of_lt_of_le ((h.at_ x hx).2.2 ad ha).2.1 k.size, ((h.at_ x hx).2.2 ad ha).2.2⟩⟩⟩
theorem Vw.nil (B : Nat) (w : World) : Vw B w (.slice none 0 0) [] := ⟨World.ownsRow_nil _ _ _ _, fun _ h => (by cases h)⟩
theorem Vw.app {B g cap : Nat} {w w' : World} {v : Value} {L : List Vq} {x : Vq} (h : Vw B w v L) (hx : ByL w x.A x.p) (hn : x.A = none → x.p.length = 0) (ha : ∀ ad, x.A = some ad → B ≤ ad.block ∧ ad.block < w.heap.size ∧ v.ownBlock ≠ some ad.block)
    (hg : w.grownBy w' v.ownBlock) (hat : v.ownBlock = some g ∨ g = w.heap.size) (hr : w'.ownsRow B 33 1 (.slice (some ⟨g, 0, none⟩) (L.length + 1) cap) (L.length + 1) (L.map Vq.cell ++ [x.cell])) : Vw B w' (.slice (some ⟨g, 0, none⟩) (L.length + 1) cap) (L ++ [x]) := by
  have hbt : But (fun i => v.ownBlock = some i) w w' := But.of_grown hg (fun i hi => hi)
  have hz := hbt.size
  have key : ∀ y : Vq, ByL w y.A y.p → (∀ ad, y.A = some ad → B ≤ ad.block ∧ ad.block < w.heap.size ∧ v.ownBlock ≠ some ad.block) → ByL w' y.A y.p ∧ ∀ ad, y.A = some ad → B ≤ ad.block ∧ ad.block < w'.heap.size ∧ (Value.slice (some ⟨g, 0, none⟩) (L.length + 1) cap).ownBlock ≠ some ad.block := by
    intro y hy hya
    refine ⟨hy.but hbt (fun _ ad ha => (hya ad ha).2.2), fun ad ha => ⟨(hya ad ha).1, Nat.lt_of_lt_of_le (hya ad ha).2.1 hz, fun e => ?_⟩⟩
    have eg : ad.block = g := by simpa [Value.ownBlock] using e.symm
    rcases hat with r | r
    · exact (hya ad ha).2.2 (by rw [r, eg])
    · have := (hya ad ha).2.1; omega
  refine ⟨by rw [List.length_append, List.map_append]; exact hr, fun y hy => ?_⟩
  rcases List.mem_append.1 hy with q | q
  · exact ⟨(key y (h.at_ y q).1 (h.at_ y q).2.2).1, (h.at_ y q).2.1, (key y (h.at_ y q).1 (h.at_ y q).2.2).2⟩
  · rw [List.mem_singleton.1 q]
    exact ⟨(key x hx ha).1, hn, (key x hx ha).2⟩
theorem row_shapeW {w : World} {base n : Nat} {v : Value} {xs : List Value} (h : w.ownsRow base 33 1 v n xs) : ∃ A c, v = .slice A n c := by
  rcases h.2 with ⟨e, h0⟩ | ⟨g, cap, cur, e, _⟩
  · exact ⟨none, 0, by rw [e, h0]⟩
  · exact ⟨_, _, e⟩
theorem stp_size : (Try.prog.info? 32).map (·.size) = some 2 := by kernel_rfl
theorem vrs_size : (Try.prog.info? 35).map (·.size) = some 6 := by kernel_rfl
end Go.Proofs.Ytdjhpajmbddffaa
