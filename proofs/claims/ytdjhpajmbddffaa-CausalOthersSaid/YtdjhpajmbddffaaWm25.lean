/- Stage 25: rows of writes that a call makes; what Writes yields, as plain mathematics. -/
import Derived.Test.YtdjhpajmbddffaaWo25
set_option linter.unusedSimpArgs false
set_option linter.unusedVariables false
namespace Go.Proofs.Ytdjhpajmbddffaa
open Go.RowKit

/-- A write. -/
structure Wm where
  who : Int
  key : ByteArray
  tm : Int
  tc : Int
  nd : Int
  p : List Int
  gn : Bool
  tt : Int
  un : Bool
/-- A write in memory. -/
structure Wq where
  m : Wm
  A : Option Addr
  c : Nat
def Wq.cs (x : Wq) : List Value := [.int .i64 x.m.who, .string x.m.key, .int .i64 x.m.tm, .int .i64 x.m.tc, .int .i64 x.m.nd, .slice x.A x.m.p.length x.c, .bool x.m.gn, .int .i64 x.m.tt, .bool x.m.un]
theorem Wq.len (x : Wq) : x.cs.length = 9 := rfl
def rowQ (L : List Wq) : List Value := L.flatMap Wq.cs
theorem rowQ_append (L M : List Wq) : rowQ (L ++ M) = rowQ L ++ rowQ M := by simp [rowQ]
theorem rowQ_one (x : Wq) : rowQ [x] = x.cs := by simp [rowQ]
/-- A row of writes of the call's own, each value in a block of its own. -/
structure Ws (B : Nat) (w : World) (v : Value) (L : List Wq) : Prop where
  row : w.ownsRow B 37 9 v L.length (rowQ L)
  at_ : ∀ x ∈ L, ByL w x.A x.m.p ∧ (x.A = none → x.m.p.length = 0) ∧ ∀ ad, x.A = some ad → B ≤ ad.block ∧ ad.block < w.heap.size ∧ v.ownBlock ≠ some ad.block
theorem Ws.below {B : Nat} {w w' : World} {v : Value} {L : List Wq} (h : Ws B w v L) (k : Below w.heap.size w w') : Ws B w' v L :=
  ⟨(But.of_below (S := fun _ => False) k).row h.row (fun _ _ hf => hf), fun x hx => ⟨(h.at_ x hx).1.below k, (h.at_ x hx).2.1, fun ad ha => ⟨((h.at_ x hx).2.2 ad ha).1, Nat.lt_of_lt_of_le ((h.at_ x hx).2.2 ad ha).2.1 k.size, ((h.at_ x hx).2.2 ad ha).2.2⟩⟩⟩
theorem Ws.nil (B : Nat) (w : World) : Ws B w (.slice none 0 0) [] := ⟨World.ownsRow_nil _ _ _ _, fun _ h => (by cases h)⟩
theorem Ws.app {B g cap : Nat} {w w' : World} {v : Value} {L : List Wq} {x : Wq} (h : Ws B w v L) (hx : ByL w x.A x.m.p) (hn : x.A = none → x.m.p.length = 0) (ha : ∀ ad, x.A = some ad → B ≤ ad.block ∧ ad.block < w.heap.size ∧ v.ownBlock ≠ some ad.block)
    (hg : w.grownBy w' v.ownBlock) (hat : v.ownBlock = some g ∨ g = w.heap.size) (hr : w'.ownsRow B 37 9 (.slice (some ⟨g, 0, none⟩) (L.length + 1) cap) (L.length + 1) (rowQ L ++ x.cs)) : Ws B w' (.slice (some ⟨g, 0, none⟩) (L.length + 1) cap) (L ++ [x]) := by
  have hbt : But (fun i => v.ownBlock = some i) w w' := But.of_grown hg (fun i hi => hi)
  have hz := hbt.size
  have key : ∀ y : Wq, ByL w y.A y.m.p → (∀ ad, y.A = some ad → B ≤ ad.block ∧ ad.block < w.heap.size ∧ v.ownBlock ≠ some ad.block) → ByL w' y.A y.m.p ∧ ∀ ad, y.A = some ad → B ≤ ad.block ∧ ad.block < w'.heap.size ∧ (Value.slice (some ⟨g, 0, none⟩) (L.length + 1) cap).ownBlock ≠ some ad.block := by
    intro y hy hya
    refine ⟨hy.but hbt (fun _ ad ha => (hya ad ha).2.2), fun ad ha => ⟨(hya ad ha).1, Nat.lt_of_lt_of_le (hya ad ha).2.1 hz, fun e => ?_⟩⟩
    have eg : ad.block = g := by simpa [Value.ownBlock] using e.symm
    rcases hat with r | r
    · exact (hya ad ha).2.2 (by rw [r, eg])
    · have := (hya ad ha).2.1; omega
  refine ⟨by rw [List.length_append, rowQ_append, rowQ_one]; exact hr, fun y hy => ?_⟩
  rcases List.mem_append.1 hy with q | q
  · exact ⟨(key y (h.at_ y q).1 (h.at_ y q).2.2).1, (h.at_ y q).2.1, (key y (h.at_ y q).1 (h.at_ y q).2.2).2⟩
  · rw [List.mem_singleton.1 q]
    exact ⟨(key x hx ha).1, hn, (key x hx ha).2⟩
theorem row_shapeQ {w : World} {base n : Nat} {v : Value} {xs : List Value} (h : w.ownsRow base 37 9 v n xs) : ∃ A c, v = .slice A n c := by
  rcases h.2 with ⟨e, h0⟩ | ⟨g, cap, cur, e, _⟩
  · exact ⟨none, 0, by rw [e, h0]⟩
  · exact ⟨_, _, e⟩
/-- What an event tells of a write: nothing, or one write; p: the bytes of its step's value. -/
def wOf (e : Ev) (p : List Int) : Option Wm :=
  if (e.kd = 1 ∨ e.kd = 2) ∧ (e.er = 0 ∨ e.er = 9) then
    some ⟨e.who, e.key, if e.er = 9 then 0 else e.tm, if e.er = 9 then 0 else e.tc, e.nd, if e.kd = 1 then p else [], e.kd == 2, if e.kd = 1 then e.n else 0, e.er == 9⟩
  else none
/-- All writes of the first k events. -/
def wsN (L : List Ev) (pv : Nat → List Int) (k : Nat) : List Wm := (List.range k).filterMap (fun i => (L[i]?).bind fun e => wOf e (pv i))
theorem wsN_zero (L : List Ev) (pv : Nat → List Int) : wsN L pv 0 = [] := rfl
theorem wsN_step {L : List Ev} {pv : Nat → List Int} {k : Nat} {e : Ev} (h : L[k]? = some e) : wsN L pv (k + 1) = wsN L pv k ++ (wOf e (pv k)).toList := by
  unfold wsN
  rw [List.range_succ, List.filterMap_append]
  congr 1
  simp only [List.filterMap_cons, List.filterMap_nil, h, Option.bind_some]
  cases wOf e (pv k) <;> rfl
theorem wOf_none {e : Ev} {p : List Int} (h : ¬ ((e.kd = 1 ∨ e.kd = 2) ∧ (e.er = 0 ∨ e.er = 9))) : wOf e p = none := if_neg h
end Go.Proofs.Ytdjhpajmbddffaa
