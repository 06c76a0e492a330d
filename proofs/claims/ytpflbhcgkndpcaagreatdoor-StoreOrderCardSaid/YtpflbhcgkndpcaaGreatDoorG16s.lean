/- records: two rows of records, one by one. -/
import Derived.Test.YtpflbhcgkndpcaaGreatDoorRecDec
import Derived.Test.YtpflbhcgkndpcaaGreatDoorG16q
import Derived.BigQuiet
/- Records in a row of the call's own; what is read of a list. -/
set_option linter.unusedSimpArgs false
set_option linter.unusedVariables false
namespace Go.Proofs.YtpflbhcgkndpcaaGreatDoor
open Go.RowKit

theorem rec_info : (Tryz.prog.info? 46).map (fun i => (i.zero, i.size, i.bytes)) = some (some (.agg #[.int .i64 0, .int .i64 0, .string ⟨#[]⟩, .int .i64 0, .int .i64 0, .int .i64 0, .slice none 0 0, .bool false, .int .i64 0]), 9, 96) := by kernel_rfl
/-- A record, and where its value lies. -/
structure Mr where
  r : Rc
  A : Option Addr
  c : Nat
def Mr.cs (m : Mr) : List Value := [.int .i64 m.r.o, .int .i64 m.r.s, .string (strB m.r.key), .int .i64 m.r.ml, .int .i64 m.r.ct, .int .i64 m.r.vo, .slice m.A m.r.val.length m.c, .bool m.r.gone, .int .i64 m.r.tt]
abbrev Mr.v (m : Mr) : Value := recV m.r.o m.r.s (strB m.r.key) m.r.ml m.r.ct m.r.vo m.A m.r.val.length m.c m.r.gone m.r.tt
def rowM (L : List Mr) : List Value := L.flatMap Mr.cs
theorem rowM_len (L : List Mr) : (rowM L).length = L.length * 9 := by
  induction L with
  | nil => rfl
  | cons a t ih =>
    show (a.cs ++ rowM t).length = _
    rw [List.length_append, ih]
    simp [Mr.cs]
    omega
theorem rowM_nil : rowM [] = [] := rfl
theorem rowM_append (a b : List Mr) : rowM (a ++ b) = rowM a ++ rowM b := by simp [rowM]
theorem rowM_one (x : Mr) : rowM [x] = x.cs := by simp [rowM]
theorem rowM_at {L : List Mr} {k : Nat} {x : Mr} (h : L[k]? = some x) (j : Nat) (hj : j < 9) : (rowM L)[k * 9 + j]? = x.cs[j]? := by
  have hk : k < L.length := (List.getElem?_eq_some_iff.1 h).1
  have e : L = L.take k ++ x :: L.drop (k + 1) := by
    have h2 : L[k] = x := by have := List.getElem?_eq_getElem hk; rw [this] at h; injection h
    conv => lhs; rw [← List.take_append_drop k L]
    rw [List.drop_eq_getElem_cons hk, h2]
  rw [e, rowM_append, show x :: L.drop (k + 1) = [x] ++ L.drop (k + 1) from rfl, rowM_append, rowM_one, List.getElem?_append_right (by rw [rowM_len, List.length_take]; omega), rowM_len, List.length_take, show min k L.length * 9 = k * 9 from by rw [show min k L.length = k from by omega], show k * 9 + j - k * 9 = j from by omega, List.getElem?_append_left (by simp [Mr.cs]; omega)]
theorem mr_cell1 (x : Mr) : ∀ u ∈ x.cs, u.oneCell' = true := by
  intro u hu
  simp [Mr.cs] at hu
  rcases hu with rfl | rfl | rfl | rfl | rfl | rfl | rfl | rfl | rfl <;> rfl
theorem rowM_one1 (L : List Mr) : ∀ u ∈ rowM L, u.oneCell' = true := by
  intro u hu
  simp only [rowM, List.mem_flatMap] at hu
  obtain ⟨x, _, h⟩ := hu
  exact mr_cell1 x u h
/-- A record's value stands; it lies in a block of Q. -/
structure Mr.At (Q : Nat → Prop) (w : World) (m : Mr) : Prop where
  b : ByL w m.A m.r.val
  n : m.A = none → m.r.val.length = 0
  q : 0 < m.r.val.length → ∀ ad, m.A = some ad → Q ad.block
theorem Mr.At.but {Q S : Nat → Prop} {w w' : World} {m : Mr} (h : m.At Q w) (k : But S w w') (hs : ∀ i, S i → ¬ Q i) : m.At Q w' := ⟨h.b.but k (fun h0 ad had hx => hs _ hx (h.q h0 ad had)), h.n, h.q⟩
theorem Mr.At.below {Q : Nat → Prop} {w w' : World} {m : Mr} (h : m.At Q w) (k : Below w.heap.size w w') : m.At Q w' := h.but (S := fun _ => False) (But.of_below k) (fun _ hf => hf.elim)
theorem Mr.At.mono {Q Q' : Nat → Prop} {w : World} {m : Mr} (h : m.At Q w) (k : ∀ i, i < w.heap.size → Q i → Q' i) : m.At Q' w := ⟨h.b, h.n, fun h0 ad had => by
  obtain ⟨B, O, e, hB, _⟩ := h.b h0
  rw [e] at had
  injection had with had
  subst had
  exact k _ hB (h.q h0 _ e)⟩
/-- Records read so far, and the reader. -/
structure RL (Q : Nat → Prop) (w wr : World) (b : Nat) (v : Value) (k : Nat) (L : List Mr) (s : RSt) : Prop where
  row : wr.ownsRow w.heap.size 46 9 v k (rowM L)
  len : L.length = k
  ats : ∀ m ∈ L, m.At (fun i => w.heap.size ≤ i ∧ i ≠ b ∧ v.ownBlock ≠ some i) wr
  rd : Rd Q wr b s
  left : rLeft s ≤ 100000
  bel : Below w.heap.size w wr
  vb : v.ownBlock ≠ some b
  vq : ∀ i, v.ownBlock = some i → ¬ Q i
  lb : w.heap.size ≤ b
theorem RL.below {Q : Nat → Prop} {w wr wa : World} {b : Nat} {v : Value} {k : Nat} {L : List Mr} {s : RSt} (h : RL Q w wr b v k L s) (hk : Below wr.heap.size wr wa) : RL Q w wa b v k L s :=
  ⟨(But.of_below (S := fun _ => False) hk).row h.row (fun _ _ hf => hf), h.len, fun m hm => (h.ats m hm).below hk, h.rd.below hk, h.left, h.bel.trans (hk.mono h.bel.size), h.vb, h.vq, h.lb⟩
theorem RL.read {Q : Nat → Prop} {w wr wa : World} {b : Nat} {v : Value} {k : Nat} {L : List Mr} {s s' : RSt} (h : RL Q w wr b v k L s) (hp : RdPost Q b s' wr wa) (hl : rLeft s' ≤ 100000) : RL Q w wa b v k L s' :=
  ⟨(But.of_only (S := fun i => i = b) hp.only rfl).row h.row (fun i hi e => h.vb (e ▸ hi)), h.len, fun m hm => (h.ats m hm).but (S := fun i => i = b) (But.of_only hp.only rfl) (fun i e q => q.2.1 e), hp.rd, hl, h.bel.trans (hp.only.below h.lb h.bel.size), h.vb, h.vq, h.lb⟩
theorem RL.app {Q : Nat → Prop} {w wr wa wb : World} {b g cap : Nat} {v : Value} {k : Nat} {L : List Mr} {s : RSt} {m : Mr} (h : RL Q w wr b v k L s) (hm : m.At (fun i => w.heap.size ≤ i ∧ i ≠ b ∧ v.ownBlock ≠ some i) wr) (ha : Below wr.heap.size wr wa) (hg : wa.grownBy wb v.ownBlock)
    (ho : wb.ownsRow w.heap.size 46 9 (.slice (some ⟨g, 0, none⟩) (k + 1) cap) (k + 1) (rowM L ++ m.cs)) (hat : v.ownBlock = some g ∨ wa.heap.size ≤ g) (hq : ∀ i, wr.heap.size ≤ i → ¬ Q i) : RL Q w wb b (.slice (some ⟨g, 0, none⟩) (k + 1) cap) (k + 1) (L ++ [m]) s := by
  have h1 := h.below ha
  have hbt : But (fun i => v.ownBlock = some i) wa wb := But.of_grown hg (fun i hi => hi)
  have key : ∀ x : Mr, x.At (fun i => w.heap.size ≤ i ∧ i ≠ b ∧ v.ownBlock ≠ some i) wr → x.At (fun i => w.heap.size ≤ i ∧ i ≠ b ∧ (Value.slice (some ⟨g, 0, none⟩) (k + 1) cap).ownBlock ≠ some i) wb := fun x hx =>
    (((hx.mono (Q' := fun i => (w.heap.size ≤ i ∧ i ≠ b ∧ v.ownBlock ≠ some i) ∧ i < wr.heap.size) (fun i hi hq => ⟨hq, hi⟩)).below ha).but hbt (fun i hi hq => hq.1.2.2 hi)).mono (fun i _ hq => ⟨hq.1.1, hq.1.2.1, fun e => by
      have e' : g = i := by simpa [Value.ownBlock] using e
      subst e'
      rcases hat with q | q
      · exact hq.1.2.2 q
      · have := ha.size; have := hq.2; omega⟩)
  have hgb : g ≠ b := fun e => by
    subst e
    rcases hat with q | q
    · exact h.vb q
    · have := h1.rd.lt; omega
  refine ⟨by rw [rowM_append, rowM_one]; exact ho, by rw [List.length_append, h.len]; rfl, fun x hx => ?_, h1.rd.but hbt h.vb (fun i hi => h.vq i hi), h.left, h1.bel.trans (hbt.below (fun i hi => (World.ownsRow.lt h1.row i hi).1) h1.bel.size), by simp [Value.ownBlock]; exact hgb, fun i hi => ?_, h.lb⟩
  · rcases List.mem_append.1 hx with q | q
    · exact key x (h.ats x q)
    · rw [List.mem_singleton.1 q]
      exact key m hm
  · have e' : g = i := by simpa [Value.ownBlock] using hi
    subst e'
    rcases hat with q | q
    · exact h.vq g q
    · exact hq g (Nat.le_trans ha.size q)
theorem RL.start {Q : Nat → Prop} {w wr : World} {b : Nat} {s : RSt} (hr : Rd Q wr b s) (hl : rLeft s ≤ 100000) (hb : Below w.heap.size w wr) (lb : w.heap.size ≤ b) : RL Q w wr b (.slice none 0 0) 0 [] s :=
  ⟨World.ownsRow_nil _ _ _ _, rfl, (fun _ h => by cases h), hr, hl, hb, (by simp [Value.ownBlock]), (fun i h => by simp [Value.ownBlock] at h), lb⟩
theorem RL.shape {Q : Nat → Prop} {w wr : World} {b : Nat} {v : Value} {k : Nat} {L : List Mr} {s : RSt} (h : RL Q w wr b v k L s) : ∃ A c, v = .slice A k c := by
  rcases h.row.2 with ⟨e, h0⟩ | ⟨g, cap, cur, e, _⟩
  · exact ⟨none, 0, by rw [e, h0]⟩
  · exact ⟨_, _, e⟩
/-- Records that are read one behind the other. -/
def listR : Nat → RSt → List Rc → Option (List Rc × RSt)
  | 0, s, acc => some (acc, s)
  | n + 1, s, acc => match decR (rBytes s).1 with
    | none => none
    | some r => listR n (rBytes s).2 (acc ++ [r])
theorem listR_none {n : Nat} {s : RSt} {acc : List Rc} (h : decR (rBytes s).1 = none) : listR (n + 1) s acc = none := by rw [listR, h]
theorem listR_some {n : Nat} {s : RSt} {acc : List Rc} {r : Rc} (h : decR (rBytes s).1 = some r) : listR (n + 1) s acc = listR n (rBytes s).2 (acc ++ [r]) := by rw [listR, h]
/-- What a list of records tells. -/
def rdL (l : List Int) : Option (List Rc) :=
  if 64 < (rNum (some l)).1 then none else match listR (rNum (some l)).1 (rNum (some l)).2 [] with
    | some (rs, some []) => some rs
    | _ => none
theorem rdL_long {l : List Int} (h : 64 < (rNum (some l)).1) : rdL l = none := by rw [rdL, if_pos h]
theorem rdL_bad {l : List Int} (h : listR (rNum (some l)).1 (rNum (some l)).2 [] = none) : rdL l = none := by
  rw [rdL, h]
  split <;> rfl
theorem rdL_more {l : List Int} {rs : List Rc} {s : RSt} (h : listR (rNum (some l)).1 (rNum (some l)).2 [] = some (rs, s)) (hs : s ≠ some []) : rdL l = none := by
  rw [rdL, h]
  split
  · rfl
  · split
    · rename_i h1
      injection h1 with h1
      injection h1 with _ h1
      exact absurd h1 hs
    · rfl
theorem rdL_yes {l : List Int} {rs : List Rc} (h0 : ¬ 64 < (rNum (some l)).1) (h : listR (rNum (some l)).1 (rNum (some l)).2 [] = some (rs, some [])) : rdL l = some rs := by
  rw [rdL, if_neg h0, h]
/-- What is told of a list: its records in memory. -/
def ListRes (l : List Int) (w w' : World) (e : Ending) : Prop :=
  (rdL l = none ∧ e = .returned (.tuple #[.slice none 0 0, .int .i64 3])) ∨
  (∃ (L : List Mr) (v : Value), rdL l = some (L.map Mr.r) ∧ e = .returned (.tuple #[v, .int .i64 0]) ∧ w'.ownsRow w.heap.size 46 9 v L.length (rowM L) ∧ L.length ≤ 64 ∧ (∀ m ∈ L, m.At (fun i => w.heap.size ≤ i) w'))
end Go.Proofs.YtpflbhcgkndpcaaGreatDoor

/- records: two rows of records, one by one. -/
namespace Go.Proofs.YtpflbhcgkndpcaaGreatDoor
open Go.RowKit

/-- A row of records that lies in memory: a slice of its own. -/
structure RowAt (w : World) (v : Value) (L : List Mr) : Prop where
  ex : ∃ A c, v = .slice A L.length c ∧ (0 < L.length → ∃ B O, A = some ⟨B, O, none⟩ ∧ B < w.heap.size ∧ ∀ j u, (rowM L)[j]? = some u → w.cell? ⟨B, O + j, none⟩ = some u)
theorem RowAt.of {w : World} {base : Nat} {v : Value} {L : List Mr} (h : w.ownsRow base 46 9 v L.length (rowM L)) : RowAt w v L := by
  have hc0 := fun g hg => World.ownsRow.cells h (g := g) hg
  rcases h.2 with ⟨rfl, h0⟩ | ⟨g, cap, cur, rfl, hb', hh, h1, _⟩
  · exact ⟨none, 0, by rw [h0], fun hn => absurd hn (by omega)⟩
  · exact ⟨_, _, rfl, fun _ => ⟨g, 0, rfl, (World.ownsRow.lt h g rfl).2, fun j u hj => by
      have := hc0 g rfl j _ hj
      rwa [at_add] at this⟩⟩
theorem RowAt.below {w w' : World} {v : Value} {L : List Mr} (h : RowAt w v L) (k : Below w.heap.size w w') : RowAt w' v L := by
  obtain ⟨A, c, e, hc⟩ := h.ex
  refine ⟨A, c, e, fun h0 => ?_⟩
  obtain ⟨B, O, e2, hB, hcc⟩ := hc h0
  exact ⟨B, O, e2, Nat.lt_of_lt_of_le hB k.size, fun j u hu => (k.cell (p := ⟨B, O + j, none⟩) hB).trans (hcc j u hu)⟩
end Go.Proofs.YtpflbhcgkndpcaaGreatDoor

