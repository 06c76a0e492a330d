/- Versions: their order; a row of them (six cells each), and where the values lie. -/
import Derived.Test.YtpflbhcgkndpcaaGreatDoorOctMem
import Derived.Test.YtpflbhcgkndpcaaGreatDoorG16u
import Derived.Test.YtpflbhcgkndpcaaGreatDoorHlcCmp
set_option linter.unusedSimpArgs false
set_option linter.unusedVariables false
namespace Go.Proofs.YtpflbhcgkndpcaaGreatDoor
open Go.RowKit

theorem ver_info : (Tryz.prog.info? 44).map (fun i => (i.zero, i.size, i.bytes)) = some (some (.agg #[.int .i64 0, .int .i64 0, .int .i64 0, .slice none 0 0, .bool false, .int .i64 0]), 6, 64) := by kernel_rfl
structure Vs where
  ml : Int
  ct : Int
  vo : Int
  val : List Int
  gone : Bool
  tt : Int
def Vs.ok (v : Vs) : Bool := okV v.ml v.ct v.vo v.val.length v.gone v.tt
/-- Where a version stands to another one. -/
def cmpV (a b : Vs) : Int := or2 (cmp2 a.ml a.ct b.ml b.ct) (cmp1 a.vo b.vo)
def LtV (a b : Vs) : Prop := a.ml < b.ml ∨ a.ml = b.ml ∧ (a.ct < b.ct ∨ a.ct = b.ct ∧ a.vo < b.vo)
theorem cmpV_lt {a b : Vs} : cmpV a b < 0 ↔ LtV a b := by
  unfold cmpV cmp2 or2 cmp1 LtV
  (repeat' split) <;> omega
theorem cmpV_gt {a b : Vs} : 0 < cmpV a b ↔ LtV b a := by
  unfold cmpV cmp2 or2 cmp1 LtV
  (repeat' split) <;> omega
theorem cmpV_eq {a b : Vs} : cmpV a b = 0 ↔ a.ml = b.ml ∧ a.ct = b.ct ∧ a.vo = b.vo := by
  unfold cmpV cmp2 or2 cmp1
  (repeat' split) <;> omega
/-- Rising. -/
def Rise (L : List Vs) : Prop := ∀ (i j : Nat) x y, i < j → L[i]? = some x → L[j]? = some y → LtV x y
/-- A version, and where its value lies. -/
structure Mv where
  v : Vs
  A : Option Addr
  c : Nat
def Mv.cs (m : Mv) : List Value := [.int .i64 m.v.ml, .int .i64 m.v.ct, .int .i64 m.v.vo, .slice m.A m.v.val.length m.c, .bool m.v.gone, .int .i64 m.v.tt]
abbrev Mv.val (m : Mv) : Value := verV m.v.ml m.v.ct m.v.vo m.A m.v.val.length m.c m.v.gone m.v.tt
def rowV (L : List Mv) : List Value := L.flatMap Mv.cs
theorem rowV_len (L : List Mv) : (rowV L).length = L.length * 6 := by
  induction L with
  | nil => rfl
  | cons a t ih =>
    show (a.cs ++ rowV t).length = _
    rw [List.length_append, ih]
    simp [Mv.cs]
    omega
theorem rowV_nil : rowV [] = [] := rfl
theorem rowV_append (a b : List Mv) : rowV (a ++ b) = rowV a ++ rowV b := by simp [rowV]
theorem rowV_one (x : Mv) : rowV [x] = x.cs := by simp [rowV]
theorem rowV_cons (x : Mv) (L : List Mv) : rowV (x :: L) = x.cs ++ rowV L := rfl
theorem rowV_at {L : List Mv} {k : Nat} {x : Mv} (h : L[k]? = some x) (j : Nat) (hj : j < 6) : (rowV L)[k * 6 + j]? = x.cs[j]? := by
  have hk : k < L.length := (List.getElem?_eq_some_iff.1 h).1
  have e : L = L.take k ++ x :: L.drop (k + 1) := by
    have h2 : L[k] = x := by have := List.getElem?_eq_getElem hk; rw [this] at h; injection h
    conv => lhs; rw [← List.take_append_drop k L]
    rw [List.drop_eq_getElem_cons hk, h2]
  rw [e, rowV_append, show x :: L.drop (k + 1) = [x] ++ L.drop (k + 1) from rfl, rowV_append, rowV_one, List.getElem?_append_right (by rw [rowV_len, List.length_take]; omega), rowV_len, List.length_take, show min k L.length = k from by omega, show k * 6 + j - k * 6 = j from by omega, List.getElem?_append_left (by simp [Mv.cs]; omega)]
theorem rowV_take (L : List Mv) (k : Nat) : (rowV L).take (k * 6) = rowV (L.take k) := by
  by_cases hk : k ≤ L.length
  · conv => lhs; rw [← List.take_append_drop k L, rowV_append]
    rw [List.take_append_of_le_length (by rw [rowV_len, List.length_take]; omega), List.take_of_length_le (by rw [rowV_len, List.length_take]; omega)]
  · rw [List.take_of_length_le (by rw [rowV_len]; omega), List.take_of_length_le (by omega)]
theorem rowV_drop (L : List Mv) (k : Nat) : (rowV L).drop (k * 6) = rowV (L.drop k) := by
  by_cases hk : k ≤ L.length
  · conv => lhs; rw [← List.take_append_drop k L, rowV_append]
    rw [List.drop_append, List.drop_of_length_le (by rw [rowV_len, List.length_take]; omega), rowV_len, List.length_take, show k * 6 - min k L.length * 6 = 0 from by omega]
    simp
  · rw [List.drop_of_length_le (by rw [rowV_len]; omega), List.drop_of_length_le (by omega)]; rfl
theorem mv_cell1 (x : Mv) : ∀ u ∈ x.cs, u.oneCell' = true := by
  intro u hu
  simp [Mv.cs] at hu
  rcases hu with rfl | rfl | rfl | rfl | rfl | rfl <;> rfl
theorem rowV_one1 (L : List Mv) : ∀ u ∈ rowV L, u.oneCell' = true := by
  intro u hu
  simp only [rowV, List.mem_flatMap] at hu
  obtain ⟨x, _, h⟩ := hu
  exact mv_cell1 x u h
/-- A version's value stands; it lies in a block of Q. -/
structure Mv.At (Q : Nat → Prop) (w : World) (m : Mv) : Prop where
  b : ByL w m.A m.v.val
  n : m.A = none → m.v.val.length = 0
  q : 0 < m.v.val.length → ∀ ad, m.A = some ad → Q ad.block
  y : isBy m.v.val
theorem Mv.At.but {Q S : Nat → Prop} {w w' : World} {m : Mv} (h : m.At Q w) (k : But S w w') (hs : ∀ i, S i → ¬ Q i) : m.At Q w' := ⟨h.b.but k (fun h0 ad had hx => hs _ hx (h.q h0 ad had)), h.n, h.q, h.y⟩
theorem Mv.At.below {Q : Nat → Prop} {w w' : World} {m : Mv} (h : m.At Q w) (k : Below w.heap.size w w') : m.At Q w' := h.but (S := fun _ => False) (But.of_below k) (fun _ hf => hf.elim)
theorem Mv.At.mono {Q Q' : Nat → Prop} {w : World} {m : Mv} (h : m.At Q w) (k : ∀ i, i < w.heap.size → Q i → Q' i) : m.At Q' w := ⟨h.b, h.n, fun h0 ad had => by
  obtain ⟨B, O, e, hB, _⟩ := h.b h0
  rw [e] at had
  injection had with had
  subst had
  exact k _ hB (h.q h0 _ e), h.y⟩
/-- A row of versions at an address: each with its value. -/
def FootC (b : Nat) (v : Value) (k : Nat) : Prop := k = b ∨ v.ownBlock = some k
/-- A chain: its block, its row, its versions; all its blocks lie in P. -/
structure Ch (P : Nat → Prop) (w : World) (b : Nat) (v : Value) (L : List Mv) : Prop where
  c0 : w.cell? ⟨b, 0, none⟩ = some v
  f0 : w.frozen? ⟨b, 0, none⟩ = false
  lt : b < w.heap.size
  row : w.ownsRow 0 44 6 v L.length (rowV L)
  ne : v.ownBlock ≠ some b
  pb : P b
  pv : ∀ i, v.ownBlock = some i → P i
  ats : ∀ m ∈ L, m.At (fun i => P i ∧ i ≠ b ∧ v.ownBlock ≠ some i) w
theorem Ch.but {P S : Nat → Prop} {w w' : World} {b : Nat} {v : Value} {L : List Mv} (h : Ch P w b v L) (k : But S w w') (hs : ∀ i, P i → ¬ S i) : Ch P w' b v L :=
  ⟨(k.cell b 0 h.lt (hs b h.pb)).trans h.c0, (k.frozen b 0 h.lt (hs b h.pb)).trans h.f0, Nat.lt_of_lt_of_le h.lt k.size, k.row h.row (fun i hi => hs i (h.pv i hi)), h.ne, h.pb, h.pv, fun m hm => (h.ats m hm).but k (fun i hi hq => hs i hq.1 hi)⟩
theorem Ch.below {P : Nat → Prop} {w w' : World} {b : Nat} {v : Value} {L : List Mv} (h : Ch P w b v L) (k : Below w.heap.size w w') : Ch P w' b v L := h.but (S := fun _ => False) (But.of_below k) (fun _ _ hf => hf.elim)
theorem Ch.alloc {P : Nat → Prop} {w : World} {b : Nat} {v : Value} {L : List Mv} (h : Ch P w b v L) (o : Obj) : Ch P (w.alloc o) b v L := h.below ((Below.refl _ _).alloc (Nat.le_refl _) _)
theorem Ch.mono {P P' : Nat → Prop} {w : World} {b : Nat} {v : Value} {L : List Mv} (h : Ch P w b v L) (k : ∀ i, i < w.heap.size → P i → P' i) : Ch P' w b v L :=
  ⟨h.c0, h.f0, h.lt, h.row, h.ne, k _ h.lt h.pb, fun i hi => k _ (World.ownsRow.lt h.row i hi).2 (h.pv i hi), fun m hm => (h.ats m hm).mono (fun i hi hq => ⟨k i hi hq.1, hq.2⟩)⟩
theorem row_shapeV {w : World} {base n : Nat} {v : Value} {xs : List Value} (h : w.ownsRow base 44 6 v n xs) : ∃ A c, v = .slice A n c := by
  rcases h.2 with ⟨e, h0⟩ | ⟨g, cap, cur, e, _⟩
  · exact ⟨none, 0, by rw [e, h0]⟩
  · exact ⟨_, _, e⟩
theorem Ch.shape {P : Nat → Prop} {w : World} {b : Nat} {v : Value} {L : List Mv} (h : Ch P w b v L) : ∃ A c, v = .slice A L.length c := row_shapeV h.row
/-- The cells of one version of a row. -/
theorem row_ver {w : World} {base g c n : Nat} {L : List Mv} (h : w.ownsRow base 44 6 (.slice (some ⟨g, 0, none⟩) n c) n (rowV L)) {k : Nat} {x : Mv} (hk : L[k]? = some x) :
    w.cell? ⟨g, k * 6, none⟩ = some (.int .i64 x.v.ml) ∧ w.cell? ⟨g, k * 6 + 1, none⟩ = some (.int .i64 x.v.ct) ∧ w.cell? ⟨g, k * 6 + 2, none⟩ = some (.int .i64 x.v.vo) ∧ w.cell? ⟨g, k * 6 + 3, none⟩ = some (.slice x.A x.v.val.length x.c) ∧ w.cell? ⟨g, k * 6 + 4, none⟩ = some (.bool x.v.gone) ∧ w.cell? ⟨g, k * 6 + 5, none⟩ = some (.int .i64 x.v.tt) :=
  ⟨row_cell h (rowV_at hk 0 (by omega)), row_cell h (rowV_at hk 1 (by omega)), row_cell h (rowV_at hk 2 (by omega)), row_cell h (rowV_at hk 3 (by omega)), row_cell h (rowV_at hk 4 (by omega)), row_cell h (rowV_at hk 5 (by omega))⟩
end Go.Proofs.YtpflbhcgkndpcaaGreatDoor
