/- Bytes in memory; a writer's bytes; a row that is appended to. -/
import Derived.Test.YtpflbhcgkndpcaaGreatDoorBut
import Derived.Test.YtpflbhcgkndpcaaGreatDoorOctMath
import Derived.Deep.AppendLies
import Derived.Laws.AppendOwn
import Derived.Laws.OwnMore
set_option linter.unusedSimpArgs false
set_option linter.unusedVariables false
namespace Go.Proofs.YtpflbhcgkndpcaaGreatDoor
open Go.ChangeShapes Go.WideShapes Go.ChangeAt Go.RowKit Go.Joins

theorem u8_info : (Tryz.prog.info? 5).map (fun i => (i.zero, i.size, i.bytes)) = some (some (.int .u8 0), 1, 1) := by kernel_rfl
def bC (l : List Int) : List Value := l.map (Value.int .u8)
theorem bC_len (l : List Int) : (bC l).length = l.length := by simp [bC]
theorem bC_nil : bC [] = [] := rfl
theorem bC_cons (a : Int) (l : List Int) : bC (a :: l) = .int .u8 a :: bC l := rfl
theorem bC_append (a b : List Int) : bC (a ++ b) = bC a ++ bC b := by simp [bC]
theorem bC_one (l : List Int) : ∀ u ∈ bC l, u.oneCell' = true := by
  intro u hu
  simp [bC] at hu
  obtain ⟨j, _, rfl⟩ := hu
  rfl
theorem bC_at (l : List Int) (j : Nat) (h : j < l.length) : (bC l)[j]? = some (.int .u8 l[j]) := by simp [bC, h]
theorem bC_some {l : List Int} {j : Nat} {u : Value} (h : (bC l)[j]? = some u) : ∃ q : j < l.length, u = .int .u8 l[j] := by
  rcases Nat.lt_or_ge j l.length with q | q
  · rw [bC_at l j q] at h; injection h with h; exact ⟨q, h.symm⟩
  · rw [List.getElem?_eq_none (by rw [bC_len]; exact q)] at h; cases h
theorem bC_drop (l : List Int) (n : Nat) : bC (l.drop n) = (bC l).drop n := by simp [bC]
theorem bC_take (l : List Int) (n : Nat) : bC (l.take n) = (bC l).take n := by simp [bC]
/-- Bytes at an address. -/
def ByL (w : World) (A : Option Addr) (l : List Int) : Prop := 0 < l.length → ∃ B O, A = some ⟨B, O, none⟩ ∧ B < w.heap.size ∧ ∀ j u, (bC l)[j]? = some u → w.cell? ⟨B, O + j, none⟩ = some u
theorem ByL.nil (w : World) (A : Option Addr) : ByL w A [] := fun h => absurd h (by simp)
/-- The address lies in no block of S. -/
def Av (S : Nat → Prop) (A : Option Addr) : Prop := ∀ ad, A = some ad → ¬ S ad.block
theorem Av.none (S : Nat → Prop) : Av S none := fun _ h => by cases h
theorem ByL.but {S : Nat → Prop} {w w' : World} {A : Option Addr} {l : List Int} (h : ByL w A l) (k : But S w w') (ha : 0 < l.length → Av S A) : ByL w' A l := by
  intro h0
  obtain ⟨B, O, rfl, hB, hc⟩ := h h0
  exact ⟨B, O, rfl, Nat.lt_of_lt_of_le hB k.size, fun j u hu => (k.cell B (O + j) hB (ha h0 _ rfl)).trans (hc j u hu)⟩
theorem ByL.below {w w' : World} {A : Option Addr} {l : List Int} (h : ByL w A l) (k : Below w.heap.size w w') : ByL w' A l := h.but (S := fun _ => False) (But.of_below k) (fun _ _ _ hf => hf)
theorem ByL.only {w w' : World} {b : Nat} {A : Option Addr} {l : List Int} (h : ByL w A l) (k : Only b w w') (ha : ∀ ad, A = some ad → ad.block ≠ b) : ByL w' A l := h.but (S := fun i => i = b) (But.of_only k rfl) (fun _ => ha)
theorem ByL.alloc {w : World} {A : Option Addr} {l : List Int} (h : ByL w A l) (o : Obj) : ByL (w.alloc o) A l := h.below ((Below.refl _ _).alloc (Nat.le_refl _) o)
theorem ByL.drew {w : World} {A : Option Addr} {l : List Int} (h : ByL w A l) : ByL w.drew A l := h
theorem ByL.drewN {w : World} {A : Option Addr} {l : List Int} (h : ByL w A l) (n : Nat) : ByL (w.drewN n) A l := h
theorem ByL.cells {w : World} {ad : Addr} {l : List Int} (h : ByL w (some ad) l) : ∀ j u, (bC l)[j]? = some u → w.cell? (ad.add j) = some u := by
  intro j u hu
  obtain ⟨q, _⟩ := bC_some hu
  obtain ⟨B, O, he, _, hc⟩ := h (by omega)
  injection he with he
  subst he
  rw [at_add]
  exact hc j u hu
theorem ByL.drop {w : World} {B O : Nat} {l : List Int} (h : ByL w (some ⟨B, O, none⟩) l) (n : Nat) : ByL w (some ⟨B, O + n, none⟩) (l.drop n) := by
  intro h0
  rw [List.length_drop] at h0
  obtain ⟨B', O', he, hB, hc⟩ := h (by omega)
  injection he with he
  injection he with h1 h2
  subst h1 h2
  refine ⟨B, O + n, rfl, hB, fun j u hu => ?_⟩
  rw [bC_drop, List.getElem?_drop] at hu
  rw [Nat.add_assoc]
  exact hc _ _ hu
theorem ByL.take {w : World} {A : Option Addr} {l : List Int} (h : ByL w A l) (n : Nat) : ByL w A (l.take n) := by
  intro h0
  rw [List.length_take] at h0
  obtain ⟨B, O, rfl, hB, hc⟩ := h (by omega)
  refine ⟨B, O, rfl, hB, fun j u hu => ?_⟩
  obtain ⟨q, _⟩ := bC_some hu
  rw [List.length_take] at q
  rw [bC_take, List.getElem?_take, if_pos (by omega)] at hu
  exact hc _ _ hu
/-- A row of bytes that is owned. -/
abbrev Own8 (base : Nat) (w : World) (v : Value) (l : List Int) : Prop := w.ownsRow base 5 1 v l.length (bC l)
theorem Own8.bytes {base : Nat} {w : World} {v : Value} {l : List Int} (h : Own8 base w v l) : ∃ A c, v = .slice A l.length c ∧ ByL w A l ∧ (∀ ad, A = some ad → base ≤ ad.block ∧ v.ownBlock = some ad.block ∧ ad.off = 0 ∧ ad.spot = none) ∧ l.length ≤ c := by
  have hc0 := fun g hg => World.ownsRow.cells h (g := g) hg
  rcases h.2 with ⟨rfl, h0⟩ | ⟨g, cap, cur, rfl, hb', hh, h1, _⟩
  · exact ⟨none, 0, by rw [h0], fun hn => absurd hn (by omega), (fun ad h => by cases h), by omega⟩
  · refine ⟨_, _, rfl, fun hn => ⟨g, 0, rfl, (World.ownsRow.lt h g rfl).2, fun j u hj => ?_⟩, fun ad h => ?_, h1⟩
    · have := hc0 g rfl j _ hj
      rwa [at_add] at this
    · injection h with h
      subst h
      exact ⟨hb', rfl, rfl, rfl⟩
/-- A writer: its block, its row, what was laid. -/
structure Wr (w : World) (b : Nat) (v : Value) (l : List Int) : Prop where
  c0 : w.cell? ⟨b, 0, none⟩ = some v
  f0 : w.frozen? ⟨b, 0, none⟩ = false
  lt : b < w.heap.size
  row : Own8 0 w v l
  ne : v.ownBlock ≠ some b
def Foot (b : Nat) (v : Value) (k : Nat) : Prop := k = b ∨ v.ownBlock = some k
theorem Wr.but {S : Nat → Prop} {w w' : World} {b : Nat} {v : Value} {l : List Int} (h : Wr w b v l) (k : But S w w') (hs : ∀ i, Foot b v i → ¬ S i) : Wr w' b v l :=
  ⟨(k.cell b 0 h.lt (hs b (.inl rfl))).trans h.c0, (k.frozen b 0 h.lt (hs b (.inl rfl))).trans h.f0, Nat.lt_of_lt_of_le h.lt k.size, k.row h.row (fun i hi => hs i (.inr hi)), h.ne⟩
theorem Wr.below {w w' : World} {b : Nat} {v : Value} {l : List Int} (h : Wr w b v l) (k : Below w.heap.size w w') : Wr w' b v l := h.but (S := fun _ => False) (But.of_below k) (fun _ _ hf => hf.elim)
theorem Wr.alloc {w : World} {b : Nat} {v : Value} {l : List Int} (h : Wr w b v l) (o : Obj) : Wr (w.alloc o) b v l := h.below ((Below.refl _ _).alloc (Nat.le_refl _) _)
theorem Wr.new (w : World) (t : TypeId) : Wr (w.alloc (.cells #[.slice none 0 0] t)) w.heap.size (.slice none 0 0) [] := by
  constructor <;> first | exact World.ownsRow_nil _ _ _ _ | simp [Value.ownBlock]
theorem Wr.shape {w : World} {b : Nat} {v : Value} {l : List Int} (h : Wr w b v l) : ∃ A c, v = .slice A l.length c := by
  obtain ⟨A, c, e, _⟩ := h.row.bytes
  exact ⟨A, c, e⟩
theorem Wr.foot_lt {w : World} {b : Nat} {v : Value} {l : List Int} (h : Wr w b v l) : ∀ k, Foot b v k → k < w.heap.size := by
  rintro k (rfl | hk)
  · exact h.lt
  · exact (World.ownsRow.lt h.row k hk).2
/-- What a call leaves that lays bytes. -/
structure WrPost (b : Nat) (v : Value) (l : List Int) (w w' : World) (v' : Value) : Prop where
  wr : Wr w' b v' l
  but : But (Foot b v) w w'
  fresh : Fresh w v v'
theorem WrPost.start {b : Nat} {v : Value} {l : List Int} {w : World} (h : Wr w b v l) : WrPost b v l w w v := ⟨h, But.refl _ _, fun _ hk => .inl hk⟩
theorem WrPost.trans {b : Nat} {v v1 v2 : Value} {l l2 : List Int} {w w1 w2 : World} (h : WrPost b v l w w1 v1) (k : WrPost b v1 l2 w1 w2 v2) : WrPost b v l2 w w2 v2 := by
  refine ⟨k.wr, h.but.trans k.but (fun i hi hf => ?_), fun i hi => ?_⟩
  · rcases hf with rfl | hf
    · exact .inl rfl
    · rcases h.fresh i hf with h1 | h1
      · exact .inr h1
      · omega
  · rcases k.fresh i hi with h1 | h1
    · exact h.fresh i h1
    · exact .inr (Nat.le_trans h.but.size h1)
theorem WrPost.next {b : Nat} {v v1 : Value} {l : List Int} {w w1 w2 : World} (h : WrPost b v l w w1 v1) (k : Below w1.heap.size w1 w2) : WrPost b v l w w2 v1 := ⟨h.wr.below k, h.but.next k, h.fresh⟩
theorem WrPost.first {b : Nat} {v v2 : Value} {l2 : List Int} {w w1 w2 : World} (k : Below w.heap.size w w1) (h : WrPost b v l2 w1 w2 v2) : WrPost b v l2 w w2 v2 :=
  ⟨h.wr, (But.of_below (S := Foot b v) k).trans h.but (fun _ _ hf => hf), fun i hi => (h.fresh i hi).imp id (fun q => Nat.le_trans k.size q)⟩
/-- An append to the writer's row, and the store of what it tells. -/
theorem WrPost.app {b g cap m : Nat} {v : Value} {l r : List Int} {w w1 w2 : World} (h : Wr w b v l) (hk : Below w.heap.size w w1) (hm : m = l.length + r.length)
    (hown : w2.ownsRow 0 5 1 (.slice (some ⟨g, 0, none⟩) m cap) m (bC l ++ bC r)) (hg : w1.grownBy w2 v.ownBlock) (hat : v.ownBlock = some g ∨ g = w1.heap.size) :
    WrPost b v (l ++ r) w (w2.setCell ⟨b, 0, none⟩ (.slice (some ⟨g, 0, none⟩) m cap)) (.slice (some ⟨g, 0, none⟩) m cap) := by
  subst hm
  have h1 := h.below hk
  have hbn : some b ≠ v.ownBlock := fun e => h.ne e.symm
  have hgb : g ≠ b := by
    rintro rfl
    rcases hat with q | q
    · exact h.ne q
    · have := h1.lt; omega
  have c2 : w2.cell? ⟨b, 0, none⟩ = some v := (hg.cell_far ⟨b, 0, none⟩ h1.lt hbn).trans h1.c0
  have f2 : w2.frozen? ⟨b, 0, none⟩ = false := (hg.frozen_far ⟨b, 0, none⟩ h1.lt hbn).trans h1.f0
  have hO : Only b w2 (w2.setCell ⟨b, 0, none⟩ (.slice (some ⟨g, 0, none⟩) (l.length + r.length) cap)) := (Only.refl b w2).setB _
  refine ⟨⟨World.cell?_setCell_same _ _ _ c2, by simpa using f2, by have := h1.lt; have := hg.size; simp [World.setCell]; omega, ?_, by simp [Value.ownBlock]; omega⟩, ?_, fun k hk' => ?_⟩
  · have hrow := (But.of_only (S := fun k => k = b) hO rfl).row hown (fun i hi hb => by simp [Value.ownBlock] at hi; omega)
    show World.ownsRow _ _ _ _ _ (l ++ r).length (bC (l ++ r))
    rw [bC_append, List.length_append]
    exact hrow
  · exact ((But.of_below (S := Foot b v) hk).trans (But.of_grown (S := Foot b v) hg (fun k hk => .inr hk)) (fun _ _ hf => hf)).setCell (fun _ => .inl rfl) _
  · have hk'' : g = k := by simpa [Value.ownBlock] using hk'
    subst hk''
    rcases hat with q | q
    · exact .inl q
    · exact .inr (by have := hk.size; omega)
end Go.Proofs.YtpflbhcgkndpcaaGreatDoor
