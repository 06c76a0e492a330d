/- A block of bytes that may be written. -/
import Derived.Test.YtfllemmmgmdliaaOnly
set_option linter.unusedSimpArgs false
set_option linter.unusedVariables false
namespace Go.Proofs.Ytfllemmmgmdliaa
open Go.RowKit

structure U8At (W : World) (g n : Nat) (f : Nat → Int) : Prop where
  c : ∀ j, j < n → W.cell? ⟨g, j, none⟩ = some (.int .u8 (f j))
  fz : ∀ o, W.frozen? ⟨g, o, none⟩ = false
  lt : g < W.heap.size
theorem U8At.only {w w' : World} {b g n : Nat} {f : Nat → Int} (h : U8At w g n f) (k : Only b w w') (hn : g ≠ b) : U8At w' g n f :=
  ⟨fun j hj => (k.cell g j h.lt hn).trans (h.c j hj), fun o => (k.frozen g o h.lt hn).trans (h.fz o), Nat.lt_of_lt_of_le h.lt k.size⟩
theorem U8At.below {w w' : World} {B g n : Nat} {f : Nat → Int} (h : U8At w g n f) (k : Below B w w') (hn : g < B) : U8At w' g n f :=
  ⟨fun j hj => (k.cell (p := ⟨g, j, none⟩) hn).trans (h.c j hj), fun o => (k.frozen (p := ⟨g, o, none⟩) hn).trans (h.fz o), Nat.lt_of_lt_of_le h.lt k.size⟩
theorem U8At.alloc {w : World} {g n : Nat} {f : Nat → Int} (h : U8At w g n f) (o : Obj) : U8At (w.alloc o) g n f := h.below ((Below.refl _ _).alloc (Nat.le_refl _) o) h.lt
theorem U8At.drew {w : World} {g n : Nat} {f : Nat → Int} (h : U8At w g n f) : U8At w.drew g n f := ⟨h.c, h.fz, h.lt⟩
theorem U8At.drewN {w : World} {g n : Nat} {f : Nat → Int} (h : U8At w g n f) (k : Nat) : U8At (w.drewN k) g n f := ⟨h.c, h.fz, h.lt⟩
theorem U8At.congr {w : World} {g n : Nat} {f f' : Nat → Int} (h : U8At w g n f) (e : ∀ j, j < n → f j = f' j) : U8At w g n f' := ⟨fun j hj => by rw [← e j hj]; exact h.c j hj, h.fz, h.lt⟩
def upd8 (f : Nat → Int) (i : Nat) (x : Int) (j : Nat) : Int := if j = i then x else f j
theorem U8At.set {w : World} {g n i : Nat} {f : Nat → Int} (h : U8At w g n f) (hi : i < n) (x : Int) : U8At (w.setCell ⟨g, i, none⟩ (.int .u8 x)) g n (upd8 f i x) := by
  refine ⟨fun j hj => ?_, fun o => by simpa using h.fz o, by simpa [World.setCell] using h.lt⟩
  unfold upd8
  by_cases e : j = i
  · subst e
    rw [if_pos rfl]
    exact World.cell?_setCell_same _ _ _ (h.c j hj)
  · rw [if_neg e, World.cell?_setCell_other _ _ _ _ (by simp; first | done | omega)]
    exact h.c j hj
theorem U8At.other {w : World} {g n : Nat} {f : Nat → Int} (h : U8At w g n f) {p : Addr} (hp : p.block ≠ g) (u : Value) : U8At (w.setCell p u) g n f :=
  ⟨fun j hj => (World.cell?_setCell_other _ _ _ _ (fun e => hp (by rw [e]))).trans (h.c j hj), fun o => by simpa using h.fz o, by simpa [World.setCell] using h.lt⟩
/-- A number's bytes in a row of k from o on, the highest first. -/
def layF (f : Nat → Int) (o k : Nat) (x : Int) (j : Nat) : Int := if o ≤ j ∧ j < o + k then (x / 256 ^ (o + k - 1 - j)) % 256 else f j
/-- The same, behind i rounds. -/
def layI (f : Nat → Int) (o k i : Nat) (x : Int) (j : Nat) : Int := if o + k - i ≤ j ∧ j < o + k then (x / 256 ^ (o + k - 1 - j)) % 256 else f j
theorem layI_succ (f : Nat → Int) (o k i : Nat) (x : Int) (h : i < k) (j : Nat) : upd8 (layI f o k i x) (o + (k - 1 - i)) (x / 256 ^ i % 256) j = layI f o k (i + 1) x j := by
  unfold upd8 layI
  by_cases e : j = o + (k - 1 - i)
  · subst e
    rw [if_pos rfl, if_pos (by omega), show o + k - 1 - (o + (k - 1 - i)) = i from by omega]
  · rw [if_neg e]
    by_cases h1 : o + k - i ≤ j ∧ j < o + k
    · rw [if_pos h1, if_pos (by omega)]
    · rw [if_neg h1, if_neg (by omega)]
theorem pow256_succ (x : Int) (i : Nat) : x / 256 ^ (i + 1) = x / 256 ^ i / 256 := by
  rw [Int.pow_succ, Int.ediv_ediv_of_nonneg (by exact Int.pow_nonneg (by omega))]
theorem u8_wrap (x : Int) : IntKind.u8.wrap x = x % 256 := by simp [IntKind.wrap, IntKind.bits, IntKind.signed]
end Go.Proofs.Ytfllemmmgmdliaa
