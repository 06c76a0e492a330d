/- vec.Vec: rows of stamps that may be written; raise, Reach, Stable, New of two. -/
import Derived.Test.YtpelglclkfabkaaVecMin
set_option linter.unusedSimpArgs false
set_option linter.unusedVariables false
namespace Go.Proofs.Ytpelglclkfabkaa
open Go.RowKit

/-- A block of n stamps that may be written. -/
structure ArrAt (w : World) (a n : Nat) (p q : Nat → Int) : Prop where
  c0 : ∀ j, j < n → w.cell? ⟨a, j * 2, none⟩ = some (.int .i64 (p j))
  c1 : ∀ j, j < n → w.cell? ⟨a, j * 2 + 1, none⟩ = some (.int .i64 (q j))
  fz : ∀ o, w.frozen? ⟨a, o, none⟩ = false
  lt : a < w.heap.size
theorem ArrAt.only {w w' : World} {a n b : Nat} {p q : Nat → Int} (h : ArrAt w a n p q) (k : Only b w w') (hn : a ≠ b) : ArrAt w' a n p q :=
  ⟨fun j hj => (k.cell a _ h.lt hn).trans (h.c0 j hj), fun j hj => (k.cell a _ h.lt hn).trans (h.c1 j hj), fun o => (k.frozen a o h.lt hn).trans (h.fz o), Nat.lt_of_lt_of_le h.lt k.size⟩
theorem ArrAt.below {w w' : World} {a n B : Nat} {p q : Nat → Int} (h : ArrAt w a n p q) (k : Below B w w') (hn : a < B) : ArrAt w' a n p q :=
  ⟨fun j hj => (k.cell (p := ⟨a, j * 2, none⟩) hn).trans (h.c0 j hj), fun j hj => (k.cell (p := ⟨a, j * 2 + 1, none⟩) hn).trans (h.c1 j hj), fun o => (k.frozen (p := ⟨a, o, none⟩) hn).trans (h.fz o), Nat.lt_of_lt_of_le h.lt k.size⟩
theorem ArrAt.drew {w : World} {a n : Nat} {p q : Nat → Int} (h : ArrAt w a n p q) : ArrAt w.drew a n p q := ⟨h.c0, h.c1, h.fz, h.lt⟩
theorem ArrAt.alloc {w : World} {a n : Nat} {p q : Nat → Int} (h : ArrAt w a n p q) (o : Obj) : ArrAt (w.alloc o) a n p q := h.below ((Below.refl _ _).alloc (Nat.le_refl _) o) h.lt
theorem ArrAt.pairs {w : World} {a n : Nat} {p q : Nat → Int} (h : ArrAt w a n p q) : PairsAt w (some ⟨a, 0, none⟩) n p q :=
  fun _ => ⟨a, 0, rfl, h.lt, fun j hj => ⟨by simpa using h.c0 j hj, by simpa using h.c1 j hj⟩⟩
def upd (p : Nat → Int) (i : Nat) (v : Int) : Nat → Int := fun j => if j = i then v else p j
theorem ArrAt.set {w : World} {a n i : Nat} {p q : Nat → Int} (h : ArrAt w a n p q) (hi : i < n) (x y : Int) : ArrAt ((w.setCell ⟨a, i * 2, none⟩ (.int .i64 x)).setCell ⟨a, i * 2 + 1, none⟩ (.int .i64 y)) a n (upd p i x) (upd q i y) := by
  refine ⟨fun j hj => ?_, fun j hj => ?_, fun o => by simpa using h.fz o, by simpa [World.setCell] using h.lt⟩
  · rw [World.cell?_setCell_other _ _ _ _ (by simp <;> omega)]
    unfold upd
    by_cases e : j = i
    · subst e
      rw [if_pos rfl]
      exact World.cell?_setCell_same _ _ _ (h.c0 j hj)
    · rw [if_neg e, World.cell?_setCell_other _ _ _ _ (by simp <;> omega)]
      exact h.c0 j hj
  · unfold upd
    by_cases e : j = i
    · subst e
      rw [if_pos rfl]
      exact World.cell?_setCell_same _ _ _ ((World.cell?_setCell_other _ _ _ _ (by simp)).trans (h.c1 j hj))
    · rw [if_neg e, World.cell?_setCell_other _ _ _ _ (by simp <;> omega), World.cell?_setCell_other _ _ _ _ (by simp <;> omega)]
      exact h.c1 j hj
set_option maxHeartbeats 4000000 in
theorem vec_raise_yes (a n i c : Nat) (p q : Nat → Int) (x y : Int) (w : World) (h : ArrAt w a n p q) (hn : n ≤ 1000) (hi : i < n) (hs : isStampB x y = true) (hg : cmp2 x y (p i) (q i) = 1) :
    Calls Try.prog 24 #[.slice (some ⟨a, 0, none⟩) n c, .int .i64 i, .agg #[.int .i64 x, .int .i64 y]] w fun e w' => e = .returned (.bool true) ∧ Only a w w' ∧ ArrAt w' a n (upd p i x) (upd q i y) := by
  have HB0 : Below w.heap.size w (w.alloc (.cells #[.int .i64 x, .int .i64 y] 32)) := by (repeat' (first | (with_reducible exact Below.refl _ _) | (with_reducible assumption) | (with_reducible refine Below.trans ?_ (Below.mono (by with_reducible assumption) ?_)) | (with_reducible refine Below.alloc ?_ ?_ _) | (with_reducible refine Below.setCell ?_ ?_ _) | (with_reducible refine below_drewN ?_ _) | (with_reducible refine Below.drew ?_) | go_size))
  have HS := Lib.hid hs
  have HH := Lib.hid h
  have HG := Lib.hid hg
  have la := h.lt
  have y0 := h.c0 i hi
  have y1 := h.c1 i hi
  have i0 : (0 : Int) ≤ (i : Int) := by omega
  have i1 : (i : Int) < (n : Int) := by omega
  have d1 : decide ((i : Int) < 0) = false := by simp
  have d2 : decide ((n : Int) ≤ (i : Int)) = false := by simp; omega
  have d3 : decide (n ≤ i) = false := by simp; omega
  clear h hs hg
  go_enter Try.func24, Try.ntmps24
  go_wp2_with fail
  refine (hlc_pack_yes x y _ HS.out).mono ?_; rintro e w1 ⟨rfl, hb1⟩
  have HB1 : Below w.heap.size w w1 := HB0.trans (hb1.mono HB0.size)
  have S0 : w1.cell? ⟨w.heap.size, 0, none⟩ = some (.int .i64 x) := (hb1.cell (p := ⟨w.heap.size, 0, none⟩) (by simp)).trans (by simp)
  have S1 : w1.cell? ⟨w.heap.size, 1, none⟩ = some (.int .i64 y) := (hb1.cell (p := ⟨w.heap.size, 1, none⟩) (by simp)).trans (by simp)
  have l1 : w.heap.size < w1.heap.size := by have := hb1.size; simp at this; omega
  have A1 := HH.out.below HB1 la
  have Y0 := A1.c0 i hi
  have Y1 := A1.c1 i hi
  have la1 := A1.lt
  clear hb1 y0 y1
  go_wp2
  generalize p i = pi at *
  generalize q i = qi at *
  go_region_held3 (fun w' => w'.cell? ⟨w.heap.size, 0, none⟩ = some (.int .i64 x) ∧ w'.cell? ⟨w.heap.size, 1, none⟩ = some (.int .i64 y) ∧ w'.cell? ⟨a, i * 2, none⟩ = some (.int .i64 pi) ∧ w'.cell? ⟨a, i * 2 + 1, none⟩ = some (.int .i64 qi)) (first | exact ⟨S0, S1, Y0, Y1⟩ | exact ⟨s0, s1, s2, s3⟩)
    (first | (go_at_call 28; refine (hlc_compare _ _ _ _ _).mono ?_; rw [HG.out]; rintro e w5 ⟨rfl, hb5⟩; have s0 := (hb5.cell (p := ⟨w.heap.size, 0, none⟩) l1).trans S0; have s1 := (hb5.cell (p := ⟨w.heap.size, 1, none⟩) l1).trans S1; have s2 := (hb5.cell (p := ⟨a, i * 2, none⟩) la1).trans Y0; have s3 := (hb5.cell (p := ⟨a, i * 2 + 1, none⟩) la1).trans Y1; have HB5 : Below w.heap.size w w5 := HB1.trans (Below.trans (by (repeat' (first | (with_reducible exact Below.refl _ _) | (with_reducible assumption) | (with_reducible refine Below.trans ?_ (Below.mono (by with_reducible assumption) ?_)) | (with_reducible refine Below.alloc ?_ ?_ _) | (with_reducible refine Below.setCell ?_ ?_ _) | (with_reducible refine below_drewN ?_ _) | (with_reducible refine Below.drew ?_) | go_size))) (hb5.mono (Nat.le_of_lt l1)))))
  have A5 := HH.out.below HB5 la
  have f0 := A5.fz (i * 2)
  have f1 := A5.fz (i * 2 + 1)
  have l5 := A5.lt
  clear hb5 S0 S1 Y0 Y1
  go_wp2
  go_ret
  go_light
  refine ⟨rfl, ?_, A5.set hi x y⟩
  have HO : Only a w w5 := Only.of_below HB5
  (repeat' (first | (with_reducible exact Only.refl _ _) | (with_reducible assumption) | (with_reducible refine Only.alloc ?_ _) | (with_reducible refine Only.setB ?_ _) | (refine Only.setCell ?_ (Or.inr ?_) _) | (with_reducible refine Only.drewN ?_ _) | (with_reducible refine Only.drew ?_) | (with_reducible refine Only.trans ?_ (by with_reducible assumption)) | (with_reducible refine Only.trans ?_ (Only.of_below (by with_reducible assumption))) | go_size))
end Go.Proofs.Ytpelglclkfabkaa
