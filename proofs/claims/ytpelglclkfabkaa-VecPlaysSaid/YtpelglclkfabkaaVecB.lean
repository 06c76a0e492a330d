/- vec.Vec: Reach, Stable, New of two; what is known. -/
import Derived.Test.YtpelglclkfabkaaVec
import Derived.Laws.Rows
set_option linter.unusedSimpArgs false
set_option linter.unusedVariables false
namespace Go.Proofs.Ytpelglclkfabkaa
open Go.RowKit

/-- A Vec of n places at block b: its rows. -/
structure VecAt (w : World) (b ka fl n : Nat) (p q p' q' : Nat → Int) : Prop where
  c0 : w.cell? ⟨b, 0, none⟩ = some (.slice (some ⟨ka, 0, none⟩) n n)
  c1 : w.cell? ⟨b, 1, none⟩ = some (.slice (some ⟨fl, 0, none⟩) n n)
  K : ArrAt w ka n p q
  F : ArrAt w fl n p' q'
  n1 : b ≠ ka
  n2 : b ≠ fl
  n3 : ka ≠ fl
  lt : b < w.heap.size
theorem VecAt.below {w w' : World} {b ka fl n B : Nat} {p q p' q' : Nat → Int} (h : VecAt w b ka fl n p q p' q') (k : Below B w w') (h1 : b < B) (h2 : ka < B) (h3 : fl < B) : VecAt w' b ka fl n p q p' q' :=
  ⟨(k.cell (p := ⟨b, 0, none⟩) h1).trans h.c0, (k.cell (p := ⟨b, 1, none⟩) h1).trans h.c1, h.K.below k h2, h.F.below k h3, h.n1, h.n2, h.n3, Nat.lt_of_lt_of_le h.lt k.size⟩
theorem VecAt.belowW {w w' : World} {b ka fl n : Nat} {p q p' q' : Nat → Int} (h : VecAt w b ka fl n p q p' q') (k : Below w.heap.size w w') : VecAt w' b ka fl n p q p' q' := h.below k h.lt h.K.lt h.F.lt
set_option maxHeartbeats 2000000 in
theorem vec_reach_yes (b ka fl n i : Nat) (p q p' q' : Nat → Int) (x y : Int) (w : World) (h : VecAt w b ka fl n p q p' q') (hn : n ≤ 1000) (hi : i < n) (hs : isStampB x y = true) (hg : cmp2 x y (p i) (q i) = 1) :
    Calls Try.prog 11 #[.pointer (some ⟨b, 0, none⟩), .int .i64 i, .agg #[.int .i64 x, .int .i64 y]] w fun e w' => e = .returned (.bool true) ∧ Only ka w w' ∧ VecAt w' b ka fl n (upd p i x) (upd q i y) p' q' := by
  have HB0 : Below w.heap.size w (w.alloc (.cells #[.int .i64 x, .int .i64 y] 32)) := by (repeat' (first | (with_reducible exact Below.refl _ _) | (with_reducible assumption) | (with_reducible refine Below.trans ?_ (Below.mono (by with_reducible assumption) ?_)) | (with_reducible refine Below.alloc ?_ ?_ _) | (with_reducible refine Below.setCell ?_ ?_ _) | (with_reducible refine below_drewN ?_ _) | (with_reducible refine Below.drew ?_) | go_size))
  have c0 := h.c0
  have lb := h.lt
  have lb1 : b < w.heap.size + 1 := by omega
  have HV := Lib.hid h
  have HR := Lib.hid fun (W : World) (K : ArrAt W ka n p q) => vec_raise_yes ka n i n p q x y W K hn hi hs hg
  have KA := (h.belowW HB0).K
  clear h hs hg
  go_enter Try.func11, Try.ntmps11
  go_wp2
  go_region_with (go_at_call 24; refine (HR.out _ (by first | exact KA | exact KA.drew | exact KA.drew.drew)).mono ?_; rintro e w5 ⟨rfl, ho5, k5⟩)
  all_goals
    go_wp2
    go_ret
    go_light
    have HO : Only ka w w5 := Only.trans (by (repeat' (first | (with_reducible exact Only.refl _ _) | (with_reducible assumption) | (with_reducible refine Only.alloc ?_ _) | (with_reducible refine Only.setB ?_ _) | (refine Only.setCell ?_ (Or.inr ?_) _) | (with_reducible refine Only.drewN ?_ _) | (with_reducible refine Only.drew ?_) | (with_reducible refine Only.trans ?_ (by with_reducible assumption)) | (with_reducible refine Only.trans ?_ (Only.of_below (by with_reducible assumption))) | go_size))) ho5
    refine ⟨rfl, HO, ?_⟩
    have V := HV.out
    exact ⟨(HO.cell b 0 V.lt V.n1).trans V.c0, (HO.cell b 1 V.lt V.n1).trans V.c1, k5, V.F.only HO (fun e => V.n3 e.symm), V.n1, V.n2, V.n3, Nat.lt_of_lt_of_le V.lt HO.size⟩
set_option maxHeartbeats 1000000 in
theorem vec_stable (b ka fl n : Nat) (p q p' q' : Nat → Int) (w : World) (h : VecAt w b ka fl n p q p' q') (hn : n ≤ 1000) :
    Calls Try.prog 17 #[.pointer (some ⟨b, 0, none⟩)] w fun e w' => e = .returned (.agg #[.int .i64 (mnS p q n).1, .int .i64 (mnS p q n).2]) ∧ Below w.heap.size w w' := by
  have HB0 : Below w.heap.size w (w.alloc (.cells #[.int .i64 0, .int .i64 0] 32)) := by (repeat' (first | (with_reducible exact Below.refl _ _) | (with_reducible assumption) | (with_reducible refine Below.trans ?_ (Below.mono (by with_reducible assumption) ?_)) | (with_reducible refine Below.alloc ?_ ?_ _) | (with_reducible refine Below.setCell ?_ ?_ _) | (with_reducible refine below_drewN ?_ _) | (with_reducible refine Below.drew ?_) | go_size))
  have J0 := Lib.hid (Ints2.new w 0 0 32)
  have c0 := h.c0
  have lb := h.lt
  have HL := Lib.hid fun (W : World) (K : ArrAt W ka n p q) => vec_least p q (some ⟨ka, 0, none⟩) n n W (by omega) K.pairs
  have KA := (h.belowW HB0).K
  clear h
  generalize hm : mnS p q n = m at *
  obtain ⟨m1, m2⟩ := m
  clear hm
  go_enter Try.func17, Try.ntmps17
  go_wp2_with fail
  refine (HL.out _ KA).mono ?_; rintro e w5 ⟨rfl, hb5⟩
  have K0 := J0.out.below hb5 (by simp)
  have HB5 : Below w.heap.size w w5 := HB0.trans (hb5.mono HB0.size)
  have R0 := (K0.set0 m1).c0
  have R1 := ((K0.set0 m1).set1 m2).c1
  obtain ⟨y0, y1, f0, f1, lt'⟩ := K0
  clear hb5 KA
  go_wp2
  refine bodyPost_ret (v := .agg #[.int .i64 m1, .int .i64 m2]) (by simp [results, Try.results17, go_sem, R0, R1]) rfl ⟨rfl, ?_⟩
  go_light
  (repeat' (first | (with_reducible exact Below.refl _ _) | (with_reducible assumption) | (with_reducible refine Below.trans ?_ (Below.mono (by with_reducible assumption) ?_)) | (with_reducible refine Below.alloc ?_ ?_ _) | (with_reducible refine Below.setCell ?_ ?_ _) | (with_reducible refine below_drewN ?_ _) | (with_reducible refine Below.drew ?_) | go_size))
def NewPost (n : Nat) (w : World) (e : Ending) (w' : World) : Prop := ∃ b ka fl : Nat, e = .returned (.tuple #[.pointer (some ⟨b, 0, none⟩), .int .i64 0]) ∧ Below w.heap.size w w' ∧ w.heap.size ≤ b ∧ w.heap.size ≤ ka ∧ w.heap.size ≤ fl ∧ VecAt w' b ka fl n (fun _ => 0) (fun _ => 0) (fun _ => 0) (fun _ => 0)
theorem new_cell (v : World) {b : Nat} (h : v.heap.size = b) (cs : Array Value) (t : TypeId) (j : Nat) : (v.alloc (.cells cs t)).cell? ⟨b, j, none⟩ = cs[j]? := by
  subst h
  exact cell_of_row _ _ _ cs t (0, 0) (heap_alloc_new v _)
theorem VecAt.drew {w : World} {b ka fl n : Nat} {p q p' q' : Nat → Int} (h : VecAt w b ka fl n p q p' q') : VecAt w.drew b ka fl n p q p' q' := ⟨h.c0, h.c1, h.K.drew, h.F.drew, h.n1, h.n2, h.n3, h.lt⟩
theorem zero_arr (w : World) : ArrAt (w.alloc (.cells #[.int .i64 0, .int .i64 0, .int .i64 0, .int .i64 0] 32)) w.heap.size 2 (fun _ => 0) (fun _ => 0) := by
  refine ⟨fun j hj => ?_, fun j hj => ?_, fun o => by simp, by simp⟩
  · rcases (show j = 0 ∨ j = 1 from by omega) with rfl | rfl <;> simp
  · rcases (show j = 0 ∨ j = 1 from by omega) with rfl | rfl <;> simp
theorem new_vec_at (w : World) (k f : Nat) (h : (k = w.heap.size ∧ f = w.heap.size + 1) ∨ (f = w.heap.size ∧ k = w.heap.size + 1)) :
    VecAt (((w.alloc (.cells #[.int .i64 0, .int .i64 0, .int .i64 0, .int .i64 0] 32)).alloc (.cells #[.int .i64 0, .int .i64 0, .int .i64 0, .int .i64 0] 32)).alloc (.cells #[.slice (some ⟨k, 0, none⟩) 2 2, .slice (some ⟨f, 0, none⟩) 2 2] 45)) (w.heap.size + 1 + 1) k f 2 (fun _ => 0) (fun _ => 0) (fun _ => 0) (fun _ => 0) := by
  have a0 := ((zero_arr w).alloc (.cells #[.int .i64 0, .int .i64 0, .int .i64 0, .int .i64 0] 32)).alloc (.cells #[.slice (some ⟨k, 0, none⟩) 2 2, .slice (some ⟨f, 0, none⟩) 2 2] 45)
  have a1 := (zero_arr (w.alloc (.cells #[.int .i64 0, .int .i64 0, .int .i64 0, .int .i64 0] 32))).alloc (.cells #[.slice (some ⟨k, 0, none⟩) 2 2, .slice (some ⟨f, 0, none⟩) 2 2] 45)
  rw [World.size_alloc] at a1
  rcases h with ⟨rfl, rfl⟩ | ⟨rfl, rfl⟩
  · exact ⟨new_cell _ (by simp) _ _ 0, new_cell _ (by simp) _ _ 1, a0, a1, by omega, by omega, by omega, by simp⟩
  · exact ⟨new_cell _ (by simp) _ _ 0, new_cell _ (by simp) _ _ 1, a1, a0, by omega, by omega, by omega, by simp⟩
set_option maxHeartbeats 2000000 in
theorem vec_new2 (w : World) : Calls Try.prog 8 #[.int .i64 2] w (NewPost 2 w) := by
  have hmk : ∀ w : World, (Instr.makeSlice 40 (.int .i64 2) (.int .i64 2)).run Try.prog w = .ok (.slice (some ⟨w.heap.size, 0, none⟩) 2 2) (w.alloc (.cells #[.int .i64 0, .int .i64 0, .int .i64 0, .int .i64 0] 32)) := fun _ => by kernel_rfl
  go_enter Try.func8, Try.ntmps8
  go_wp2
  go_region
  all_goals
    go_wp2
    go_ret2
    first
      | exact ⟨w.heap.size + 1 + 1, w.heap.size, w.heap.size + 1, rfl, by (repeat' (first | (with_reducible exact Below.refl _ _) | (with_reducible assumption) | (with_reducible refine Below.trans ?_ (Below.mono (by with_reducible assumption) ?_)) | (with_reducible refine Below.alloc ?_ ?_ _) | (with_reducible refine Below.setCell ?_ ?_ _) | (with_reducible refine below_drewN ?_ _) | (with_reducible refine Below.drew ?_) | go_size)), by omega, by omega, by omega, (new_vec_at w w.heap.size (w.heap.size + 1) (.inl ⟨rfl, rfl⟩)).drew⟩
      | exact ⟨w.heap.size + 1 + 1, w.heap.size + 1, w.heap.size, rfl, by (repeat' (first | (with_reducible exact Below.refl _ _) | (with_reducible assumption) | (with_reducible refine Below.trans ?_ (Below.mono (by with_reducible assumption) ?_)) | (with_reducible refine Below.alloc ?_ ?_ _) | (with_reducible refine Below.setCell ?_ ?_ _) | (with_reducible refine below_drewN ?_ _) | (with_reducible refine Below.drew ?_) | go_size)), by omega, by omega, by omega, (new_vec_at w (w.heap.size + 1) w.heap.size (.inr ⟨rfl, rfl⟩)).drew⟩
end Go.Proofs.Ytpelglclkfabkaa
