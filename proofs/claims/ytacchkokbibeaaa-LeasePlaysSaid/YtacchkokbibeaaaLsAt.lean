/- lease.Leases with any number of leases: find, at, At, Floor, Len. -/
import Derived.Test.YtacchkokbibeaaaLsFind
set_option linter.unusedSimpArgs false
set_option linter.unusedVariables false
namespace Go.Proofs.Ytacchkokbibeaaa
open Go.RowKit

theorem nil_len {w : World} {b : Nat} {v : Value} {L : List Le} {nx : Int} (h : Ls w b v L nx) : (∃ g c, v = .slice (some ⟨g, 0, none⟩) L.length c ∧ L.length ≤ c) ∨ (v = .slice none 0 0 ∧ L = []) := by
  rcases h.row.2 with ⟨e, h0⟩ | ⟨g, cap, cur, e, _, _, hc, _⟩
  · exact .inr ⟨e, List.length_eq_zero_iff.1 h0⟩
  · exact .inl ⟨g, cap, e, hc⟩
theorem find_nil {id : Int} {k : Nat} {bb : Bool} (ha : FindAns [] id k bb) : k = 0 ∧ bb = false := by
  have := ha.1.le
  refine ⟨by simpa using this, ?_⟩
  cases bb with
  | true => obtain ⟨x, hx, _⟩ := ha.2.1 rfl; simp at hx
  | false => rfl
set_option maxHeartbeats 1000000 in
theorem ls_find (b : Nat) (v : Value) (L : List Le) (nx id : Int) (k : Nat) (bb : Bool) (w : World) (h : Ls w b v L nx) (hl : L.length ≤ 1000) (ha : FindAns L id k bb) :
    Calls Try.prog 29 #[.pointer (some ⟨b, 0, none⟩), .int .i64 id] w fun e w' => e = .returned (.tuple #[.int .i64 k, .bool bb]) ∧ Below w.heap.size w w' := by
  have HB : ∃ A n c, v = .slice A n c ∧ Hid (Calls Try.prog 36 #[.slice A n c, .int .i64 id, .func (.func 37) #[] #[]] w fun e w' => e = .returned (.tuple #[.int .i64 k, .bool bb]) ∧ Below w.heap.size w w') := by
    rcases nil_len h with ⟨g, c, rfl, hc⟩ | ⟨rfl, rfl⟩
    · rcases Nat.eq_zero_or_pos L.length with h0 | h0
      · obtain rfl := List.length_eq_zero_iff.1 h0
        obtain ⟨rfl, rfl⟩ := find_nil ha
        exact ⟨_, _, _, rfl, bsearch0 [] _ _ id w⟩
      · exact ⟨_, _, _, rfl, bsearch g c L id k bb w b nx h hl ha h0⟩
    · obtain ⟨rfl, rfl⟩ := find_nil ha
      exact ⟨_, _, _, rfl, bsearch0 [] _ _ id w⟩
  obtain ⟨A, n, c, rfl, HC⟩ := HB
  have c0 := h.c0
  clear h ha hl
  go_enter Try.func29, Try.ntmps29
  go_wp2_with fail
  refine HC.out.mono ?_; rintro e w1 ⟨rfl, hb1⟩
  go_wp2
  go_ret2
  exact ⟨rfl, hb1⟩
theorem ls_at_none (b : Nat) (v : Value) (L : List Le) (nx id now : Int) (k : Nat) (w : World) (h : Ls w b v L nx) (hl : L.length ≤ 1000) (ha : FindAns L id k false) :
    Calls Try.prog 27 #[.pointer (some ⟨b, 0, none⟩), .int .i64 id, .int .i64 now] w fun e w' => e = .returned (.tuple #[.pointer none, .int .i64 7]) ∧ Below w.heap.size w w' := by
  have HF := Lib.hid (ls_find b v L nx id k false w h hl ha)
  clear h ha hl
  go_enter Try.func27, Try.ntmps27
  go_wp2_with fail
  refine HF.out.mono ?_; rintro e w1 ⟨rfl, hb1⟩
  go_wp2
  go_ret2
  exact ⟨rfl, hb1⟩
theorem at_shape {w : World} {b : Nat} {v : Value} {L : List Le} {nx : Int} (h : Ls w b v L nx) {k : Nat} {x : Le} (hk : L[k]? = some x) : ∃ g c, v = .slice (some ⟨g, 0, none⟩) L.length c ∧ L.length ≤ c ∧ k < L.length ∧ w.cell? ⟨g, k * 4, none⟩ = some (.int .i64 x.id) ∧ w.cell? ⟨g, k * 4 + 1, none⟩ = some (.int .i64 x.m) ∧ w.cell? ⟨g, k * 4 + 2, none⟩ = some (.int .i64 x.c) ∧ w.cell? ⟨g, k * 4 + 3, none⟩ = some (.int .i64 x.u) := by
  have hlt := (List.getElem?_eq_some_iff.1 hk).1
  rcases nil_len h with ⟨g, c, rfl, hc⟩ | ⟨rfl, rfl⟩
  · exact ⟨g, c, rfl, hc, hlt, h.cells rfl hk⟩
  · simp at hlt
set_option maxHeartbeats 1000000 in
theorem ls_at_old (b : Nat) (v : Value) (L : List Le) (nx id now : Int) (k : Nat) (x : Le) (w : World) (h : Ls w b v L nx) (hl : L.length ≤ 1000) (ha : FindAns L id k true) (hx : L[k]? = some x) (hn : x.u ≤ now) :
    Calls Try.prog 27 #[.pointer (some ⟨b, 0, none⟩), .int .i64 id, .int .i64 now] w fun e w' => e = .returned (.tuple #[.pointer none, .int .i64 19]) ∧ Below w.heap.size w w' := by
  have HF := Lib.hid (ls_find b v L nx id k true w h hl ha)
  have HX := Lib.hid hx
  have HH := Lib.hid h
  have HL := Lib.hid hl
  clear h ha hl hx
  go_enter Try.func27, Try.ntmps27
  go_wp2_with fail
  refine HF.out.mono ?_; rintro e w1 ⟨rfl, hb1⟩
  obtain ⟨g, c, hv, hc, hlt, _, _, _, c3⟩ := at_shape (HH.out.below hb1) HX.out
  have c0 := (HH.out.below hb1).c0
  rw [hv] at c0
  have hlt' : k < L.length := hlt
  have hL : L.length ≤ 1000 := HL.out
  generalize L.length = n at *
  clear hv
  go_wp2
  go_ret2
  exact ⟨rfl, hb1⟩
set_option maxHeartbeats 1000000 in
theorem ls_at_ok (b g c : Nat) (L : List Le) (nx id now : Int) (k : Nat) (x : Le) (w : World) (h : Ls w b (.slice (some ⟨g, 0, none⟩) L.length c) L nx) (hl : L.length ≤ 1000) (ha : FindAns L id k true) (hx : L[k]? = some x) (hn : now < x.u) :
    Calls Try.prog 27 #[.pointer (some ⟨b, 0, none⟩), .int .i64 id, .int .i64 now] w fun e w' => e = .returned (.tuple #[.pointer (some ⟨g, k * 4, none⟩), .int .i64 0]) ∧ Below w.heap.size w w' := by
  have HF := Lib.hid (ls_find b _ L nx id k true w h hl ha)
  have HX := Lib.hid hx
  have HH := Lib.hid h
  have HL := Lib.hid hl
  clear h ha hl hx
  go_enter Try.func27, Try.ntmps27
  go_wp2_with fail
  refine HF.out.mono ?_; rintro e w1 ⟨rfl, hb1⟩
  obtain ⟨_, _, _, c3⟩ := (HH.out.below hb1).cells rfl HX.out
  have c0 := (HH.out.below hb1).c0
  have hlt' : k < L.length := (List.getElem?_eq_some_iff.1 HX.out).1
  have hL : L.length ≤ 1000 := HL.out
  generalize L.length = n at *
  go_wp2
  go_ret2
  exact ⟨rfl, hb1⟩
set_option maxHeartbeats 1000000 in
theorem ls_At_bad (b : Nat) (v : Value) (L : List Le) (nx id now r : Int) (w : World) (h : Ls w b v L nx)
    (HA : ∀ w, Ls w b v L nx → Calls Try.prog 27 #[.pointer (some ⟨b, 0, none⟩), .int .i64 id, .int .i64 now] w fun e w' => e = .returned (.tuple #[.pointer none, .int .i64 r]) ∧ Below w.heap.size w w') (hr : (r != 0) = true) (hr' : (r == 0) = false) :
    Calls Try.prog 11 #[.pointer (some ⟨b, 0, none⟩), .int .i64 id, .int .i64 now] w fun e w' => e = .returned (.tuple #[.agg #[.int .i64 0, .int .i64 0], .int .i64 r]) ∧ Below w.heap.size w w' := by
  have HB0 : Below w.heap.size w (w.alloc (.cells #[.int .i64 0, .int .i64 0] 30)) := by (repeat' (first | (with_reducible exact Below.refl _ _) | (with_reducible assumption) | (with_reducible refine Below.trans ?_ (Below.mono (by with_reducible assumption) ?_)) | (with_reducible refine Below.alloc ?_ ?_ _) | (with_reducible refine Below.setCell ?_ ?_ _) | (with_reducible refine below_drewN ?_ _) | (with_reducible refine Below.drew ?_) | go_size))
  have J0 := Ints2.new w 0 0 30
  have HH := Lib.hid (HA _ (h.below HB0))
  clear h HA
  go_enter Try.func11, Try.ntmps11
  go_wp2_with fail
  refine HH.out.mono ?_; rintro e w1 ⟨rfl, hb1⟩
  have J1 := J0.below hb1 (by simp)
  have HB1 := HB0.trans (hb1.mono HB0.size)
  have R0 := (J1.set0 0).c0
  have R1 := ((J1.set0 0).set1 0).c1
  obtain ⟨x0, x1, g0, g1, lt⟩ := J1
  clear J0 hb1
  go_wp2
  refine bodyPost_ret (v := .tuple #[.agg #[.int .i64 0, .int .i64 0], .int .i64 r]) (by simp [results, Try.results11, go_sem, R0, R1]) rfl ⟨rfl, ?_⟩
  go_light
  (repeat' (first | (with_reducible exact Below.refl _ _) | (with_reducible assumption) | (with_reducible refine Below.trans ?_ (Below.mono (by with_reducible assumption) ?_)) | (with_reducible refine Below.alloc ?_ ?_ _) | (with_reducible refine Below.setCell ?_ ?_ _) | (with_reducible refine below_drewN ?_ _) | (with_reducible refine Below.drew ?_) | go_size))
theorem ls_At_none (b : Nat) (v : Value) (L : List Le) (nx id now : Int) (k : Nat) (w : World) (h : Ls w b v L nx) (hl : L.length ≤ 1000) (ha : FindAns L id k false) :
    Calls Try.prog 11 #[.pointer (some ⟨b, 0, none⟩), .int .i64 id, .int .i64 now] w fun e w' => e = .returned (.tuple #[.agg #[.int .i64 0, .int .i64 0], .int .i64 7]) ∧ Below w.heap.size w w' :=
  ls_At_bad b v L nx id now 7 w h (fun w h => ls_at_none b v L nx id now k w h hl ha) (by decide) (by decide)
theorem ls_At_old (b : Nat) (v : Value) (L : List Le) (nx id now : Int) (k : Nat) (x : Le) (w : World) (h : Ls w b v L nx) (hl : L.length ≤ 1000) (ha : FindAns L id k true) (hx : L[k]? = some x) (hn : x.u ≤ now) :
    Calls Try.prog 11 #[.pointer (some ⟨b, 0, none⟩), .int .i64 id, .int .i64 now] w fun e w' => e = .returned (.tuple #[.agg #[.int .i64 0, .int .i64 0], .int .i64 19]) ∧ Below w.heap.size w w' :=
  ls_At_bad b v L nx id now 19 w h (fun w h => ls_at_old b v L nx id now k x w h hl ha hx hn) (by decide) (by decide)
set_option maxHeartbeats 1000000 in
theorem ls_At_ok (b : Nat) (v : Value) (L : List Le) (nx id now : Int) (k : Nat) (x : Le) (w : World) (h : Ls w b v L nx) (hl : L.length ≤ 1000) (ha : FindAns L id k true) (hx : L[k]? = some x) (hn : now < x.u) :
    Calls Try.prog 11 #[.pointer (some ⟨b, 0, none⟩), .int .i64 id, .int .i64 now] w fun e w' => e = .returned (.tuple #[.agg #[.int .i64 x.m, .int .i64 x.c], .int .i64 0]) ∧ Below w.heap.size w w' := by
  obtain ⟨xi, m, c', u⟩ := x
  show Calls Try.prog 11 _ w fun e w' => e = .returned (.tuple #[.agg #[.int .i64 m, .int .i64 c'], .int .i64 0]) ∧ Below w.heap.size w w'
  have HB0 : Below w.heap.size w (w.alloc (.cells #[.int .i64 0, .int .i64 0] 30)) := by (repeat' (first | (with_reducible exact Below.refl _ _) | (with_reducible assumption) | (with_reducible refine Below.trans ?_ (Below.mono (by with_reducible assumption) ?_)) | (with_reducible refine Below.alloc ?_ ?_ _) | (with_reducible refine Below.setCell ?_ ?_ _) | (with_reducible refine below_drewN ?_ _) | (with_reducible refine Below.drew ?_) | go_size))
  have J0 := Ints2.new w 0 0 30
  obtain ⟨g, c, rfl, _⟩ := at_shape h hx
  have HC := Lib.hid (ls_at_ok b g c L nx id now k ⟨xi, m, c', u⟩ _ (h.below HB0) hl ha hx hn)
  have HH := Lib.hid (h.below HB0)
  have HX := Lib.hid hx
  clear h ha hl hn hx
  go_enter Try.func11, Try.ntmps11
  go_wp2_with fail
  refine HC.out.mono ?_; rintro e w1 ⟨rfl, hb1⟩
  have J1 := J0.below hb1 (by simp)
  obtain ⟨_, r1, r2, _⟩ := (HH.out.below hb1).cells rfl HX.out
  have HB1 := HB0.trans (hb1.mono HB0.size)
  simp only at r1 r2
  have R0 := (J1.set0 m).c0
  have R1 := ((J1.set0 m).set1 c').c1
  obtain ⟨x0, x1, g0, g1, lt⟩ := J1
  clear J0 hb1
  go_wp2
  refine bodyPost_ret (v := .tuple #[.agg #[.int .i64 m, .int .i64 c'], .int .i64 0]) (by simp [results, Try.results11, go_sem, R0, R1]) rfl ⟨rfl, ?_⟩
  go_light
  (repeat' (first | (with_reducible exact Below.refl _ _) | (with_reducible assumption) | (with_reducible refine Below.trans ?_ (Below.mono (by with_reducible assumption) ?_)) | (with_reducible refine Below.alloc ?_ ?_ _) | (with_reducible refine Below.setCell ?_ ?_ _) | (with_reducible refine below_drewN ?_ _) | (with_reducible refine Below.drew ?_) | go_size))
theorem ls_len (b : Nat) (v : Value) (L : List Le) (nx : Int) (w : World) (h : Ls w b v L nx) : Calls Try.prog 19 #[.pointer (some ⟨b, 0, none⟩)] w fun e w' => e = .returned (.int .i64 L.length) ∧ w = w' := by
  obtain ⟨A, c, rfl⟩ := h.shape
  have c0 := h.c0
  clear h
  generalize L.length = n at *
  go_enter Try.func19, Try.ntmps19
  go_wp2
  go_ret
  exact ⟨rfl, rfl⟩
end Go.Proofs.Ytacchkokbibeaaa
