/- The reference's Get. -/
import Derived.Test.YtfjnjababehmmaaRefAt
set_option linter.unusedSimpArgs false
set_option linter.unusedVariables false
namespace Go.Proofs.Ytfjnjababehmmaa
open Go.RowKit Go.Sort

set_option maxRecDepth 100000 in
set_option maxHeartbeats 4000000 in
theorem ref_get_none (b : Nat) (tm tc : Int) (w : World) (h : ∀ W, Below w.heap.size w W → Calls Try.prog 22 #[.pointer (some ⟨b, 0, none⟩), .agg #[.int .i64 tm, .int .i64 tc]] W fun e w' => e = .returned (.tuple #[verV 0 0 0 none 0 0 false 0, .bool false]) ∧ Below W.heap.size W w') :
    Calls Try.prog 24 #[.pointer (some ⟨b, 0, none⟩), .agg #[.int .i64 tm, .int .i64 tc]] w fun e w' => e = .returned (.tuple #[.slice none 0 0, .bool false]) ∧ Below w.heap.size w w' := by
  have HB0 : Below w.heap.size w (w.alloc (.cells #[.int .i64 tm, .int .i64 tc] 25)) := by (repeat' (first | (with_reducible exact Below.refl _ _) | (with_reducible assumption) | (with_reducible refine Below.trans ?_ (Below.mono (by with_reducible assumption) ?_)) | (with_reducible refine Below.alloc ?_ ?_ _) | (with_reducible refine Below.setCell ?_ ?_ _) | (with_reducible refine below_drewN ?_ _) | (with_reducible refine Below.drew ?_) | go_size))
  have HU := Lib.hid (h _ HB0)
  clear h
  go_enter Try.func24, Try.ntmps24
  go_wp2_with fail
  refine HU.out.mono ?_
  rintro e w1 ⟨rfl, hb1⟩
  have HB1 := Lib.hid (HB0.trans (hb1.mono HB0.size))
  clear hb1 HU HB0
  go_wp2
  go_ret2
  exact ⟨rfl, HB1.out.alloc HB1.out.size _⟩
set_option maxRecDepth 100000 in
set_option maxHeartbeats 4000000 in
theorem ref_get_some (b : Nat) (x : Mv) (tm tc : Int) (sb : Bool) (w : World) (h : ∀ W, Below w.heap.size w W → Calls Try.prog 22 #[.pointer (some ⟨b, 0, none⟩), .agg #[.int .i64 tm, .int .i64 tc]] W fun e w' => e = .returned (.tuple #[x.val, .bool true]) ∧ Below W.heap.size W w') (hok : x.v.ok = true) (hw : (Lit.int .i64 tm).wf = true) (hsb : seenB x.v tm tc = sb) :
    Calls Try.prog 24 #[.pointer (some ⟨b, 0, none⟩), .agg #[.int .i64 tm, .int .i64 tc]] w fun e w' => e = .returned (.tuple #[if sb then .slice x.A x.v.val.length x.c else .slice none 0 0, .bool sb]) ∧ Below w.heap.size w w' := by
  have HB0 : Below w.heap.size w (w.alloc (.cells #[.int .i64 tm, .int .i64 tc] 25)) := by (repeat' (first | (with_reducible exact Below.refl _ _) | (with_reducible assumption) | (with_reducible refine Below.trans ?_ (Below.mono (by with_reducible assumption) ?_)) | (with_reducible refine Below.alloc ?_ ?_ _) | (with_reducible refine Below.setCell ?_ ?_ _) | (with_reducible refine below_drewN ?_ _) | (with_reducible refine Below.drew ?_) | go_size))
  have HU := Lib.hid (h _ HB0)
  obtain ⟨⟨ml, ct, vo, val, gn, tt⟩, A, cc⟩ := x
  obtain ⟨m0, m1, _, _, _, _, _, t0, t1⟩ := ok_bd hok
  have HSE0 := fun W => ref_seen ml ct vo A val.length cc gn tt tm tc val W m0 t0 m1 t1 hw
  rw [hsb] at HSE0
  have HSE := Lib.hid HSE0
  clear h HSE0 hok hw hsb m0 m1 t0 t1
  go_enter Try.func24, Try.ntmps24
  go_wp2_with fail
  refine HU.out.mono ?_
  rintro e w1 ⟨rfl, hb1⟩
  have hal : Below w1.heap.size w1 (w1.alloc (verO ml ct vo A val.length cc gn tt)) := (Below.refl _ _).alloc (Nat.le_refl _) _
  have l0 : w.heap.size < w1.heap.size := by have := hb1.size; simp at this; omega
  have y0 : (w1.alloc (verO ml ct vo A val.length cc gn tt)).cell? ⟨w.heap.size, 0, none⟩ = some (.int .i64 tm) := (hal.cell (p := ⟨w.heap.size, 0, none⟩) l0).trans ((hb1.cell (p := ⟨w.heap.size, 0, none⟩) (by simp)).trans (by simp))
  have y1 : (w1.alloc (verO ml ct vo A val.length cc gn tt)).cell? ⟨w.heap.size, 1, none⟩ = some (.int .i64 tc) := (hal.cell (p := ⟨w.heap.size, 1, none⟩) l0).trans ((hb1.cell (p := ⟨w.heap.size, 1, none⟩) (by simp)).trans (by simp))
  have v3 : (w1.alloc (verO ml ct vo A val.length cc gn tt)).cell? ⟨w1.heap.size, 3, none⟩ = some (.slice A val.length cc) := by simp
  have lz : w1.heap.size < (w1.alloc (verO ml ct vo A val.length cc gn tt)).heap.size := by simp
  have HB1 := Lib.hid ((HB0.trans (hb1.mono HB0.size)).trans (hal.mono (HB0.trans (hb1.mono HB0.size)).size))
  clear hb1 HU HB0 hal l0
  go_wp2_with fail
  refine (HSE.out _).mono ?_
  rintro e w2 ⟨rfl, hb2⟩
  have v3 := (hb2.cell (p := ⟨w1.heap.size, 3, none⟩) lz).trans v3
  have HB2 := Lib.hid (HB1.out.trans (hb2.mono HB1.out.size))
  clear hb2 y0 y1 HB1
  cases sb with
  | true =>
    go_wp2
    go_ret2
    exact ⟨rfl, HB2.out⟩
  | false =>
    go_wp2
    go_ret2
    exact ⟨rfl, HB2.out⟩
def RefGet (L : List Mv) (t : Int × Int) (w w' : World) (e : Ending) : Prop :=
  (getM (L.map Mv.v) t = none ∧ e = .returned (.tuple #[.slice none 0 0, .bool false]) ∧ Below w.heap.size w w') ∨ (∃ x, x ∈ L ∧ getM (L.map Mv.v) t = some x.v ∧ e = .returned (.tuple #[.slice x.A x.v.val.length x.c, .bool true]) ∧ Below w.heap.size w w')
theorem ref_get (P : Nat → Prop) (b : Nat) (v : Value) (L : List Mv) (tm tc : Int) (w : World) (h : Ch P w b v L) (hl : L.length ≤ 1000000) (hr : Rise (L.map Mv.v)) (hok : ∀ x ∈ L, x.v.ok = true) (hw : (Lit.int .i64 tm).wf = true) :
    Calls Try.prog 24 #[.pointer (some ⟨b, 0, none⟩), .agg #[.int .i64 tm, .int .i64 tc]] w fun e w' => RefGet L (tm, tc) w w' e := by
  have hs := stand_t hr (tm, tc)
  rcases atM_cases (L := L) (tm, tc) with ⟨h0, ha⟩ | ⟨k, x, h0, hx, ha⟩
  · rw [h0] at hs
    exact (ref_get_none b tm tc w (fun W hb => ref_at_none P b v L tm tc W (h.below hb) hl hs)).mono fun e w' ⟨h1, h2⟩ => .inl ⟨by unfold getM; rw [ha], h1, h2⟩
  · rw [h0] at hs
    have hg := ref_get_some b x tm tc (seenB x.v tm tc) w (fun W hb => ref_at_some P b v L tm tc k x W (h.below hb) hl hs hx) (hok x (List.mem_of_getElem? hx)) hw rfl
    cases hsn : seenB x.v tm tc with
    | false =>
      rw [hsn] at hg
      exact hg.mono fun e w' ⟨h1, h2⟩ => .inl ⟨by unfold getM; rw [ha]; simp [hsn], h1, h2⟩
    | true =>
      rw [hsn] at hg
      exact hg.mono fun e w' ⟨h1, h2⟩ => .inr ⟨x, List.mem_of_getElem? hx, by unfold getM; rw [ha]; simp [hsn], h1, h2⟩
end Go.Proofs.Ytfjnjababehmmaa
