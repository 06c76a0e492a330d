/- A chain: Put. -/
import Derived.Test.YtfjnjababehmmaaChUp
import Derived.Test.YtfjnjababehmmaaVsIns2
import Derived.Test.YtfjnjababehmmaaChIs
import Derived.Deep.DeepCutAuto
set_option linter.unusedSimpArgs false
set_option linter.unusedVariables false
namespace Go.Proofs.Ytfjnjababehmmaa
open Go.RowKit Go.Sort

theorem ver_insert (v : Value) (n i vb vc : Nat) (L : List Mv) (m : Mv) (w : World) (h : w.ownsRow 0 28 6 v n (rowV L)) (hn : L.length = n) (hl : n ≤ 1000000) (hi : i ≤ n) (hv : One w vb m) (hvv : v.ownBlock ≠ some vb) :
    Calls Try.prog 35 #[v, .int .i64 i, .slice (some ⟨vb, 0, none⟩) 1 vc] w fun e w' =>
      ∃ g cap, e = .returned (.slice (some ⟨g, 0, none⟩) (n + 1) cap) ∧ But (fun k => v.ownBlock = some k) w w' ∧ (v.ownBlock = some g ∨ w.heap.size ≤ g) ∧ w'.ownsRow 0 28 6 (.slice (some ⟨g, 0, none⟩) (n + 1) cap) (n + 1) (rowV (L.take i ++ m :: L.drop i)) := by
  rcases Nat.lt_or_ge i n with q | q
  · obtain ⟨g, cap, rfl, h1, h2, h3⟩ := row_shape h (by omega)
    rcases Nat.lt_or_ge n cap with r | r
    · refine (ins_shift g cap n i vb vc L m w h hn q r hv (fun e => hvv (by simp [Value.ownBlock, e]))).mono ?_
      rintro e w' ⟨rfl, ho, hr⟩
      exact ⟨g, cap, rfl, But.of_only ho rfl, .inl rfl, hr⟩
    · obtain rfl : cap = n := by omega
      refine (ins_grow g cap i vb vc L m w h hn hl q hv).mono ?_
      rintro e w' ⟨c2, rfl, hb, hr⟩
      exact ⟨_, c2, rfl, But.of_below hb, .inr (Nat.le_refl _), hr⟩
  · obtain rfl : i = n := by omega
    refine (ins_end v i vb vc L m w h hn hl hv).mono ?_
    rintro e w' ⟨g, cap, rfl, hg, hat, hr⟩
    refine ⟨g, cap, rfl, But.of_grown hg (fun k hk => hk), hat.imp_right (fun e => Nat.le_of_eq e.symm), ?_⟩
    rw [List.take_of_length_le (by omega), List.drop_of_length_le (by omega)]
    exact hr
set_option maxHeartbeats 1000000 in
theorem bsearchV0 (A : Option Addr) (c : Nat) (m : Mv) (w : World) :
    Calls Try.prog 33 #[.slice A 0 c, m.val, .func (.func 34) #[] #[]] w fun e w' => e = .returned (.tuple #[.int .i64 0, .bool false]) ∧ Below w.heap.size w w' := by
  obtain ⟨⟨ml, ct, vo, val, gn, tt⟩, B, cc⟩ := m
  have HB0 : Below w.heap.size w (w.alloc (verO ml ct vo B val.length cc gn tt)) := by (repeat' (first | (with_reducible exact Below.refl _ _) | (with_reducible assumption) | (with_reducible refine Below.trans ?_ (Below.mono (by with_reducible assumption) ?_)) | (with_reducible refine Below.alloc ?_ ?_ _) | (with_reducible refine Below.setCell ?_ ?_ _) | (with_reducible refine below_drewN ?_ _) | (with_reducible refine Below.drew ?_) | go_size))
  go_enter Try.func33, Try.ntmps33
  go_wp2
  refine wp_loop_rounds 1 ?_
  rw [rounds_succ]
  go_wp2_with fail
  refine wp_region_quiet_below (by kernel_rfl) (by kernel_rfl) ?_
  repeat (go_big_quiet_step ((go_at_call 34; exact HX)))
  refine wpQuiet_nil ?_
  intro _ hw'
  obtain ⟨⟨dq, osq⟩, hw''⟩ := hw'
  subst hw''
  have HB1 := HB0.trans ((below_regrown _ dq osq).mono HB0.size)
  go_wp2
  go_ret2
  exact ⟨rfl, HB1⟩
set_option maxHeartbeats 1000000 in
theorem bsearchT0 (A : Option Addr) (c : Nat) (tm tc : Int) (w : World) :
    Calls Try.prog 52 #[.slice A 0 c, .agg #[.int .i64 tm, .int .i64 tc], .func (.func 53) #[] #[]] w fun e w' => e = .returned (.tuple #[.int .i64 0, .bool false]) ∧ Below w.heap.size w w' := by
  have HB0 : Below w.heap.size w (w.alloc (.cells #[.int .i64 tm, .int .i64 tc] 25)) := by (repeat' (first | (with_reducible exact Below.refl _ _) | (with_reducible assumption) | (with_reducible refine Below.trans ?_ (Below.mono (by with_reducible assumption) ?_)) | (with_reducible refine Below.alloc ?_ ?_ _) | (with_reducible refine Below.setCell ?_ ?_ _) | (with_reducible refine below_drewN ?_ _) | (with_reducible refine Below.drew ?_) | go_size))
  go_enter Try.func52, Try.ntmps52
  go_wp2
  refine wp_loop_rounds 1 ?_
  rw [rounds_succ]
  go_wp2_with fail
  refine wp_region_quiet_below (by kernel_rfl) (by kernel_rfl) ?_
  repeat (go_big_quiet_step ((go_at_call 53; exact HX)))
  refine wpQuiet_nil ?_
  intro _ hw'
  obtain ⟨⟨dq, osq⟩, hw''⟩ := hw'
  subst hw''
  have HB1 := HB0.trans ((below_regrown _ dq osq).mono HB0.size)
  go_wp2
  go_ret2
  exact ⟨rfl, HB1⟩
/-- The search in any row. -/
theorem find_v (v : Value) (L : List Mv) (m : Mv) (k : Nat) (bb : Bool) (w : World) (h : w.ownsRow 0 28 6 v L.length (rowV L)) (hl : L.length ≤ 1000000) (hs : StandV L (fun x => cmpV x m.v < 0) k) (ha : HasV L m.v k bb) :
    Calls Try.prog 33 #[v, m.val, .func (.func 34) #[] #[]] w fun e w' => e = .returned (.tuple #[.int .i64 k, .bool bb]) ∧ Below w.heap.size w w' := by
  rcases Nat.eq_zero_or_pos L.length with q | q
  · obtain ⟨A, c, rfl⟩ := row_shapeV h
    have hk : k = 0 := by have := hs.le; omega
    have hb : bb = false := by
      cases bb with
      | false => rfl
      | true => obtain ⟨x, hx, _⟩ := ha.1 rfl; have := (List.getElem?_eq_some_iff.1 hx).1; omega
    subst hk hb
    rw [q]
    exact bsearchV0 A c m w
  · obtain ⟨g, cap, rfl, _⟩ := row_shape h q
    exact bsearchV g cap L.length L m k bb w h rfl hl hs ha q
theorem find_t (v : Value) (L : List Mv) (tm tc : Int) (k : Nat) (w : World) (h : w.ownsRow 0 28 6 v L.length (rowV L)) (hl : L.length ≤ 1000000) (hs : StandV L (fun x => cmp2 x.ml x.ct tm tc ≤ 0) k) :
    Calls Try.prog 52 #[v, .agg #[.int .i64 tm, .int .i64 tc], .func (.func 53) #[] #[]] w fun e w' => e = .returned (.tuple #[.int .i64 k, .bool false]) ∧ Below w.heap.size w w' := by
  rcases Nat.eq_zero_or_pos L.length with q | q
  · obtain ⟨A, c, rfl⟩ := row_shapeV h
    have hk : k = 0 := by have := hs.le; omega
    subst hk
    rw [q]
    exact bsearchT0 A c tm tc w
  · obtain ⟨g, cap, rfl, _⟩ := row_shape h q
    exact bsearchT g cap L.length L tm tc k w h rfl hl hs q
set_option maxHeartbeats 4000000 in
theorem ch_upTo (P : Nat → Prop) (b : Nat) (v : Value) (L : List Mv) (tm tc : Int) (k : Nat) (w : World) (h : Ch P w b v L) (hl : L.length ≤ 1000000) (hs : StandV L (fun x => cmp2 x.ml x.ct tm tc ≤ 0) k) :
    Calls Try.prog 41 #[.pointer (some ⟨b, 0, none⟩), .agg #[.int .i64 tm, .int .i64 tc]] w fun e w' => e = .returned (.int .i64 k) ∧ Below w.heap.size w w' := by
  have HB0 : Below w.heap.size w (w.alloc (.cells #[.int .i64 tm, .int .i64 tc] 25)) := by (repeat' (first | (with_reducible exact Below.refl _ _) | (with_reducible assumption) | (with_reducible refine Below.trans ?_ (Below.mono (by with_reducible assumption) ?_)) | (with_reducible refine Below.alloc ?_ ?_ _) | (with_reducible refine Below.setCell ?_ ?_ _) | (with_reducible refine below_drewN ?_ _) | (with_reducible refine Below.drew ?_) | go_size))
  have h1 := h.alloc (.cells #[.int .i64 tm, .int .i64 tc] 25)
  have hr := h1.row
  have HFT := Lib.hid (fun W (hb : Below (w.alloc (.cells #[.int .i64 tm, .int .i64 tc] 25)).heap.size (w.alloc (.cells #[.int .i64 tm, .int .i64 tc] 25)) W) => find_t v L tm tc k W (row_below hr hb) hl hs)
  obtain ⟨A, c, rfl⟩ := h.shape
  have c0 := h1.c0
  have s0 : (w.alloc (.cells #[.int .i64 tm, .int .i64 tc] 25)).cell? ⟨w.heap.size, 0, none⟩ = some (.int .i64 tm) := by simp
  have s1 : (w.alloc (.cells #[.int .i64 tm, .int .i64 tc] 25)).cell? ⟨w.heap.size, 1, none⟩ = some (.int .i64 tc) := by simp
  have kc0 := fun d os => cell_regrown c0 d os
  have ks0 := fun d os => cell_regrown s0 d os
  have ks1 := fun d os => cell_regrown s1 d os
  have AC := Lib.hid fun (d' : Nat) (os : Array Obj) => Calls.regrown_of (HFT.out (grow (redrawn (w.alloc (.cells #[.int .i64 tm, .int .i64 tc] 25)) d') os) (below_regrown _ d' os))
  clear h h1 hr hl hs c0 s0 s1 HFT
  generalize L.length = n at *
  go_enter Try.func41, Try.ntmps41
  go_wp2_with fail
  refine wp_region_quiet_below (by kernel_rfl) (by kernel_rfl) ?_
  repeat (go_big_quiet_step ((go_at_call 52; exact AC.out _ _)))
  refine wpQuiet_nil ?_
  intro _ hw'
  obtain ⟨⟨dq, osq⟩, hw''⟩ := hw'
  subst hw''
  have HB1 := HB0.trans ((below_regrown _ dq osq).mono HB0.size)
  go_wp2
  go_ret
  exact ⟨rfl, HB1⟩
end Go.Proofs.Ytfjnjababehmmaa
