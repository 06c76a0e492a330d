/- lease.Leases: Renew of any lease; each call by what it leaves (written by gen/ls2.py). -/
import Derived.Test.YtacchkokbibeaaaLsExp2
import Derived.Test.YtacchkokbibeaaaLsFull
import Derived.Laws.OwnMore
set_option linter.unusedSimpArgs false
set_option linter.unusedVariables false
namespace Go.Proofs.Ytacchkokbibeaaa
open Go.RowKit

theorem flat_setU {L : List Le} {k : Nat} {x : Le} (h : L[k]? = some x) (u : Int) : (flat L).set (k * 4 + 3) (.int .i64 u) = flat (L.set k ⟨x.id, x.m, x.c, u⟩) := by
  have hk : k < L.length := (List.getElem?_eq_some_iff.1 h).1
  have e : L = L.take k ++ x :: L.drop (k + 1) := by
    have h2 : L[k] = x := by have := List.getElem?_eq_getElem hk; rw [this] at h; injection h
    conv => lhs; rw [← List.take_append_drop k L]
    rw [List.drop_eq_getElem_cons hk, h2]
  have hl : (L.take k).length = k := by rw [List.length_take]; omega
  have e2 : L.set k ⟨x.id, x.m, x.c, u⟩ = L.take k ++ ⟨x.id, x.m, x.c, u⟩ :: L.drop (k + 1) := by
    rw [List.set_eq_take_append_cons_drop, if_pos hk]
  have e3 : flat L = flat (L.take k) ++ (x.cs ++ flat (L.drop (k + 1))) := by
    conv => lhs; rw [e]
    rw [flat_append]; rfl
  have hf : (flat (L.take k)).length = k * 4 := by rw [flat_len, hl]
  rw [e3, e2, flat_append, List.set_append_right _ _ (by rw [hf]; omega), hf, show k * 4 + 3 - k * 4 = 3 from by omega]
  rfl
/-- What a call leaves: leases L2, the next number. -/
def StC (b : Nat) (v : Value) (L2 : List Le) (nx2 : Int) (w w' : World) : Prop := ∃ v', Ls w' b v' L2 nx2 ∧ But (Foot b v) w w' ∧ Fresh w v v'
theorem StC.of_below {b : Nat} {v : Value} {L : List Le} {nx : Int} {w w' : World} (h : Ls w b v L nx) (k : Below w.heap.size w w') : StC b v L nx w w' := ⟨v, h.below k, But.of_below k, fun _ hk => .inl hk⟩
theorem StC.first {b : Nat} {v : Value} {L2 : List Le} {nx2 : Int} {w w1 w' : World} (k : Below w.heap.size w w1) (h : StC b v L2 nx2 w1 w') : StC b v L2 nx2 w w' := by
  obtain ⟨v', h1, h2, h3⟩ := h
  exact ⟨v', h1, (But.of_below (S := Foot b v) k).trans h2 (fun _ _ h => h), fun i hi => (h3 i hi).imp id (fun h => Nat.le_trans k.size h)⟩
def mxU (u l : Int) : Int := if u < l then l else u
def renU (L : List Le) (k : Nat) (x : Le) (u : Int) : List Le := L.set k ⟨x.id, x.m, x.c, mxU x.u u⟩
set_option maxHeartbeats 2000000 in
theorem ls_renew_ok (b : Nat) (v : Value) (L : List Le) (nx id now u : Int) (k : Nat) (x : Le) (w : World) (h : Ls w b v L nx) (hl : L.length ≤ 1000) (ha : FindAns L id k true) (hx : L[k]? = some x) (hn : now < x.u) :
    Calls Try.prog 13 #[.pointer (some ⟨b, 0, none⟩), .int .i64 id, .int .i64 now, .int .i64 u] w fun e w' => e = .returned (.int .i64 0) ∧ StC b v (renU L k x u) nx w w' := by
  obtain ⟨g, c, rfl, _⟩ := at_shape h hx
  have HC := Lib.hid (ls_at_ok b g c L nx id now k x w h hl ha hx hn)
  have HS : Hid (∀ (u2 : Int) (w1 : World), Below w.heap.size w w1 → StC b (.slice (some ⟨g, 0, none⟩) L.length c) (L.set k ⟨x.id, x.m, x.c, u2⟩) nx w (w1.setCell ⟨g, k * 4 + 3, none⟩ (.int .i64 u2))) := Lib.hid (fun u2 w1 hb1 => by
    have H1 := h.below hb1
    have hst := (World.ownsRow.stored H1.row (k * 4 + 3) (.int .i64 u2)).1
    rw [flat_setU hx] at hst
    have hne : b ≠ g := fun e => h.ne (by simp [Value.ownBlock, e])
    have ho : Only g w1 (w1.setCell ⟨g, k * 4 + 3, none⟩ (.int .i64 u2)) := (Only.refl g w1).setB _
    refine ⟨_, ⟨?_, (ho.cell b 1 H1.lt hne).trans H1.c1, (ho.frozen b 0 H1.lt hne).trans H1.f0, (ho.frozen b 1 H1.lt hne).trans H1.f1, Nat.lt_of_lt_of_le H1.lt ho.size, ?_, h.ne⟩, ?_, fun _ hk => .inl hk⟩
    · exact (ho.cell b 0 H1.lt hne).trans H1.c0
    · rw [List.length_set]; exact hst
    · exact (But.of_below (S := Foot b (.slice (some ⟨g, 0, none⟩) L.length c)) hb1).trans (But.of_only (S := Foot b (.slice (some ⟨g, 0, none⟩) L.length c)) ho (.inr rfl)) (fun _ _ h => h))
  have HX := Lib.hid hx
  have HH := Lib.hid h
  obtain ⟨xi, xm, xc, xu⟩ := x
  clear h ha hl hx hn
  unfold renU
  show Calls Try.prog 13 _ w fun e w' => e = .returned (.int .i64 0) ∧ StC b (.slice (some ⟨g, 0, none⟩) L.length c) (L.set k ⟨xi, xm, xc, mxU xu u⟩) nx w w'
  unfold mxU
  rcases (show xu < u ∨ xu = u ∨ u < xu from by omega) with hq | hq | hq
  · have t1 : decide (xu < u) = true := by simpa using hq
    have t2 : decide (u < xu) = false := by simp only [decide_eq_false_iff_not]; omega
    rw [if_pos hq]
    go_enter Try.func13, Try.ntmps13
    go_wp2_with fail
    refine HC.out.mono ?_; rintro e w1 ⟨rfl, hb1⟩
    have HS1 := Lib.hid (HS.out u w1 hb1)
    obtain ⟨_, _, _, r3⟩ := (HH.out.below hb1).cells rfl HX.out
    have rf := row_frozen (HH.out.below hb1).row (k * 4 + 3)
    simp only at r3
    clear hb1 HS
    go_wp2
    go_ret
    go_light
    exact ⟨rfl, HS1.out⟩
  · subst hq
    have t1 : decide (xu < xu) = false := by simp
    rw [if_neg (by omega)]
    go_enter Try.func13, Try.ntmps13
    go_wp2_with fail
    refine HC.out.mono ?_; rintro e w1 ⟨rfl, hb1⟩
    have HS1 := Lib.hid (HS.out xu w1 hb1)
    obtain ⟨_, _, _, r3⟩ := (HH.out.below hb1).cells rfl HX.out
    have rf := row_frozen (HH.out.below hb1).row (k * 4 + 3)
    simp only at r3
    clear hb1 HS
    go_wp2
    go_ret
    go_light
    exact ⟨rfl, HS1.out⟩
  · have t1 : decide (xu < u) = false := by simp only [decide_eq_false_iff_not]; omega
    have t2 : decide (u < xu) = true := by simpa using hq
    rw [if_neg (by omega)]
    go_enter Try.func13, Try.ntmps13
    go_wp2_with fail
    refine HC.out.mono ?_; rintro e w1 ⟨rfl, hb1⟩
    have HS1 := Lib.hid (HS.out xu w1 hb1)
    obtain ⟨_, _, _, r3⟩ := (HH.out.below hb1).cells rfl HX.out
    have rf := row_frozen (HH.out.below hb1).row (k * 4 + 3)
    simp only at r3
    clear hb1 HS
    go_wp2
    go_ret
    go_light
    exact ⟨rfl, HS1.out⟩
theorem ls_renew_bad (b : Nat) (v : Value) (L : List Le) (nx id now u r : Int) (w : World) (h : Ls w b v L nx)
    (HA : Calls Try.prog 27 #[.pointer (some ⟨b, 0, none⟩), .int .i64 id, .int .i64 now] w fun e w' => e = .returned (.tuple #[.pointer none, .int .i64 r]) ∧ Below w.heap.size w w') (hr : (r != 0) = true) (hr' : (r == 0) = false) :
    Calls Try.prog 13 #[.pointer (some ⟨b, 0, none⟩), .int .i64 id, .int .i64 now, .int .i64 u] w fun e w' => e = .returned (.int .i64 r) ∧ StC b v L nx w w' := by
  have HH := Lib.hid h
  have HC := Lib.hid HA
  clear h HA
  go_enter Try.func13, Try.ntmps13
  go_wp2_with fail
  refine HC.out.mono ?_; rintro e w1 ⟨rfl, hb1⟩
  go_wp2
  go_ret
  exact ⟨rfl, StC.of_below HH.out hb1⟩
/-- What At tells: stamp and code. -/
def atA (L : List Le) (now : Int) (k : Nat) (bb : Bool) : Int × Int × Int := match bb, L[k]? with
  | true, some x => if now < x.u then (x.m, x.c, 0) else (0, 0, 19)
  | _, _ => (0, 0, 7)
theorem ls_At_any (b : Nat) (v : Value) (L : List Le) (nx id now : Int) (k : Nat) (bb : Bool) (w : World) (h : Ls w b v L nx) (hl : L.length ≤ 1000) (ha : FindAns L id k bb) :
    Calls Try.prog 11 #[.pointer (some ⟨b, 0, none⟩), .int .i64 id, .int .i64 now] w fun e w' => e = .returned (.tuple #[.agg #[.int .i64 (atA L now k bb).1, .int .i64 (atA L now k bb).2.1], .int .i64 (atA L now k bb).2.2]) ∧ Below w.heap.size w w' := by
  cases bb with
  | false => exact ls_At_none b v L nx id now k w h hl ha
  | true =>
    obtain ⟨x, hx, _⟩ := ha.2.1 rfl
    by_cases hn : now < x.u
    · have e : atA L now k true = (x.m, x.c, 0) := by unfold atA; rw [hx]; simp [hn]
      rw [e]
      exact ls_At_ok b v L nx id now k x w h hl ha hx hn
    · have e : atA L now k true = (0, 0, 19) := by unfold atA; rw [hx]; simp [hn]
      rw [e]
      exact ls_At_old b v L nx id now k x w h hl ha hx (by omega)
/-- What Renew tells, and leaves. -/
def renE (L : List Le) (now u : Int) (k : Nat) (bb : Bool) : Int × List Le := match bb, L[k]? with
  | true, some x => if now < x.u then (0, renU L k x u) else (19, L)
  | _, _ => (7, L)
theorem ls_renew_any (b : Nat) (v : Value) (L : List Le) (nx id now u : Int) (k : Nat) (bb : Bool) (w : World) (h : Ls w b v L nx) (hl : L.length ≤ 1000) (ha : FindAns L id k bb) :
    Calls Try.prog 13 #[.pointer (some ⟨b, 0, none⟩), .int .i64 id, .int .i64 now, .int .i64 u] w fun e w' => e = .returned (.int .i64 (renE L now u k bb).1) ∧ StC b v (renE L now u k bb).2 nx w w' := by
  cases bb with
  | false => exact ls_renew_bad b v L nx id now u 7 w h (ls_at_none b v L nx id now k w h hl ha) (by decide) (by decide)
  | true =>
    obtain ⟨x, hx, _⟩ := ha.2.1 rfl
    by_cases hn : now < x.u
    · have e : renE L now u k true = (0, renU L k x u) := by unfold renE; rw [hx]; simp [hn]
      rw [e]
      exact ls_renew_ok b v L nx id now u k x w h hl ha hx hn
    · have e : renE L now u k true = (19, L) := by unfold renE; rw [hx]; simp [hn]
      rw [e]
      exact ls_renew_bad b v L nx id now u 19 w h (ls_at_old b v L nx id now k x w h hl ha hx (by omega)) (by decide) (by decide)
/-- What Open tells, and leaves: number, code, leases, next number. -/
def opnE (L : List Le) (nx m c u : Int) : Int × Int × List Le × Int :=
  if isStampB m c = true ∧ 0 ≤ u then (if 64 ≤ L.length then (0, 6, L, nx) else (nx, 0, L ++ [⟨nx, m, c, u⟩], nx + 1)) else (0, 1, L, nx)
theorem ls_open_any (b : Nat) (v : Value) (L : List Le) (nx m c u : Int) (w : World) (h : Ls w b v L nx) (n0 : 0 ≤ nx) (n1 : nx ≤ 1099511627776) :
    Calls Try.prog 9 #[.pointer (some ⟨b, 0, none⟩), .agg #[.int .i64 m, .int .i64 c], .int .i64 u] w fun e w' => e = .returned (.tuple #[.int .i64 (opnE L nx m c u).1, .int .i64 (opnE L nx m c u).2.1]) ∧ StC b v (opnE L nx m c u).2.2.1 (opnE L nx m c u).2.2.2 w w' := by
  by_cases hs : isStampB m c = true ∧ 0 ≤ u
  · by_cases hf : 64 ≤ L.length
    · have e : opnE L nx m c u = (0, 6, L, nx) := by unfold opnE; rw [if_pos hs, if_pos hf]
      rw [e]
      exact (ls_open_full b v L nx m c u w h hs.1 hs.2 hf).mono fun e w' ⟨h1, h2⟩ => ⟨h1, StC.of_below h h2⟩
    · have e : opnE L nx m c u = (nx, 0, L ++ [⟨nx, m, c, u⟩], nx + 1) := by unfold opnE; rw [if_pos hs, if_neg hf]
      rw [e]
      exact ls_open b v L nx m c u w h hs.1 hs.2 (by omega) n0 n1
  · have e : opnE L nx m c u = (0, 1, L, nx) := by unfold opnE; rw [if_neg hs]
    rw [e]
    refine (ls_open_bad (.pointer (some ⟨b, 0, none⟩)) m c u w ⟨b, rfl⟩ ?_).mono fun e w' ⟨h1, h2⟩ => ⟨h1, StC.of_below h h2⟩
    cases hb : isStampB m c with
    | false => exact .inl rfl
    | true => exact .inr ⟨rfl, by rw [hb] at hs; simp at hs; exact hs⟩
theorem stC_close {b : Nat} {v : Value} {L : List Le} {nx : Int} {ids : List Int} {w w' : World} (h : CloseRel b v L nx ids w w') : StC b v (closeL L ids) nx w w' := by
  obtain ⟨v', h1, h2, h3⟩ := h
  exact ⟨v', h1, h2, fun k hk => .inl (by rw [← h3]; exact hk)⟩
theorem stC_exp {b : Nat} {v : Value} {L : List Le} {nx now : Int} {w w' : World} (h : ExpRel b v L nx now w w') : StC b v (keep now L) nx w w' := by
  obtain ⟨v', h1, h2, h3⟩ := h
  exact ⟨v', h1, h2, fun k hk => .inl (by rw [← h3]; exact hk)⟩
/-- What holds of leases all the time. -/
structure LeG (L : List Le) (nx : Int) (k : Nat) : Prop where
  rise : Rise L
  ids : ∀ y ∈ L, y.id < nx
  len : L.length ≤ 64
  n0 : 0 ≤ nx
  n1 : nx ≤ (k : Int)
theorem LeG.step {L : List Le} {nx : Int} {k : Nat} (h : LeG L nx k) : LeG L nx (k + 1) := ⟨h.rise, h.ids, h.len, h.n0, by have := h.n1; omega⟩
theorem LeG.sub {L L2 : List Le} {nx : Int} {k : Nat} (h : LeG L nx k) (s : L2.Sublist L) : LeG L2 nx (k + 1) := ⟨h.rise.sub s, fun y hy => h.ids y (s.subset hy), Nat.le_trans s.length_le h.len, h.n0, by have := h.n1; omega⟩
theorem LeG.open {L : List Le} {nx m c u : Int} {k : Nat} (h : LeG L nx k) : LeG (opnE L nx m c u).2.2.1 (opnE L nx m c u).2.2.2 (k + 1) := by
  unfold opnE
  split
  · split
    · exact h.step
    · refine ⟨h.rise.snoc (fun y hy => h.ids y hy), fun y hy => ?_, by simp; omega, by have := h.n0; show 0 ≤ nx + 1; omega, by have := h.n1; show nx + 1 ≤ _; omega⟩
      show y.id < nx + 1
      rcases List.mem_append.1 hy with h1 | h1
      · have := h.ids y h1; omega
      · simp at h1; subst h1; show nx < nx + 1; omega
  · exact h.step
theorem LeG.renew {L : List Le} {nx now u : Int} {k j : Nat} {bb : Bool} (h : LeG L nx k) : LeG (renE L now u j bb).2 nx (k + 1) := by
  unfold renE
  split
  · rename_i x hx
    split
    · have hj := (List.getElem?_eq_some_iff.1 hx).1
      have hids : (renU L j x u).map Le.id = L.map Le.id := by
        unfold renU
        rw [List.map_set]
        apply List.ext_getElem?
        intro i
        by_cases hi : j = i
        · subst hi
          have hx2 : L[j] = x := by rw [List.getElem?_eq_getElem hj] at hx; injection hx
          simp [hj, hx2]
        · rw [List.getElem?_set_ne hi]
      refine ⟨?_, fun y hy => ?_, by unfold renU; rw [List.length_set]; exact h.len, h.n0, by have := h.n1; omega⟩
      · have hr := h.rise
        unfold Rise at hr ⊢
        have := (List.pairwise_map (f := Le.id) (R := fun a b : Int => a < b) (l := L)).2 hr
        rw [← hids] at this
        exact List.pairwise_map.1 this
      · have : y.id ∈ (renU L j x u).map Le.id := List.mem_map_of_mem hy
        rw [hids] at this
        obtain ⟨z, hz, e⟩ := List.mem_map.1 this
        rw [← e]; exact h.ids z hz
    · exact h.step
  · exact h.step
end Go.Proofs.Ytacchkokbibeaaa
