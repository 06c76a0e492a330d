/- The reference's Leases: Open, At, Renew, drop (written by gen/lr2.py). -/
import Derived.Test.YtacchkokbibeaaaLr
import Derived.Test.YtacchkokbibeaaaLs2
import Derived.Deep.RegionLaw
set_option linter.unusedSimpArgs false
set_option linter.unusedVariables false
namespace Go.Proofs.Ytacchkokbibeaaa
open Go.RowKit

/-- What a call of the reference's leaves. -/
def StR (b : Nat) (v : Value) (L2 : List Le) (nx2 : Int) (w w' : World) : Prop := ∃ v', Lr w' b v' L2 nx2 ∧ But (Foot b v) w w' ∧ Fresh w v v'
theorem StR.of_below {b : Nat} {v : Value} {L : List Le} {nx : Int} {w w' : World} (h : Lr w b v L nx) (k : Below w.heap.size w w') : StR b v L nx w w' := ⟨v, h.below k, But.of_below k, fun _ hk => .inl hk⟩
theorem StR.first {b : Nat} {v : Value} {L2 : List Le} {nx2 : Int} {w w1 w' : World} (k : Below w.heap.size w w1) (h : StR b v L2 nx2 w1 w') : StR b v L2 nx2 w w' := by
  obtain ⟨v', h1, h2, h3⟩ := h
  exact ⟨v', h1, (But.of_below (S := Foot b v) k).trans h2 (fun _ _ h => h), fun i hi => (h3 i hi).imp id (fun h => Nat.le_trans k.size h)⟩
theorem StR.drew {b : Nat} {v : Value} {L2 : List Le} {nx2 : Int} {w w' : World} (h : StR b v L2 nx2 w w') : StR b v L2 nx2 w w'.drew := by
  obtain ⟨v', h1, h2, h3⟩ := h
  exact ⟨v', h1.below ((Below.refl _ _).drew), h2.drew, h3⟩
set_option maxRecDepth 100000 in
set_option maxHeartbeats 4000000 in
theorem lr_open (b : Nat) (v : Value) (L : List Le) (nx m c u : Int) (w : World) (h : Lr w b v L nx) (hs : isStampB m c = true) (hu : 0 ≤ u) (hl : L.length < 64) (n0 : 0 ≤ nx) (n1 : nx ≤ 1099511627776) :
    Calls Try.prog 10 #[.pointer (some ⟨b, 0, none⟩), .agg #[.int .i64 m, .int .i64 c], .int .i64 u] w fun e w' => e = .returned (.tuple #[.int .i64 nx, .int .i64 0]) ∧ StR b v (L ++ [⟨nx, m, c, u⟩]) (nx + 1) w w' := by
  obtain ⟨i0, hi0, hz0, hz1, hz2⟩ := info_parts lr_info
  obtain ⟨A, cp, rfl⟩ := h.shape
  have HB0 : Below w.heap.size w (w.alloc (.cells #[.int .i64 m, .int .i64 c] 30)) := by (repeat' (first | (with_reducible exact Below.refl _ _) | (with_reducible assumption) | (with_reducible refine Below.trans ?_ (Below.mono (by with_reducible assumption) ?_)) | (with_reducible refine Below.alloc ?_ ?_ _) | (with_reducible refine Below.setCell ?_ ?_ _) | (with_reducible refine below_drewN ?_ _) | (with_reducible refine Below.drew ?_) | go_size))
  have HH := Lib.hid h
  clear h
  have t1 : decide (u < 0) = false := by simp only [decide_eq_false_iff_not]; omega
  have t2 : decide ((64 : Int) ≤ (L.length : Int)) = false := by simp only [decide_eq_false_iff_not]; omega
  have t3 : IntKind.i64.wrap (nx + 1) = nx + 1 := IntWalk.i64_in _ (by omega)
  have t5 : IntKind.i64.wrap nx = nx := IntWalk.i64_in _ (by omega)
  have t4 : IntKind.i64.wrap (nx + 1 - 1) = nx := (IntWalk.i64_in _ (by omega)).trans (by omega)
  have HL := Lib.hid hl
  have c0 := HH.out.c0
  have c1 := HH.out.c1
  have f0 := HH.out.f0
  have f1 := HH.out.f1
  have lb := HH.out.lt
  clear hu hl n0 n1
  go_enter Try.func10, Try.ntmps10
  go_wp2_with fail
  refine (ref10_is m c _).mono ?_; rw [hs]; rintro e w1 ⟨rfl, hb1⟩
  have HB1 : Below w.heap.size w w1 := HB0.trans (hb1.mono HB0.size)
  have S0 : w1.cell? ⟨w.heap.size, 0, none⟩ = some (.int .i64 m) := (hb1.cell (p := ⟨w.heap.size, 0, none⟩) (by simp)).trans (by simp)
  have S1 : w1.cell? ⟨w.heap.size, 1, none⟩ = some (.int .i64 c) := (hb1.cell (p := ⟨w.heap.size, 1, none⟩) (by simp)).trans (by simp)
  have l1 : w.heap.size < w1.heap.size := by have := hb1.size; simp at this; omega
  have b0 := (HB1.cell (p := ⟨b, 0, none⟩) lb).trans c0
  have b1 := (HB1.cell (p := ⟨b, 1, none⟩) lb).trans c1
  have g0 := (HB1.frozen (p := ⟨b, 0, none⟩) lb).trans f0
  have g1 := (HB1.frozen (p := ⟨b, 1, none⟩) lb).trans f1
  have lb1 : b < w1.heap.size := by omega
  have R1 := Lib.hid (HH.out.below HB1).row
  have hbn := Lib.hid HH.out.ne
  have HLN := Lib.hid (fun k (hk : (Value.slice A L.length cp).ownBlock = some k) => (HH.out.row.lt k hk).2)
  have hwn' : Hid ((Value.slice A L.length cp).ownBlock ≠ some w.heap.size) := Lib.hid (fun hk => by have := HLN.out _ hk; omega)
  have HBB := Lib.hid HB1
  clear hb1 c0 c1 f0 f1 HB0 HB1
  go_wp2_with fail
  go_region_law
    ((refine step_append_lies _ (by rfl) _ _ _ (by rfl) 0 67 i0 _ 4 32 Try.underlying26 hi0 hz0 hz1 hz2 rfl (by omega) (.slice A L.length cp) L.length (flat L) (by rfl) (World.ownsRow.alloc R1.out _)
        ⟨w1.heap.size, 0, none⟩ 1 1 [.int .i64 nx, .int .i64 m, .int .i64 c, .int .i64 u] (by rfl) (by rfl) (World.news_of_block (cs := #[.int .i64 nx, .int .i64 m, .int .i64 c, .int .i64 u]) (t := 67) (fr := (0, 0)) (heap_alloc_new w1 _)) (by simp [Value.oneCell'])
        (by omega) (by have := HL.out; unfold maxLen; omega) (by have := HL.out; omega) (by omega) (w1.heap.size + 1) (by simp) ?_; intro g cap w3 hown hgrow hat hlt; have b3 : w3.cell? ⟨b, 0, none⟩ = some (.slice A L.length cp) := (hgrow.cell_far _ (by simp; omega) (fun e => hbn.out e.symm)).trans ((World.cell?_alloc_past _ _ _ lb1).trans b0); have b4 : w3.cell? ⟨b, 1, none⟩ = some (.int .i64 nx) := (hgrow.cell_far _ (by simp; omega) (fun e => hbn.out e.symm)).trans ((World.cell?_alloc_past _ _ _ lb1).trans b1); have s3 : w3.cell? ⟨w.heap.size, 0, none⟩ = some (.int .i64 m) := (hgrow.cell_far _ (by simp; omega) (fun e => hwn'.out e.symm)).trans ((World.cell?_alloc_past _ _ _ l1).trans S0); have s4 : w3.cell? ⟨w.heap.size, 1, none⟩ = some (.int .i64 c) := (hgrow.cell_far _ (by simp; omega) (fun e => hwn'.out e.symm)).trans ((World.cell?_alloc_past _ _ _ l1).trans S1); have g3 : w3.frozen? ⟨b, 0, none⟩ = false := (hgrow.frozen_far _ (by simp; omega) (fun e => hbn.out e.symm)).trans (((Below.alloc (Below.refl w1.heap.size w1) (Nat.le_refl _) (.cells #[.int .i64 nx, .int .i64 m, .int .i64 c, .int .i64 u] 67)).frozen (p := ⟨b, 0, none⟩) lb1).trans g0); have g4 : w3.frozen? ⟨b, 1, none⟩ = false := (hgrow.frozen_far _ (by simp; omega) (fun e => hbn.out e.symm)).trans (((Below.alloc (Below.refl w1.heap.size w1) (Nat.le_refl _) (.cells #[.int .i64 nx, .int .i64 m, .int .i64 c, .int .i64 u] 67)).frozen (p := ⟨b, 1, none⟩) lb1).trans g1)))
  all_goals
    have hbt : But (Foot b (.slice A L.length cp)) w w3 := ((But.of_below (S := Foot b (.slice A L.length cp)) HBB.out).alloc _).drew.trans (But.of_grown (S := Foot b (.slice A L.length cp)) hgrow (fun k hk => .inr hk)) (fun _ _ hf => hf)
    have lb3 : b < w3.heap.size := Nat.lt_of_lt_of_le (by simp; omega) hgrow.size
    have hgb : g ≠ b := fun e => by
      rcases hat with h | h
      · exact hbn.out (e ▸ h)
      · omega
    have hfr : Fresh w (.slice A L.length cp) (.slice (some ⟨g, 0, none⟩) (L.length + 1) cap) := fun k hk => by
      have hk' : g = k := by simpa [Value.ownBlock] using hk
      subst hk'
      rcases hat with h | h
      · exact .inl h
      · have := HBB.out.size; exact .inr (by omega)
    have HO := Lib.hid hown
    have HBT := Lib.hid hbt
    have HFR := Lib.hid hfr
    clear hown hgrow hat hbt hfr b0 b1 S0 S1 s3 s4 g0 g1
    have HFIN : Hid (StR b (.slice A L.length cp) (L ++ [⟨nx, m, c, u⟩]) (nx + 1) w ((w3.setCell ⟨b, 0, none⟩ (.slice (some ⟨g, 0, none⟩) (L.length + 1) cap)).setCell ⟨b, 1, none⟩ (.int .i64 (nx + 1)))) := by
      refine ⟨.slice (some ⟨g, 0, none⟩) (L.length + 1) cap, ⟨(World.cell?_setCell_other _ _ _ _ (by simp)).trans (World.cell?_setCell_same _ _ _ b3), World.cell?_setCell_same _ _ _ ((World.cell?_setCell_other _ _ _ _ (by simp)).trans b4), by simpa using g3, by simpa using g4, by simpa [World.setCell] using lb3, ?_, by simp [Value.ownBlock]; omega⟩, (HBT.out.setCell (fun _ => .inl rfl) _).setCell (fun _ => .inl rfl) _, HFR.out⟩
      have h3 := HO.out
      rw [show flat (L ++ [⟨nx, m, c, u⟩]) = flat L ++ [.int .i64 nx, .int .i64 m, .int .i64 c, .int .i64 u] from by rw [flat_append, flat_one]; rfl, show (L ++ [(⟨nx, m, c, u⟩ : Le)]).length = L.length + 1 from by simp]
      exact (But.of_only (S := fun k => k = b) (((Only.refl b w3).setB _).setB _) rfl).row h3 (fun i hi hb => by simp [Value.ownBlock] at hi; omega)
    clear HO HBT HFR
    go_wp2
    go_ret2
    go_light
    exact ⟨rfl, HFIN.out⟩
theorem lr_open_any (b : Nat) (v : Value) (L : List Le) (nx m c u : Int) (w : World) (h : Lr w b v L nx) (n0 : 0 ≤ nx) (n1 : nx ≤ 1099511627776) :
    Calls Try.prog 10 #[.pointer (some ⟨b, 0, none⟩), .agg #[.int .i64 m, .int .i64 c], .int .i64 u] w fun e w' => e = .returned (.tuple #[.int .i64 (opnE L nx m c u).1, .int .i64 (opnE L nx m c u).2.1]) ∧ StR b v (opnE L nx m c u).2.2.1 (opnE L nx m c u).2.2.2 w w' := by
  by_cases hs : isStampB m c = true ∧ 0 ≤ u
  · by_cases hf : 64 ≤ L.length
    · have e : opnE L nx m c u = (0, 6, L, nx) := by unfold opnE; rw [if_pos hs, if_pos hf]
      rw [e]
      exact (lr_open_full b v L nx m c u w h hs.1 hs.2 hf).mono fun e w' ⟨h1, h2⟩ => ⟨h1, StR.of_below h h2⟩
    · have e : opnE L nx m c u = (nx, 0, L ++ [⟨nx, m, c, u⟩], nx + 1) := by unfold opnE; rw [if_pos hs, if_neg hf]
      rw [e]
      exact lr_open b v L nx m c u w h hs.1 hs.2 (by omega) n0 n1
  · have e : opnE L nx m c u = (0, 1, L, nx) := by unfold opnE; rw [if_neg hs]
    rw [e]
    refine (lr_open_bad b m c u w ?_).mono fun e w' ⟨h1, h2⟩ => ⟨h1, StR.of_below h h2⟩
    cases hb : isStampB m c with
    | false => exact .inl rfl
    | true => exact .inr ⟨rfl, by rw [hb] at hs; simp at hs; exact hs⟩
set_option maxHeartbeats 2000000 in
theorem lr_At_any (b : Nat) (v : Value) (L : List Le) (nx id now : Int) (k : Nat) (bb : Bool) (w : World) (h : Lr w b v L nx) (hl : L.length ≤ 1000) (ha : FindAns L id k bb) (hr : Rise L) :
    Calls Try.prog 12 #[.pointer (some ⟨b, 0, none⟩), .int .i64 id, .int .i64 now] w fun e w' => e = .returned (.tuple #[.agg #[.int .i64 (atA L now k bb).1, .int .i64 (atA L now k bb).2.1], .int .i64 (atA L now k bb).2.2]) ∧ Below w.heap.size w w' := by
  have HB0 : Below w.heap.size w (w.alloc (.cells #[.int .i64 0, .int .i64 0] 30)) := by (repeat' (first | (with_reducible exact Below.refl _ _) | (with_reducible assumption) | (with_reducible refine Below.trans ?_ (Below.mono (by with_reducible assumption) ?_)) | (with_reducible refine Below.alloc ?_ ?_ _) | (with_reducible refine Below.setCell ?_ ?_ _) | (with_reducible refine below_drewN ?_ _) | (with_reducible refine Below.drew ?_) | go_size))
  have J0 := Ints2.new w 0 0 30
  have HF := Lib.hid (lr_find b v L nx id k bb _ (h.below HB0) hl ha hr)
  have H0 := h.below HB0
  cases bb with
  | false =>
    show Calls Try.prog 12 _ w fun e w' => e = .returned (.tuple #[.agg #[.int .i64 0, .int .i64 0], .int .i64 7]) ∧ Below w.heap.size w w'
    have R0 := (J0.set0 0).c0
    have R1 := ((J0.set0 0).set1 0).c1
    obtain ⟨x0, x1, g0, g1, lt⟩ := J0
    clear h H0 ha hr
    go_enter Try.func12, Try.ntmps12
    go_wp2_with fail
    refine HF.out.mono ?_; rintro e w1 ⟨rfl, rfl⟩
    simp only [whereR]
    go_wp2
    refine bodyPost_ret (v := .tuple #[.agg #[.int .i64 0, .int .i64 0], .int .i64 7]) (by simp [results, Try.results12, go_sem, R0, R1]) rfl ⟨rfl, ?_⟩
    (repeat' (first | (with_reducible exact Below.refl _ _) | (with_reducible assumption) | (with_reducible refine Below.trans ?_ (Below.mono (by with_reducible assumption) ?_)) | (with_reducible refine Below.alloc ?_ ?_ _) | (with_reducible refine Below.setCell ?_ ?_ _) | (with_reducible refine below_drewN ?_ _) | (with_reducible refine Below.drew ?_) | go_size))
  | true =>
    obtain ⟨x, hx, _⟩ := ha.2.1 rfl
    obtain ⟨g, cp, hv, hcp, hkl, r0, r1, r2, r3⟩ := lr_at_shape H0 hx
    have c0 := H0.c0
    rw [hv] at c0
    have hkd : decide ((k : Int) < 0) = false := by simp
    have hLL : (L.length : Int) ≤ 1000 := by omega
    have hk2 : (k : Int) < (L.length : Int) := by omega
    generalize L.length = n at *
    by_cases hn : now < x.u
    · have e : atA L now k true = (x.m, x.c, 0) := by unfold atA; rw [hx]; simp [hn]
      rw [e]
      obtain ⟨xi, xm, xc, xu⟩ := x
      have r1 : (w.alloc (.cells #[.int .i64 0, .int .i64 0] 30)).cell? ⟨g, k * 4 + 1, none⟩ = some (.int .i64 xm) := r1
      have r2 : (w.alloc (.cells #[.int .i64 0, .int .i64 0] 30)).cell? ⟨g, k * 4 + 1 + 1, none⟩ = some (.int .i64 xc) := r2
      have r3 : (w.alloc (.cells #[.int .i64 0, .int .i64 0] 30)).cell? ⟨g, k * 4 + 3, none⟩ = some (.int .i64 xu) := r3
      have R0 := (J0.set0 xm).c0
      have R1 := ((J0.set0 xm).set1 xc).c1
      have hn' : decide (xu ≤ now) = false := by simp only [decide_eq_false_iff_not]; show ¬ xu ≤ now; have : now < xu := hn; omega
      obtain ⟨x0, x1, g0, g1, lt⟩ := J0
      clear h H0 ha hr hx e hn hv r0
      go_enter Try.func12, Try.ntmps12
      go_wp2_with fail
      refine HF.out.mono ?_; rintro e w1 ⟨rfl, rfl⟩
      simp only [whereR]
      go_wp2
      refine bodyPost_ret (v := .tuple #[.agg #[.int .i64 xm, .int .i64 xc], .int .i64 0]) (by simp [results, Try.results12, go_sem, R0, R1]) rfl ⟨rfl, ?_⟩
      (repeat' (first | (with_reducible exact Below.refl _ _) | (with_reducible assumption) | (with_reducible refine Below.trans ?_ (Below.mono (by with_reducible assumption) ?_)) | (with_reducible refine Below.alloc ?_ ?_ _) | (with_reducible refine Below.setCell ?_ ?_ _) | (with_reducible refine below_drewN ?_ _) | (with_reducible refine Below.drew ?_) | go_size))
    · have e : atA L now k true = (0, 0, 19) := by unfold atA; rw [hx]; simp [hn]
      rw [e]
      obtain ⟨xi, xm, xc, xu⟩ := x
      have r3 : (w.alloc (.cells #[.int .i64 0, .int .i64 0] 30)).cell? ⟨g, k * 4 + 3, none⟩ = some (.int .i64 xu) := r3
      have R0 := (J0.set0 0).c0
      have R1 := ((J0.set0 0).set1 0).c1
      have hn' : decide (xu ≤ now) = true := by simp only [decide_eq_true_eq]; have : ¬ now < xu := hn; omega
      obtain ⟨x0, x1, g0, g1, lt⟩ := J0
      clear h H0 ha hr hx e hn hv r0 r1 r2
      go_enter Try.func12, Try.ntmps12
      go_wp2_with fail
      refine HF.out.mono ?_; rintro e w1 ⟨rfl, rfl⟩
      simp only [whereR]
      go_wp2
      refine bodyPost_ret (v := .tuple #[.agg #[.int .i64 0, .int .i64 0], .int .i64 19]) (by simp [results, Try.results12, go_sem, R0, R1]) rfl ⟨rfl, ?_⟩
      (repeat' (first | (with_reducible exact Below.refl _ _) | (with_reducible assumption) | (with_reducible refine Below.trans ?_ (Below.mono (by with_reducible assumption) ?_)) | (with_reducible refine Below.alloc ?_ ?_ _) | (with_reducible refine Below.setCell ?_ ?_ _) | (with_reducible refine below_drewN ?_ _) | (with_reducible refine Below.drew ?_) | go_size))
theorem lr_set {w w1 : World} {b g c k : Nat} {L : List Le} {nx : Int} {x : Le} (h : Lr w b (.slice (some ⟨g, 0, none⟩) L.length c) L nx) (hx : L[k]? = some x) (u2 : Int) (hb1 : Below w.heap.size w w1) :
    StR b (.slice (some ⟨g, 0, none⟩) L.length c) (L.set k ⟨x.id, x.m, x.c, u2⟩) nx w (w1.setCell ⟨g, k * 4 + 3, none⟩ (.int .i64 u2)) := by
  have H1 := h.below hb1
  have hst := (World.ownsRow.stored H1.row (k * 4 + 3) (.int .i64 u2)).1
  rw [flat_setU hx] at hst
  have hne : b ≠ g := fun e => h.ne (by simp [Value.ownBlock, e])
  have ho : Only g w1 (w1.setCell ⟨g, k * 4 + 3, none⟩ (.int .i64 u2)) := (Only.refl g w1).setB _
  refine ⟨_, ⟨?_, (ho.cell b 1 H1.lt hne).trans H1.c1, (ho.frozen b 0 H1.lt hne).trans H1.f0, (ho.frozen b 1 H1.lt hne).trans H1.f1, Nat.lt_of_lt_of_le H1.lt ho.size, ?_, h.ne⟩, ?_, fun _ hk => .inl hk⟩
  · exact (ho.cell b 0 H1.lt hne).trans H1.c0
  · rw [List.length_set]; exact hst
  · exact (But.of_below (S := Foot b (.slice (some ⟨g, 0, none⟩) L.length c)) hb1).trans (But.of_only (S := Foot b (.slice (some ⟨g, 0, none⟩) L.length c)) ho (.inr rfl)) (fun _ _ h => h)
set_option maxHeartbeats 4000000 in
theorem lr_renew_ok (b : Nat) (v : Value) (L : List Le) (nx id now u : Int) (k : Nat) (x : Le) (w : World) (h : Lr w b v L nx) (hl : L.length ≤ 1000) (ha : FindAns L id k true) (hr : Rise L) (hx : L[k]? = some x) (hn : now < x.u) :
    Calls Try.prog 14 #[.pointer (some ⟨b, 0, none⟩), .int .i64 id, .int .i64 now, .int .i64 u] w fun e w' => e = .returned (.int .i64 0) ∧ StR b v (renU L k x u) nx w w' := by
  obtain ⟨g, c, rfl, hcp, hkl, _⟩ := lr_at_shape h hx
  have HA := Lib.hid (lr_At_any b _ L nx id now k true w h hl ha hr)
  have e : atA L now k true = (x.m, x.c, 0) := by unfold atA; rw [hx]; simp [hn]
  rw [e] at HA
  have HF := Lib.hid fun (W : World) (hb : Below w.heap.size w W) => lr_find b _ L nx id k true W (h.below hb) hl ha hr
  have HS := Lib.hid fun (u2 : Int) (W : World) (hb : Below w.heap.size w W) => lr_set h hx u2 hb
  have HH := Lib.hid h
  have HX := Lib.hid hx
  have hLL : (L.length : Int) ≤ 1000 := by omega
  have hk2 : (k : Int) < (L.length : Int) := by omega
  obtain ⟨xi, xm, xc, xu⟩ := x
  unfold renU
  show Calls Try.prog 14 _ w fun e w' => e = .returned (.int .i64 0) ∧ StR b (.slice (some ⟨g, 0, none⟩) L.length c) (L.set k ⟨xi, xm, xc, mxU xu u⟩) nx w w'
  unfold mxU
  obtain ⟨z, hz⟩ : ∃ z, (if xu < u then u else xu) = z := ⟨_, rfl⟩
  rw [hz]
  have HZ := Lib.hid hz
  have HSZ := Lib.hid (HS.out z)
  clear h hl ha hr hx hn e hz HS hcp hkl
  go_enter Try.func14, Try.ntmps14
  go_wp2_with fail
  refine HA.out.mono ?_; rintro e w1 ⟨rfl, hb1⟩
  have hb2 : Below w.heap.size w (w1.alloc (.cells #[.int .i64 xm, .int .i64 xc] 30)) := hb1.alloc hb1.size _
  have HFF := Lib.hid (HF.out _ hb2)
  have HB2 := Lib.hid hb2
  clear hb1 hb2 HF HA
  go_wp2_with fail
  refine HFF.out.mono ?_; rintro e w2 ⟨rfl, rfl⟩
  simp only [whereR]
  have H2 := HH.out.below HB2.out
  have c0 := H2.c0
  obtain ⟨_, _, _, r3⟩ := H2.cells rfl HX.out
  simp only at r3
  have rf := row_frozen H2.row (k * 4 + 3)
  have HFIN := Lib.hid (HSZ.out _ HB2.out).drew
  clear H2 HFF HB2 HSZ HH HX
  go_wp2_with fail
  go_region
  rw [HZ.out]
  go_wp2
  go_ret
  go_light
  exact ⟨rfl, HFIN.out⟩
theorem lr_renew_bad (b : Nat) (v : Value) (L : List Le) (nx id now u r : Int) (k : Nat) (bb : Bool) (w : World) (h : Lr w b v L nx) (hl : L.length ≤ 1000) (ha : FindAns L id k bb) (hr : Rise L) (he : (atA L now k bb).2.2 = r) (hr0 : (r != 0) = true) :
    Calls Try.prog 14 #[.pointer (some ⟨b, 0, none⟩), .int .i64 id, .int .i64 now, .int .i64 u] w fun e w' => e = .returned (.int .i64 r) ∧ StR b v L nx w w' := by
  have HA := Lib.hid (lr_At_any b v L nx id now k bb w h hl ha hr)
  rw [he] at HA
  have HH := Lib.hid h
  generalize (atA L now k bb).1 = xm at *
  generalize (atA L now k bb).2.1 = xc at *
  clear h hl ha hr he
  go_enter Try.func14, Try.ntmps14
  go_wp2_with fail
  refine HA.out.mono ?_; rintro e w1 ⟨rfl, hb1⟩
  have hb2 : Below w.heap.size w (w1.alloc (.cells #[.int .i64 xm, .int .i64 xc] 30)) := hb1.alloc hb1.size _
  have HFIN := Lib.hid (StR.of_below HH.out hb2)
  clear hb1 hb2 HH HA
  go_wp2
  go_ret
  exact ⟨rfl, HFIN.out⟩
theorem lr_renew_any (b : Nat) (v : Value) (L : List Le) (nx id now u : Int) (k : Nat) (bb : Bool) (w : World) (h : Lr w b v L nx) (hl : L.length ≤ 1000) (ha : FindAns L id k bb) (hr : Rise L) :
    Calls Try.prog 14 #[.pointer (some ⟨b, 0, none⟩), .int .i64 id, .int .i64 now, .int .i64 u] w fun e w' => e = .returned (.int .i64 (renE L now u k bb).1) ∧ StR b v (renE L now u k bb).2 nx w w' := by
  cases bb with
  | false => exact lr_renew_bad b v L nx id now u 7 k false w h hl ha hr rfl (by decide)
  | true =>
    obtain ⟨x, hx, _⟩ := ha.2.1 rfl
    by_cases hn : now < x.u
    · have e : renE L now u k true = (0, renU L k x u) := by unfold renE; rw [hx]; simp [hn]
      rw [e]
      exact lr_renew_ok b v L nx id now u k x w h hl ha hr hx hn
    · have e : renE L now u k true = (19, L) := by unfold renE; rw [hx]; simp [hn]
      rw [e]
      exact lr_renew_bad b v L nx id now u 19 k true w h hl ha hr (by unfold atA; rw [hx]; simp [hn]) (by decide)
end Go.Proofs.Ytacchkokbibeaaa
