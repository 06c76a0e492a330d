/- Stage 6: PacketApart (written by gen/s6b.py). -/
import Derived.Test.YtfllemmmgmdliaaS6A
import Derived.Test.YtfllemmmgmdliaaPkArg
set_option linter.unusedSimpArgs false
set_option linter.unusedVariables false
namespace Go.Proofs.Ytfllemmmgmdliaa
open Go.ChangeShapes Go.WideShapes Go.ChangeAt Go.RowKit Go.Joins

theorem if8 {α : Type} {a b c d e f g h : Prop} [Decidable a] [Decidable b] [Decidable c] [Decidable d] [Decidable e] [Decidable f] [Decidable g] [Decidable h] {x y : α} (k : ¬(a ∧ b ∧ c ∧ d ∧ e ∧ f ∧ g ∧ h)) :
    (if a then if b then if c then if d then if e then if f then if g then if h then x else y else y else y else y else y else y else y else y) = y := by
  by_cases h0 : a
  · by_cases h1 : b
    · by_cases h2 : c
      · by_cases h3 : d
        · by_cases h4 : e
          · by_cases h5 : f
            · by_cases h6 : g
              · by_cases h7 : h
                · exact absurd ⟨h0, h1, h2, h3, h4, h5, h6, h7⟩ k
                · simp [h7]
              · simp [h6]
            · simp [h5]
          · simp [h4]
        · simp [h3]
      · simp [h2]
    · simp [h1]
  · simp [h0]
set_option maxRecDepth 100000 in
set_option maxHeartbeats 4000000 in
theorem apart_no (l m s d r o v t l' m' s' d' r' o' v' t' : Int) (w : World) (o0 : 0 ≤ o ∧ o < 18446744073709551616) (v0 : 0 ≤ v ∧ v < 18446744073709551616) (t0 : 0 ≤ t ∧ t < 18446744073709551616) (o0' : 0 ≤ o' ∧ o' < 18446744073709551616) (v0' : 0 ≤ v' ∧ v' < 18446744073709551616) (t0' : 0 ≤ t' ∧ t' < 18446744073709551616) (h : isP l m s d r = false ∨ isP l' m' s' d' r' = false) :
    Calls Try.prog 6 #[pkV l m s d r o v t, pkV l' m' s' d' r' o' v' t'] w fun e w' => e = .returned (.bool true) ∧ Below w.heap.size w w' := by
  have X0 := Lib.hid ((Box8.new w l m s d r o v t).alloc (pkO l' m' s' d' r' o' v' t'))
  have X1 := Lib.hid (Box8.new (w.alloc (pkO l m s d r o v t)) l' m' s' d' r' o' v' t')
  have HB0 : Hid (Below w.heap.size w ((w.alloc (pkO l m s d r o v t)).alloc (pkO l' m' s' d' r' o' v' t'))) := Lib.hid (by (repeat' (first | (with_reducible exact Below.refl _ _) | (with_reducible assumption) | (with_reducible refine Below.trans ?_ (Below.mono (by with_reducible assumption) ?_)) | (with_reducible refine Below.alloc ?_ ?_ _) | (with_reducible refine Below.setCell ?_ ?_ _) | (with_reducible refine below_drewN ?_ _) | (with_reducible refine Below.drew ?_) | go_size)))
  cases h1 : isP l m s d r
  · cases h2 : isP l' m' s' d' r'
    · clear h
      have C1 := Lib.hid (fun w => pk_enc_no l m s d r o v t w h1)
      have C2 := Lib.hid (fun w => pk_enc_no l' m' s' d' r' o' v' t' w h2)
      go_enter Try.func6, Try.ntmps6
      go_wp2_with fail
      refine (C1.out _).mono ?_; rintro e w1 ⟨rfl, hb1⟩
      have X3 := X1.out.below hb1 (by simp)
      have HB1 := HB0.out.trans (hb1.mono HB0.out.size)
      rw [World.size_alloc] at X3
      have HX3 := Lib.hid X3
      have c0 := X3.c0
      have c1 := X3.c1
      have c2 := X3.c2
      have c3 := X3.c3
      have c4 := X3.c4
      have c5 := X3.c5
      have c6 := X3.c6
      have c7 := X3.c7
      clear hb1 X0 X1 X3
      go_wp2_with fail
      refine (C2.out _).mono ?_; rintro e w2 ⟨rfl, hb2⟩
      have HB2 := HB1.trans (hb2.mono HB1.size)
      have z2 := HB2.size
      clear hb2 c0 c1 c2 c3 c4 c5 c6 c7
      go_wp2_with (go_at_call 10; refine (known6 _).mono ?_; rintro e w9 ⟨rfl, hb9⟩; obtain ⟨hc9, hf9⟩ := bcell hb9; have hz9 := hb9.size; (try simp only [World.size_alloc, World.size_setCell, World.heap_drewN] at hb9 hc9 hf9 hz9); (try have ha09 : w.heap.size < w9.heap.size := by omega); (try have ha19 : w.heap.size + 1 < w9.heap.size := by omega); (try have ha29 : w.heap.size + 2 < w9.heap.size := by omega); (try have hal9 : w.heap.size ≤ w9.heap.size := by omega); (try have ham9 : w.heap.size < w9.heap.size + 2 := by omega))
      go_ret
      go_light
      exact ⟨rfl, by (repeat' (first | (with_reducible exact Below.refl _ _) | (with_reducible assumption) | (with_reducible refine Below.trans ?_ (Below.mono (by with_reducible assumption) ?_)) | (with_reducible refine Below.alloc ?_ ?_ _) | (with_reducible refine Below.setCell ?_ ?_ _) | (with_reducible refine below_drewN ?_ _) | (with_reducible refine Below.drew ?_) | go_size))⟩
    · clear h
      have C1 := Lib.hid (fun w => pk_enc_no l m s d r o v t w h1)
      have C2 := Lib.hid (fun w => pk_enc_yes l' m' s' d' r' o' v' t' w h2 o0'.1 o0'.2 v0'.1 v0'.2 t0'.1 t0'.2)
      go_enter Try.func6, Try.ntmps6
      go_wp2_with fail
      refine (C1.out _).mono ?_; rintro e w1 ⟨rfl, hb1⟩
      have X3 := X1.out.below hb1 (by simp)
      have HB1 := HB0.out.trans (hb1.mono HB0.out.size)
      rw [World.size_alloc] at X3
      have c0 := X3.c0
      have c1 := X3.c1
      have c2 := X3.c2
      have c3 := X3.c3
      have c4 := X3.c4
      have c5 := X3.c5
      have c6 := X3.c6
      have c7 := X3.c7
      clear hb1 X0 X1 X3
      go_wp2_with fail
      refine (C2.out _).mono ?_; rintro e w2 ⟨g, rfl, _, _, hb2⟩
      have HB2 := HB1.trans (hb2.mono HB1.size)
      have z2 := HB2.size
      clear hb2 c0 c1 c2 c3 c4 c5 c6 c7
      go_wp2_with (go_at_call 10; refine (known6 _).mono ?_; rintro e w9 ⟨rfl, hb9⟩; obtain ⟨hc9, hf9⟩ := bcell hb9; have hz9 := hb9.size; (try simp only [World.size_alloc, World.size_setCell, World.heap_drewN] at hb9 hc9 hf9 hz9); (try have ha09 : w.heap.size < w9.heap.size := by omega); (try have ha19 : w.heap.size + 1 < w9.heap.size := by omega); (try have ha29 : w.heap.size + 2 < w9.heap.size := by omega); (try have hal9 : w.heap.size ≤ w9.heap.size := by omega); (try have ham9 : w.heap.size < w9.heap.size + 2 := by omega))
      go_ret
      go_light
      exact ⟨rfl, by (repeat' (first | (with_reducible exact Below.refl _ _) | (with_reducible assumption) | (with_reducible refine Below.trans ?_ (Below.mono (by with_reducible assumption) ?_)) | (with_reducible refine Below.alloc ?_ ?_ _) | (with_reducible refine Below.setCell ?_ ?_ _) | (with_reducible refine below_drewN ?_ _) | (with_reducible refine Below.drew ?_) | go_size))⟩
  · have h2 : isP l' m' s' d' r' = false := by rcases h with h | h <;> simp_all
    clear h
    have C1 := Lib.hid (fun w => pk_enc_yes l m s d r o v t w h1 o0.1 o0.2 v0.1 v0.2 t0.1 t0.2)
    have C2 := Lib.hid (fun w => pk_enc_no l' m' s' d' r' o' v' t' w h2)
    go_enter Try.func6, Try.ntmps6
    go_wp2_with fail
    refine (C1.out _).mono ?_; rintro e w1 ⟨g, rfl, _, _, hb1⟩
    have X3 := X1.out.below hb1 (by simp)
    have HB1 := HB0.out.trans (hb1.mono HB0.out.size)
    rw [World.size_alloc] at X3
    have c0 := X3.c0
    have c1 := X3.c1
    have c2 := X3.c2
    have c3 := X3.c3
    have c4 := X3.c4
    have c5 := X3.c5
    have c6 := X3.c6
    have c7 := X3.c7
    clear hb1 X0 X1 X3
    go_wp2_with fail
    refine (C2.out _).mono ?_; rintro e w2 ⟨rfl, hb2⟩
    have HB2 := HB1.trans (hb2.mono HB1.size)
    have z2 := HB2.size
    clear hb2 c0 c1 c2 c3 c4 c5 c6 c7
    go_wp2_with (go_at_call 10; refine (known6 _).mono ?_; rintro e w9 ⟨rfl, hb9⟩; obtain ⟨hc9, hf9⟩ := bcell hb9; have hz9 := hb9.size; (try simp only [World.size_alloc, World.size_setCell, World.heap_drewN] at hb9 hc9 hf9 hz9); (try have ha09 : w.heap.size < w9.heap.size := by omega); (try have ha19 : w.heap.size + 1 < w9.heap.size := by omega); (try have ha29 : w.heap.size + 2 < w9.heap.size := by omega); (try have hal9 : w.heap.size ≤ w9.heap.size := by omega); (try have ham9 : w.heap.size < w9.heap.size + 2 := by omega))
    go_ret
    go_light
    exact ⟨rfl, by (repeat' (first | (with_reducible exact Below.refl _ _) | (with_reducible assumption) | (with_reducible refine Below.trans ?_ (Below.mono (by with_reducible assumption) ?_)) | (with_reducible refine Below.alloc ?_ ?_ _) | (with_reducible refine Below.setCell ?_ ?_ _) | (with_reducible refine below_drewN ?_ _) | (with_reducible refine Below.drew ?_) | go_size))⟩
set_option maxRecDepth 100000 in
set_option maxHeartbeats 8000000 in
theorem apart_yes (l m s d r o v t l' m' s' d' r' o' v' t' : Int) (w : World) (o0 : 0 ≤ o ∧ o < 18446744073709551616) (v0 : 0 ≤ v ∧ v < 18446744073709551616) (t0 : 0 ≤ t ∧ t < 18446744073709551616) (o0' : 0 ≤ o' ∧ o' < 18446744073709551616) (v0' : 0 ≤ v' ∧ v' < 18446744073709551616) (t0' : 0 ≤ t' ∧ t' < 18446744073709551616) (h1 : isP l m s d r = true) (h2 : isP l' m' s' d' r' = true) :
    Calls Try.prog 6 #[pkV l m s d r o v t, pkV l' m' s' d' r' o' v' t'] w fun e w' => e = .returned (.bool true) ∧ Below w.heap.size w w' := by
  have X0 := Lib.hid ((Box8.new w l m s d r o v t).alloc (pkO l' m' s' d' r' o' v' t'))
  have X1 := Lib.hid (Box8.new (w.alloc (pkO l m s d r o v t)) l' m' s' d' r' o' v' t')
  have HB0 : Hid (Below w.heap.size w ((w.alloc (pkO l m s d r o v t)).alloc (pkO l' m' s' d' r' o' v' t'))) := Lib.hid (by (repeat' (first | (with_reducible exact Below.refl _ _) | (with_reducible assumption) | (with_reducible refine Below.trans ?_ (Below.mono (by with_reducible assumption) ?_)) | (with_reducible refine Below.alloc ?_ ?_ _) | (with_reducible refine Below.setCell ?_ ?_ _) | (with_reducible refine below_drewN ?_ _) | (with_reducible refine Below.drew ?_) | go_size)))
  have C1 := Lib.hid (fun w => pk_enc_yes l m s d r o v t w h1 o0.1 o0.2 v0.1 v0.2 t0.1 t0.2)
  have C2 := Lib.hid (fun w => pk_enc_yes l' m' s' d' r' o' v' t' w h2 o0'.1 o0'.2 v0'.1 v0'.2 t0'.1 t0'.2)
  have HI := Lib.hid (encF_inj h1 h2 o0 v0 t0 o0' v0' t0')
  clear h1 h2 o0 v0 t0 o0' v0' t0'
  go_enter Try.func6, Try.ntmps6
  go_wp2_with fail
  refine (C1.out _).mono ?_; rintro e w1 ⟨g, rfl, hg, hU, hb1⟩
  have X2 := X0.out.below hb1 (by simp; omega)
  have X3 := X1.out.below hb1 (by simp)
  have HB1 := HB0.out.trans (hb1.mono HB0.out.size)
  rw [World.size_alloc] at X3
  have HX2 := Lib.hid X2
  have HX3 := Lib.hid X3
  have c0 := X3.c0
  have c1 := X3.c1
  have c2 := X3.c2
  have c3 := X3.c3
  have c4 := X3.c4
  have c5 := X3.c5
  have c6 := X3.c6
  have c7 := X3.c7
  have HU := Lib.hid hU
  clear hb1 X0 X1 X2 X3 hg hU
  go_wp2_with fail
  refine (C2.out _).mono ?_; rintro e w2 ⟨g', rfl, hg', hU', hb2⟩
  have X2 := HX2.out.below hb2 HX2.out.lt
  have X3 := HX3.out.below hb2 HX3.out.lt
  have U1 := HU.out.below hb2 HU.out.lt
  have HB2 := HB1.trans (hb2.mono HB1.size)
  have z2 := HB2.size
  have CS := same6 (some ⟨g, 0, none⟩) 48 48 (encF l m s d r o v t) (some ⟨g', 0, none⟩) 48 48 (encF l' m' s' d' r' o' v' t')
  have HCS := Lib.hid CS
  have HU := Lib.hid U1
  have HU' := Lib.hid hU'
  clear hb2 c0 c1 c2 c3 c4 c5 c6 c7 hU' hg' HX2 HX3 CS U1 C1 C2
  by_cases he : l = l' ∧ m = m' ∧ s = s' ∧ d = d' ∧ r = r' ∧ o = o' ∧ v = v' ∧ t = t'
  · obtain ⟨rfl, rfl, rfl, rfl, rfl, rfl, rfl, rfl⟩ := he
    have hq : Hid (eqB 48 (encF l m s d r o v t) 48 (encF l m s d r o v t) = true) := Lib.hid (by simp [eqB, (eqK_iff (encF l m s d r o v t) (encF l m s d r o v t) 48).2 (fun _ _ => rfl)])
    clear HI
    go_wp2_with fail
    refine wp_region_held_drew (S := fun w' => w'.cell? ⟨w.heap.size, 0, none⟩ = some (.int .i64 l) ∧ w'.cell? ⟨w.heap.size, 1, none⟩ = some (.int .i64 m) ∧ w'.cell? ⟨w.heap.size, 2, none⟩ = some (.int .i64 s) ∧ w'.cell? ⟨w.heap.size, 3, none⟩ = some (.int .i64 d) ∧ w'.cell? ⟨w.heap.size, 4, none⟩ = some (.int .i64 r) ∧ w'.cell? ⟨w.heap.size, 5, none⟩ = some (.int .u64 o) ∧ w'.cell? ⟨w.heap.size, 6, none⟩ = some (.int .u64 v) ∧ w'.cell? ⟨w.heap.size, 7, none⟩ = some (.int .u64 t) ∧ w'.cell? ⟨w.heap.size + 1, 0, none⟩ = some (.int .i64 l) ∧ w'.cell? ⟨w.heap.size + 1, 1, none⟩ = some (.int .i64 m) ∧ w'.cell? ⟨w.heap.size + 1, 2, none⟩ = some (.int .i64 s) ∧ w'.cell? ⟨w.heap.size + 1, 3, none⟩ = some (.int .i64 d) ∧ w'.cell? ⟨w.heap.size + 1, 4, none⟩ = some (.int .i64 r) ∧ w'.cell? ⟨w.heap.size + 1, 5, none⟩ = some (.int .u64 o) ∧ w'.cell? ⟨w.heap.size + 1, 6, none⟩ = some (.int .u64 v) ∧ w'.cell? ⟨w.heap.size + 1, 7, none⟩ = some (.int .u64 t)) (by kernel_rfl) ?_ (fun hHeld => ?_)
    · exact ⟨X2.c0, X2.c1, X2.c2, X2.c3, X2.c4, X2.c5, X2.c6, X2.c7, X3.c0, X3.c1, X3.c2, X3.c3, X3.c4, X3.c5, X3.c6, X3.c7⟩
    have X2d := X2.drew
    have X3d := X3.drew
    have HB2d := HB2.drew
    have U2d := HU.out.drew
    have U2d' := HU'.out.drew
    generalize w2.drew = V at *
    clear X2 X3 HB2 HU HU'
    refine wpAnyH_take (i := 0) (v := ?_) rfl (by kernel_rfl) (by kernel_rfl) (by kernel_rfl) (fun _ _ _ h => h) (Or.inl ⟨by rfl, ?_⟩) (by assumption) ?_
    rotate_left
    · intro w' hSw; (try dsimp only at hSw); go_simp; (try with_reducible rfl)
    (try simp only [Act.put, List.setIfInBounds_toArray, List.set_cons_zero, List.set_cons_succ, List.getElem_toArray, List.getElem_cons_succ, List.getElem_cons_zero])
    refine wpAnyH_take (i := 1) (v := ?_) rfl (by kernel_rfl) (by kernel_rfl) (by kernel_rfl) (fun _ _ _ h => h) (Or.inl ⟨by rfl, ?_⟩) (by assumption) ?_
    rotate_left
    · intro w' hSw; (try dsimp only at hSw); go_simp; (try with_reducible rfl)
    (try simp only [Act.put, List.setIfInBounds_toArray, List.set_cons_zero, List.set_cons_succ, List.getElem_toArray, List.getElem_cons_succ, List.getElem_cons_zero])
    refine wpAnyH_take (i := 3) (v := ?_) rfl (by kernel_rfl) (by kernel_rfl) (by kernel_rfl) (fun _ _ _ h => h) (Or.inl ⟨by rfl, ?_⟩) (by assumption) ?_
    rotate_left
    · intro w' hSw; (try dsimp only at hSw); go_simp; (try with_reducible rfl)
    (try simp only [Act.put, List.setIfInBounds_toArray, List.set_cons_zero, List.set_cons_succ, List.getElem_toArray, List.getElem_cons_succ, List.getElem_cons_zero])
    refine wpAnyH_take (i := 4) (v := ?_) rfl (by kernel_rfl) (by kernel_rfl) (by kernel_rfl) (fun _ _ _ h => h) (Or.inl ⟨by rfl, ?_⟩) (by assumption) ?_
    rotate_left
    · intro w' hSw; (try dsimp only at hSw); go_simp; (try with_reducible rfl)
    (try simp only [Act.put, List.setIfInBounds_toArray, List.set_cons_zero, List.set_cons_succ, List.getElem_toArray, List.getElem_cons_succ, List.getElem_cons_zero])
    refine wpAnyH_take (i := 5) (v := ?_) rfl (by kernel_rfl) (by kernel_rfl) (by kernel_rfl) (fun _ _ _ h => h) (Or.inl ⟨by rfl, ?_⟩) (by assumption) ?_
    rotate_left
    · intro w' hSw; (try dsimp only at hSw); go_simp; (try with_reducible rfl)
    (try simp only [Act.put, List.setIfInBounds_toArray, List.set_cons_zero, List.set_cons_succ, List.getElem_toArray, List.getElem_cons_succ, List.getElem_cons_zero])
    refine wpAnyH_ready (rs := [2]) (by kernel_rfl) (by simp) ?_
    refine AllReadyH.cons rfl (fun K hK => ?_) AllReadyH.nil
    go_simp
    (go_at_call 9; refine (HCS.out V (by omega) (by omega) U2d.bytes U2d'.bytes).mono ?_; rw [hq.out]; rintro e W3 ⟨rfl, nq, rfl⟩)
    (try dsimp only)
    refine hK.out _ _ ?_ (fun hHeld => ?_)
    · exact ⟨X2d.c0, X2d.c1, X2d.c2, X2d.c3, X2d.c4, X2d.c5, X2d.c6, X2d.c7, X3d.c0, X3d.c1, X3d.c2, X3d.c3, X3d.c4, X3d.c5, X3d.c6, X3d.c7⟩
    clear hK K
    (try simp only [Act.put, List.setIfInBounds_toArray, List.set_cons_zero, List.set_cons_succ, List.getElem_toArray, List.getElem_cons_succ, List.getElem_cons_zero])
    refine wpAnyH_take (i := 6) (v := ?_) rfl (by kernel_rfl) (by kernel_rfl) (by kernel_rfl) (fun _ _ _ h => h) (Or.inl ⟨by rfl, ?_⟩) (by assumption) ?_
    rotate_left
    · intro w' hSw; (try dsimp only at hSw); go_simp; (try with_reducible rfl)
    (try simp only [Act.put, List.setIfInBounds_toArray, List.set_cons_zero, List.set_cons_succ, List.getElem_toArray, List.getElem_cons_succ, List.getElem_cons_zero])
    refine wpAnyH_take (i := 7) (v := ?_) rfl (by kernel_rfl) (by kernel_rfl) (by kernel_rfl) (fun _ _ _ h => h) (Or.inl ⟨by rfl, ?_⟩) (by assumption) ?_
    rotate_left
    · intro w' hSw; (try dsimp only at hSw); go_simp; (try with_reducible rfl)
    (try simp only [Act.put, List.setIfInBounds_toArray, List.set_cons_zero, List.set_cons_succ, List.getElem_toArray, List.getElem_cons_succ, List.getElem_cons_zero])
    refine wpAnyH_ready (rs := [8]) (by kernel_rfl) (by simp) ?_
    refine AllReadyH.cons rfl (fun K hK => ?_) AllReadyH.nil
    go_simp
    (go_at_call 10; refine (known6 _).mono ?_; rintro e W4 ⟨rfl, hb4⟩)
    have X4 := (X2d.drewN nq).below hb4 X2d.lt
    have X5 := (X3d.drewN nq).below hb4 X3d.lt
    have HB4 := (below_drewN HB2d nq).trans (hb4.mono HB2d.size)
    (try dsimp only)
    refine hK.out _ _ ?_ (fun hHeld => ?_)
    · exact ⟨X4.c0, X4.c1, X4.c2, X4.c3, X4.c4, X4.c5, X4.c6, X4.c7, X5.c0, X5.c1, X5.c2, X5.c3, X5.c4, X5.c5, X5.c6, X5.c7⟩
    clear hK K
    (try simp only [Act.put, List.setIfInBounds_toArray, List.set_cons_zero, List.set_cons_succ, List.getElem_toArray, List.getElem_cons_succ, List.getElem_cons_zero])
    refine wpAnyH_take (i := 9) (v := ?_) rfl (by kernel_rfl) (by kernel_rfl) (by kernel_rfl) (fun _ _ _ h => h) (Or.inl ⟨by rfl, ?_⟩) (by assumption) ?_
    rotate_left
    · intro w' hSw; (try dsimp only at hSw); go_simp; (try with_reducible rfl)
    (try simp only [Act.put, List.setIfInBounds_toArray, List.set_cons_zero, List.set_cons_succ, List.getElem_toArray, List.getElem_cons_succ, List.getElem_cons_zero])
    refine wpAnyH_take (i := 10) (v := ?_) rfl (by kernel_rfl) (by kernel_rfl) (by kernel_rfl) (fun _ _ _ h => h) (Or.inl ⟨by rfl, ?_⟩) (by assumption) ?_
    rotate_left
    · intro w' hSw; (try dsimp only at hSw); go_simp; (try with_reducible rfl)
    (try simp only [Act.put, List.setIfInBounds_toArray, List.set_cons_zero, List.set_cons_succ, List.getElem_toArray, List.getElem_cons_succ, List.getElem_cons_zero])
    refine wpAnyH_done (by kernel_rfl) ?_ _
    clear X4 X5 X2d X3d hb4 U2d U2d'
    go_wp2
    go_ret
    exact ⟨rfl, HB4⟩
  · have hq : Hid (eqB 48 (encF l m s d r o v t) 48 (encF l' m' s' d' r' o' v' t') = false) := Lib.hid (by
      cases hk : eqK (encF l m s d r o v t) (encF l' m' s' d' r' o' v' t') 48
      · simp [eqB, hk]
      · exact absurd (HI.out ((eqK_iff _ _ _).1 hk)) he)
    go_wp2_with fail
    refine wp_region_held_drew (S := fun w' => w'.cell? ⟨w.heap.size, 0, none⟩ = some (.int .i64 l) ∧ w'.cell? ⟨w.heap.size, 1, none⟩ = some (.int .i64 m) ∧ w'.cell? ⟨w.heap.size, 2, none⟩ = some (.int .i64 s) ∧ w'.cell? ⟨w.heap.size, 3, none⟩ = some (.int .i64 d) ∧ w'.cell? ⟨w.heap.size, 4, none⟩ = some (.int .i64 r) ∧ w'.cell? ⟨w.heap.size, 5, none⟩ = some (.int .u64 o) ∧ w'.cell? ⟨w.heap.size, 6, none⟩ = some (.int .u64 v) ∧ w'.cell? ⟨w.heap.size, 7, none⟩ = some (.int .u64 t) ∧ w'.cell? ⟨w.heap.size + 1, 0, none⟩ = some (.int .i64 l') ∧ w'.cell? ⟨w.heap.size + 1, 1, none⟩ = some (.int .i64 m') ∧ w'.cell? ⟨w.heap.size + 1, 2, none⟩ = some (.int .i64 s') ∧ w'.cell? ⟨w.heap.size + 1, 3, none⟩ = some (.int .i64 d') ∧ w'.cell? ⟨w.heap.size + 1, 4, none⟩ = some (.int .i64 r') ∧ w'.cell? ⟨w.heap.size + 1, 5, none⟩ = some (.int .u64 o') ∧ w'.cell? ⟨w.heap.size + 1, 6, none⟩ = some (.int .u64 v') ∧ w'.cell? ⟨w.heap.size + 1, 7, none⟩ = some (.int .u64 t')) (by kernel_rfl) ?_ (fun hHeld => ?_)
    · exact ⟨X2.c0, X2.c1, X2.c2, X2.c3, X2.c4, X2.c5, X2.c6, X2.c7, X3.c0, X3.c1, X3.c2, X3.c3, X3.c4, X3.c5, X3.c6, X3.c7⟩
    have X2d := X2.drew
    have X3d := X3.drew
    have HB2d := HB2.drew
    have U2d := HU.out.drew
    have U2d' := HU'.out.drew
    generalize w2.drew = V at *
    clear X2 X3 HB2 HU HU'
    refine wpAnyH_take (i := 0) (v := ?_) rfl (by kernel_rfl) (by kernel_rfl) (by kernel_rfl) (fun _ _ _ h => h) (Or.inl ⟨by rfl, ?_⟩) (by assumption) ?_
    rotate_left
    · intro w' hSw; (try dsimp only at hSw); go_simp; (try with_reducible rfl)
    (try simp only [Act.put, List.setIfInBounds_toArray, List.set_cons_zero, List.set_cons_succ, List.getElem_toArray, List.getElem_cons_succ, List.getElem_cons_zero])
    refine wpAnyH_take (i := 1) (v := ?_) rfl (by kernel_rfl) (by kernel_rfl) (by kernel_rfl) (fun _ _ _ h => h) (Or.inl ⟨by rfl, ?_⟩) (by assumption) ?_
    rotate_left
    · intro w' hSw; (try dsimp only at hSw); go_simp; (try with_reducible rfl)
    (try simp only [Act.put, List.setIfInBounds_toArray, List.set_cons_zero, List.set_cons_succ, List.getElem_toArray, List.getElem_cons_succ, List.getElem_cons_zero])
    refine wpAnyH_take (i := 3) (v := ?_) rfl (by kernel_rfl) (by kernel_rfl) (by kernel_rfl) (fun _ _ _ h => h) (Or.inl ⟨by rfl, ?_⟩) (by assumption) ?_
    rotate_left
    · intro w' hSw; (try dsimp only at hSw); go_simp; (try with_reducible rfl)
    (try simp only [Act.put, List.setIfInBounds_toArray, List.set_cons_zero, List.set_cons_succ, List.getElem_toArray, List.getElem_cons_succ, List.getElem_cons_zero])
    refine wpAnyH_take (i := 4) (v := ?_) rfl (by kernel_rfl) (by kernel_rfl) (by kernel_rfl) (fun _ _ _ h => h) (Or.inl ⟨by rfl, ?_⟩) (by assumption) ?_
    rotate_left
    · intro w' hSw; (try dsimp only at hSw); go_simp; (try with_reducible rfl)
    (try simp only [Act.put, List.setIfInBounds_toArray, List.set_cons_zero, List.set_cons_succ, List.getElem_toArray, List.getElem_cons_succ, List.getElem_cons_zero])
    refine wpAnyH_take (i := 5) (v := .bool false) rfl (by kernel_rfl) (by kernel_rfl) (by kernel_rfl) (fun _ _ _ h => h) (Or.inl ⟨by rfl, ?_⟩) (by assumption) ?_
    · intro w' hSw; (try dsimp only at hSw); go_simp; first | (exact if8 he) | (exact fun a b c d e f g h => he ⟨a, b, c, d, e, f, g, h⟩)
    (try simp only [Act.put, List.setIfInBounds_toArray, List.set_cons_zero, List.set_cons_succ, List.getElem_toArray, List.getElem_cons_succ, List.getElem_cons_zero])
    refine wpAnyH_ready (rs := [2]) (by kernel_rfl) (by simp) ?_
    refine AllReadyH.cons rfl (fun K hK => ?_) AllReadyH.nil
    go_simp
    (go_at_call 9; refine (HCS.out V (by omega) (by omega) U2d.bytes U2d'.bytes).mono ?_; rw [hq.out]; rintro e W3 ⟨rfl, nq, rfl⟩)
    (try dsimp only)
    refine hK.out _ _ ?_ (fun hHeld => ?_)
    · exact ⟨X2d.c0, X2d.c1, X2d.c2, X2d.c3, X2d.c4, X2d.c5, X2d.c6, X2d.c7, X3d.c0, X3d.c1, X3d.c2, X3d.c3, X3d.c4, X3d.c5, X3d.c6, X3d.c7⟩
    clear hK K
    (try simp only [Act.put, List.setIfInBounds_toArray, List.set_cons_zero, List.set_cons_succ, List.getElem_toArray, List.getElem_cons_succ, List.getElem_cons_zero])
    refine wpAnyH_take (i := 6) (v := ?_) rfl (by kernel_rfl) (by kernel_rfl) (by kernel_rfl) (fun _ _ _ h => h) (Or.inl ⟨by rfl, ?_⟩) (by assumption) ?_
    rotate_left
    · intro w' hSw; (try dsimp only at hSw); go_simp; (try with_reducible rfl)
    (try simp only [Act.put, List.setIfInBounds_toArray, List.set_cons_zero, List.set_cons_succ, List.getElem_toArray, List.getElem_cons_succ, List.getElem_cons_zero])
    refine wpAnyH_take (i := 7) (v := ?_) rfl (by kernel_rfl) (by kernel_rfl) (by kernel_rfl) (fun _ _ _ h => h) (Or.inl ⟨by rfl, ?_⟩) (by assumption) ?_
    rotate_left
    · intro w' hSw; (try dsimp only at hSw); go_simp; (try with_reducible rfl)
    (try simp only [Act.put, List.setIfInBounds_toArray, List.set_cons_zero, List.set_cons_succ, List.getElem_toArray, List.getElem_cons_succ, List.getElem_cons_zero])
    refine wpAnyH_ready (rs := [8]) (by kernel_rfl) (by simp) ?_
    refine AllReadyH.cons rfl (fun K hK => ?_) AllReadyH.nil
    go_simp
    (go_at_call 10; refine (known6 _).mono ?_; rintro e W4 ⟨rfl, hb4⟩)
    have X4 := (X2d.drewN nq).below hb4 X2d.lt
    have X5 := (X3d.drewN nq).below hb4 X3d.lt
    have HB4 := (below_drewN HB2d nq).trans (hb4.mono HB2d.size)
    (try dsimp only)
    refine hK.out _ _ ?_ (fun hHeld => ?_)
    · exact ⟨X4.c0, X4.c1, X4.c2, X4.c3, X4.c4, X4.c5, X4.c6, X4.c7, X5.c0, X5.c1, X5.c2, X5.c3, X5.c4, X5.c5, X5.c6, X5.c7⟩
    clear hK K
    (try simp only [Act.put, List.setIfInBounds_toArray, List.set_cons_zero, List.set_cons_succ, List.getElem_toArray, List.getElem_cons_succ, List.getElem_cons_zero])
    refine wpAnyH_take (i := 9) (v := ?_) rfl (by kernel_rfl) (by kernel_rfl) (by kernel_rfl) (fun _ _ _ h => h) (Or.inl ⟨by rfl, ?_⟩) (by assumption) ?_
    rotate_left
    · intro w' hSw; (try dsimp only at hSw); go_simp; (try with_reducible rfl)
    (try simp only [Act.put, List.setIfInBounds_toArray, List.set_cons_zero, List.set_cons_succ, List.getElem_toArray, List.getElem_cons_succ, List.getElem_cons_zero])
    refine wpAnyH_take (i := 10) (v := ?_) rfl (by kernel_rfl) (by kernel_rfl) (by kernel_rfl) (fun _ _ _ h => h) (Or.inl ⟨by rfl, ?_⟩) (by assumption) ?_
    rotate_left
    · intro w' hSw; (try dsimp only at hSw); go_simp; (try with_reducible rfl)
    (try simp only [Act.put, List.setIfInBounds_toArray, List.set_cons_zero, List.set_cons_succ, List.getElem_toArray, List.getElem_cons_succ, List.getElem_cons_zero])
    refine wpAnyH_done (by kernel_rfl) ?_ _
    clear X4 X5 X2d X3d hb4 U2d U2d'
    go_wp2
    go_ret
    exact ⟨rfl, HB4⟩
set_option maxRecDepth 100000 in
theorem packetApart_lifted (os : Os) (started : os.Started) (H : Type) (enc : TypeId × Value → H) :
    ReturnsInHanded {} Try.checked os 6 .any (Rows.packetApartSpec.pre6 enc Try.prog Try.f6 Rows.packetApartRow.domain false) (Rows.packetApartSpec.post enc Try.prog Try.f6 false true false false) := by
  refine returnsInHanded_of_change_sized (C := Try.checked) law_own started (by kernel_rfl) Try.func6
    (ChangeSpec.witness6 (enc := enc) (C := Try.checked) false ⟨#[], #[pkV 0 0 0 0 0 0 0 0, pkV 0 0 0 0 0 0 0 0], []⟩ 8 (by kernel_rfl) (by kernel_rfl) (by kernel_rfl) (by kernel_rfl)) ?_
  intro W base args ds gs before hval0 hW hcnd hsz0 _
  have hval : ∀ (j : Nat) t v, Try.f6.params[j]? = some t → args[j]? = some v → Value.okWide Try.prog W .any base t v := hval0
  have hsz : (DataW.weightsEach Try.prog (Try.f6.params.toList ++ Rows.packetApartSpec.plain.varTypes Try.prog) (ds ++ gs)).all (· ≤ reachBytes) = true := hsz0
  have hW' := hW
  obtain ⟨p, q, hA0, hV, rfl, hfz, hnd⟩ := hW
  have hA : DataW.TrodAll enc Try.prog W 0 (fun _ => true) true Try.f6.params.toList args.toList ds p := hA0
  rw [Try.params6] at hA hval hsz
  have hsame : (Rows.packetApartSpec.fn H (ds ++ gs)).results = [.lit (.bool true)] ∧ (Rows.packetApartSpec.fn H (ds ++ gs)).args = ds ∧ (Rows.packetApartSpec.fn H (ds ++ gs)).vars = [] → ∀ W', Below W.heap.size W W' → Rows.packetApartSpec.post enc Try.prog Try.f6 false true false false W args (.bool true) W' :=
    fun h W' hb => law_post (tb := 4) hW' law_laid (by kernel_rfl) rfl Try.underlying4 h.1 h.2.1 rfl h.2.2 hb
  obtain ⟨v0, vs0, d0, ds0, p0, q0, hargs, rfl, rfl, h0, r0⟩ := trodAll_cons hA
  obtain ⟨v1, vs1, d1, ds1, p1, q1, rfl, rfl, rfl, h1, r1⟩ := trodAll_cons r0
  obtain ⟨rfl, rfl, rfl⟩ := trodAll_nil r1
  obtain rfl : args = #[v0, v1] := by cases args; simp_all
  obtain ⟨rfl, rfl⟩ := trodVars_none hV
  have hpost := hsame ⟨rfl, rfl, rfl⟩
  clear hsame hA0 hval0 hsz0
  obtain ⟨l, m, s, d, r, o, v, t, rfl, o0, v0, t0⟩ := open_packet (hval 0 24 v0 rfl rfl) h0
  obtain ⟨l', m', s', d', r', o', v', t', rfl, o0', v0', t0'⟩ := open_packet (hval 1 24 v1 rfl rfl) h1
  by_cases h : isP l m s d r = true ∧ isP l' m' s' d' r' = true
  · exact (apart_yes l m s d r o v t l' m' s' d' r' o' v' t' W o0 v0 t0 o0' v0' t0' h.1 h.2).mono fun e W' ⟨he, hb⟩ => ⟨_, he, hpost W' hb⟩
  · exact (apart_no l m s d r o v t l' m' s' d' r' o' v' t' W o0 v0 t0 o0' v0' t0' (by cases q : isP l m s d r <;> simp_all)).mono fun e W' ⟨he, hb⟩ => ⟨_, he, hpost W' hb⟩
theorem packetApart_holds : Rows.PacketApartSaid :=
  OpenClaim.holds_of_wide 6 Try.f6 rfl rfl rfl rfl rfl rfl rfl ⟨rfl, rfl, rfl, rfl, rfl⟩ rfl rfl rfl rfl rfl (by kernel_rfl) Try.func6 (by kernel_rfl)
    (of_decide_eq_true (by kernel_rfl)) (by unfold Func.isWrapper; first | (rw [if_pos (by decide +kernel)]; kernel_rfl) | (rw [if_neg (by decide +kernel)]; exact ⟨rfl, rfl⟩))
    (fun os started H enc _ => packetApart_lifted os started H enc)
end Go.Proofs.Ytfllemmmgmdliaa
