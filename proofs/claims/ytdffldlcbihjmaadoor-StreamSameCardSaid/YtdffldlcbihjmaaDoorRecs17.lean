/- records, words: two rows of records, two words: whether they are one. -/
import Derived.Test.YtdffldlcbihjmaaDoorRecordsR
import Derived.Test.YtdffldlcbihjmaaDoorWdIs2
set_option linter.unusedSimpArgs false
set_option linter.unusedVariables false
namespace Go.Proofs.YtdffldlcbihjmaaDoor
open Go.RowKit

theorem sameRB_iff {a b : Rc} (ha : isBy a.key) (hb : isBy b.key) : sameRB a.o a.s (strB a.key) a.ml a.ct a.vo a.val a.gone a.tt b.o b.s (strB b.key) b.ml b.ct b.vo b.val b.gone b.tt = true ↔ a = b := by
  obtain ⟨o, s, key, ml, ct, vo, val, gone, tt⟩ := a
  obtain ⟨o', s', key', ml', ct', vo', val', gone', tt'⟩ := b
  simp only [sameRB, sameVB, Bool.and_eq_true, decide_eq_true_eq, Rc.mk.injEq, strB_inj ha hb]
set_option maxRecDepth 100000 in
set_option maxHeartbeats 4000000 in
theorem law_recs (v v' : Value) (L L' : List Mr) (w : World) (h : RowAt w v L) (h' : RowAt w v' L') (ha : ∀ m ∈ L, m.At (fun _ => True) w) (ha' : ∀ m ∈ L', m.At (fun _ => True) w) (hb : ∀ m ∈ L, isBy m.r.val) (hbk : ∀ m ∈ L, isBy m.r.key) (hb' : ∀ m ∈ L', isBy m.r.key ∧ isBy m.r.val) (hl : L.length ≤ 100000) :
    Calls Tryd.prog 57 #[v, v'] w fun e w' => (∃ b, e = .returned (.bool b) ∧ (b = true ↔ L.map Mr.r = L'.map Mr.r)) ∧ Below w.heap.size w w' := by
  obtain ⟨A, c, rfl, hc⟩ := h.ex
  obtain ⟨A', c', rfl, hc'⟩ := h'.ex
  by_cases hll : L'.length = L.length
  rotate_left
  · have t0 : ((L.length : Int) != (L'.length : Int)) = true := by simp only [bne_iff_ne, ne_eq]; omega
    have t0' : (L.length != L'.length) = true := by simp only [bne_iff_ne, ne_eq]; omega
    have HN : Hid (¬ L.map Mr.r = L'.map Mr.r) := Lib.hid (fun q => hll (by have := congrArg List.length q; simpa using this.symm))
    clear h h' hc hc' ha ha' hb hbk hb' hll hl
    go_enter Tryd.func57, Tryd.ntmps57
    go_wp2
    go_ret
    exact ⟨⟨false, rfl, by simp; exact HN.out⟩, Below.refl _ _⟩
  have HC := Lib.hid (And.intro hc hc')
  have HA := Lib.hid (And.intro ha (And.intro ha' (And.intro hb (And.intro hbk hb'))))
  have HLL := Lib.hid hll
  have hni : (L.length : Int) ≤ 100000 := by omega
  rw [hll]
  clear h h' hc hc' ha ha' hb hbk hb' hl hll
  go_enter Tryd.func57, Tryd.ntmps57
  go_wp2
  go_loopw [5] (fun i wr => ∃ k : Nat, k ≤ L.length ∧ i = .int .i64 k ∧ Below w.heap.size w wr ∧ Hid ((L.map Mr.r).take k = (L'.map Mr.r).take k)) (fun i _ => L.length - (intOf i).toNat)
  case atStart => exact ⟨0, Nat.zero_le _, rfl, Below.refl _ _, Lib.hid rfl⟩
  case round =>
    obtain ⟨k, hk, rfl, hB, HTK⟩ := hrel
    by_cases hlt : k < L.length
    · have lk : (k : Int) < (L.length : Int) := by omega
      obtain ⟨B, O, rfl, hBl, hcell⟩ := HC.out.1 (by omega)
      obtain ⟨B', O', rfl, hBl', hcell'⟩ := HC.out.2 (by have := HLL.out; omega)
      have hlt' : k < L'.length := by have := HLL.out; omega
      have hx : L[k]? = some L[k] := List.getElem?_eq_getElem hlt
      have hx' : L'[k]? = some L'[k] := List.getElem?_eq_getElem hlt'
      have hm := HA.out.1 L[k] (List.getElem_mem hlt)
      have hm' := HA.out.2.1 L'[k] (List.getElem_mem hlt')
      have hbv := HA.out.2.2.1 L[k] (List.getElem_mem hlt)
      have hbkk := HA.out.2.2.2.1 L[k] (List.getElem_mem hlt)
      have hbv' := HA.out.2.2.2.2 L'[k] (List.getElem_mem hlt')
      have HTN : Hid (L[k].r = L'[k].r → (L.map Mr.r).take (k + 1) = (L'.map Mr.r).take (k + 1)) := Lib.hid (fun q => by
        rw [List.take_succ_eq_append_getElem (by simpa using hlt), List.take_succ_eq_append_getElem (by simpa using hlt'), HTK.out]
        simp [q])
      have HTF : Hid (L[k].r ≠ L'[k].r → ¬ L.map Mr.r = L'.map Mr.r) := Lib.hid (fun q e => q (by
        have := congrArg (fun l => l[k]?) e
        simpa [hlt, hlt'] using this))
      clear HTK
      generalize L[k] = x at *
      generalize L'[k] = x' at *
      have HKEEP : Hid (∀ W, Below w.heap.size w W → W.cell? ⟨B, O + k * 9, none⟩ = some (.int .i64 x.r.o) ∧ W.cell? ⟨B, O + k * 9 + 1, none⟩ = some (.int .i64 x.r.s) ∧ W.cell? ⟨B, O + k * 9 + 2, none⟩ = some (.string (strB x.r.key)) ∧ W.cell? ⟨B, O + k * 9 + 3, none⟩ = some (.int .i64 x.r.ml) ∧ W.cell? ⟨B, O + k * 9 + 4, none⟩ = some (.int .i64 x.r.ct) ∧ W.cell? ⟨B, O + k * 9 + 5, none⟩ = some (.int .i64 x.r.vo) ∧ W.cell? ⟨B, O + k * 9 + 6, none⟩ = some (.slice x.A x.r.val.length x.c) ∧ W.cell? ⟨B, O + k * 9 + 7, none⟩ = some (.bool x.r.gone) ∧ W.cell? ⟨B, O + k * 9 + 8, none⟩ = some (.int .i64 x.r.tt) ∧ W.cell? ⟨B', O' + k * 9, none⟩ = some (.int .i64 x'.r.o) ∧ W.cell? ⟨B', O' + k * 9 + 1, none⟩ = some (.int .i64 x'.r.s) ∧ W.cell? ⟨B', O' + k * 9 + 2, none⟩ = some (.string (strB x'.r.key)) ∧ W.cell? ⟨B', O' + k * 9 + 3, none⟩ = some (.int .i64 x'.r.ml) ∧ W.cell? ⟨B', O' + k * 9 + 4, none⟩ = some (.int .i64 x'.r.ct) ∧ W.cell? ⟨B', O' + k * 9 + 5, none⟩ = some (.int .i64 x'.r.vo) ∧ W.cell? ⟨B', O' + k * 9 + 6, none⟩ = some (.slice x'.A x'.r.val.length x'.c) ∧ W.cell? ⟨B', O' + k * 9 + 7, none⟩ = some (.bool x'.r.gone) ∧ W.cell? ⟨B', O' + k * 9 + 8, none⟩ = some (.int .i64 x'.r.tt)) := Lib.hid (fun W hW => ⟨((hW.cell (p := ⟨B, O + k * 9, none⟩) hBl).trans (hcell (k * 9) _ (by have := rowM_at hx 0 (by omega); rwa [Nat.add_zero] at this))), (by rw [Nat.add_assoc]; exact (hW.cell (p := ⟨B, O + (k * 9 + 1), none⟩) hBl).trans (hcell _ _ (rowM_at hx 1 (by omega)))), (by rw [Nat.add_assoc]; exact (hW.cell (p := ⟨B, O + (k * 9 + 2), none⟩) hBl).trans (hcell _ _ (rowM_at hx 2 (by omega)))), (by rw [Nat.add_assoc]; exact (hW.cell (p := ⟨B, O + (k * 9 + 3), none⟩) hBl).trans (hcell _ _ (rowM_at hx 3 (by omega)))), (by rw [Nat.add_assoc]; exact (hW.cell (p := ⟨B, O + (k * 9 + 4), none⟩) hBl).trans (hcell _ _ (rowM_at hx 4 (by omega)))), (by rw [Nat.add_assoc]; exact (hW.cell (p := ⟨B, O + (k * 9 + 5), none⟩) hBl).trans (hcell _ _ (rowM_at hx 5 (by omega)))), (by rw [Nat.add_assoc]; exact (hW.cell (p := ⟨B, O + (k * 9 + 6), none⟩) hBl).trans (hcell _ _ (rowM_at hx 6 (by omega)))), (by rw [Nat.add_assoc]; exact (hW.cell (p := ⟨B, O + (k * 9 + 7), none⟩) hBl).trans (hcell _ _ (rowM_at hx 7 (by omega)))), (by rw [Nat.add_assoc]; exact (hW.cell (p := ⟨B, O + (k * 9 + 8), none⟩) hBl).trans (hcell _ _ (rowM_at hx 8 (by omega)))), ((hW.cell (p := ⟨B', O' + k * 9, none⟩) hBl').trans (hcell' (k * 9) _ (by have := rowM_at hx' 0 (by omega); rwa [Nat.add_zero] at this))), (by rw [Nat.add_assoc]; exact (hW.cell (p := ⟨B', O' + (k * 9 + 1), none⟩) hBl').trans (hcell' _ _ (rowM_at hx' 1 (by omega)))), (by rw [Nat.add_assoc]; exact (hW.cell (p := ⟨B', O' + (k * 9 + 2), none⟩) hBl').trans (hcell' _ _ (rowM_at hx' 2 (by omega)))), (by rw [Nat.add_assoc]; exact (hW.cell (p := ⟨B', O' + (k * 9 + 3), none⟩) hBl').trans (hcell' _ _ (rowM_at hx' 3 (by omega)))), (by rw [Nat.add_assoc]; exact (hW.cell (p := ⟨B', O' + (k * 9 + 4), none⟩) hBl').trans (hcell' _ _ (rowM_at hx' 4 (by omega)))), (by rw [Nat.add_assoc]; exact (hW.cell (p := ⟨B', O' + (k * 9 + 5), none⟩) hBl').trans (hcell' _ _ (rowM_at hx' 5 (by omega)))), (by rw [Nat.add_assoc]; exact (hW.cell (p := ⟨B', O' + (k * 9 + 6), none⟩) hBl').trans (hcell' _ _ (rowM_at hx' 6 (by omega)))), (by rw [Nat.add_assoc]; exact (hW.cell (p := ⟨B', O' + (k * 9 + 7), none⟩) hBl').trans (hcell' _ _ (rowM_at hx' 7 (by omega)))), (by rw [Nat.add_assoc]; exact (hW.cell (p := ⟨B', O' + (k * 9 + 8), none⟩) hBl').trans (hcell' _ _ (rowM_at hx' 8 (by omega))))⟩)
      obtain ⟨bb, hbb⟩ : ∃ bb, sameRB x.r.o x.r.s (strB x.r.key) x.r.ml x.r.ct x.r.vo x.r.val x.r.gone x.r.tt x'.r.o x'.r.s (strB x'.r.key) x'.r.ml x'.r.ct x'.r.vo x'.r.val x'.r.gone x'.r.tt = bb := ⟨_, rfl⟩
      have HBB : Hid (bb = true ↔ x.r = x'.r) := Lib.hid (by rw [← hbb]; exact sameRB_iff hbkk hbv'.1)
      have HS : Hid (∀ W, Below w.heap.size w W → Calls Tryd.prog 76 #[recV x.r.o x.r.s (strB x.r.key) x.r.ml x.r.ct x.r.vo x.A x.r.val.length x.c x.r.gone x.r.tt, recV x'.r.o x'.r.s (strB x'.r.key) x'.r.ml x'.r.ct x'.r.vo x'.A x'.r.val.length x'.c x'.r.gone x'.r.tt] W fun e w' => e = .returned (.bool bb) ∧ Below W.heap.size W w') := Lib.hid (fun W hW => by
        have q := ref_same x.r.o x.r.s (strB x.r.key) x.r.ml x.r.ct x.r.vo x.r.val x.r.gone x.r.tt x.A x.c x'.r.o x'.r.s (strB x'.r.key) x'.r.ml x'.r.ct x'.r.vo x'.r.val x'.r.gone x'.r.tt x'.A x'.c W (hm.b.below hW) hbv hm.n (hm'.b.below hW) hbv'.2 hm'.n
        rw [hbb] at q
        exact q)
      clear hbb
      have hi1 : ((k : Int).toNat) = k := by simp
      have lk' : (k : Int) < (L'.length : Int) := by omega
      have HB1 := Lib.hid hB
      clear hm hm' hbv hbkk hbv' hcell hcell' hx hx' hB hlt'
      go_wp2_with fail
      refine wp_region_held_drew (S := fun w' => w'.cell? ⟨B, O + k * 9, none⟩ = some (.int .i64 x.r.o) ∧ w'.cell? ⟨B, O + k * 9 + 1, none⟩ = some (.int .i64 x.r.s) ∧ w'.cell? ⟨B, O + k * 9 + 2, none⟩ = some (.string (strB x.r.key)) ∧ w'.cell? ⟨B, O + k * 9 + 3, none⟩ = some (.int .i64 x.r.ml) ∧ w'.cell? ⟨B, O + k * 9 + 4, none⟩ = some (.int .i64 x.r.ct) ∧ w'.cell? ⟨B, O + k * 9 + 5, none⟩ = some (.int .i64 x.r.vo) ∧ w'.cell? ⟨B, O + k * 9 + 6, none⟩ = some (.slice x.A x.r.val.length x.c) ∧ w'.cell? ⟨B, O + k * 9 + 7, none⟩ = some (.bool x.r.gone) ∧ w'.cell? ⟨B, O + k * 9 + 8, none⟩ = some (.int .i64 x.r.tt) ∧ w'.cell? ⟨B', O' + k * 9, none⟩ = some (.int .i64 x'.r.o) ∧ w'.cell? ⟨B', O' + k * 9 + 1, none⟩ = some (.int .i64 x'.r.s) ∧ w'.cell? ⟨B', O' + k * 9 + 2, none⟩ = some (.string (strB x'.r.key)) ∧ w'.cell? ⟨B', O' + k * 9 + 3, none⟩ = some (.int .i64 x'.r.ml) ∧ w'.cell? ⟨B', O' + k * 9 + 4, none⟩ = some (.int .i64 x'.r.ct) ∧ w'.cell? ⟨B', O' + k * 9 + 5, none⟩ = some (.int .i64 x'.r.vo) ∧ w'.cell? ⟨B', O' + k * 9 + 6, none⟩ = some (.slice x'.A x'.r.val.length x'.c) ∧ w'.cell? ⟨B', O' + k * 9 + 7, none⟩ = some (.bool x'.r.gone) ∧ w'.cell? ⟨B', O' + k * 9 + 8, none⟩ = some (.int .i64 x'.r.tt)) (by kernel_rfl) ?_ (fun hHeld => ?_)
      · exact HKEEP.out _ HB1.out.drew
      refine wpAnyH_take (i := 0) (v := ?_) rfl (by kernel_rfl) (by kernel_rfl) (by kernel_rfl) (fun _ _ _ h => h) (Or.inl ⟨by rfl, ?_⟩) (by assumption) ?_
      rotate_left
      · intro w' hSw; (try dsimp only at hSw); go_simp; (try with_reducible rfl)
      (try simp only [Act.put, List.setIfInBounds_toArray, List.set_cons_zero, List.set_cons_succ, List.getElem_toArray, List.getElem_cons_succ, List.getElem_cons_zero])
      refine wpAnyH_take (i := 1) (v := ?_) rfl (by kernel_rfl) (by kernel_rfl) (by kernel_rfl) (fun _ _ _ h => h) (Or.inl ⟨by rfl, ?_⟩) (by assumption) ?_
      rotate_left
      · intro w' hSw; (try dsimp only at hSw); go_simp; (try with_reducible rfl)
      (try simp only [Act.put, List.setIfInBounds_toArray, List.set_cons_zero, List.set_cons_succ, List.getElem_toArray, List.getElem_cons_succ, List.getElem_cons_zero])
      refine wpAnyH_take (i := 2) (v := ?_) rfl (by kernel_rfl) (by kernel_rfl) (by kernel_rfl) (fun _ _ _ h => h) (Or.inl ⟨by rfl, ?_⟩) (by assumption) ?_
      rotate_left
      · intro w' hSw; (try dsimp only at hSw); go_simp; (try with_reducible rfl)
      (try simp only [Act.put, List.setIfInBounds_toArray, List.set_cons_zero, List.set_cons_succ, List.getElem_toArray, List.getElem_cons_succ, List.getElem_cons_zero])
      refine wpAnyH_take (i := 3) (v := ?_) rfl (by kernel_rfl) (by kernel_rfl) (by kernel_rfl) (fun _ _ _ h => h) (Or.inl ⟨by rfl, ?_⟩) (by assumption) ?_
      rotate_left
      · intro w' hSw; (try dsimp only at hSw); go_simp; (try with_reducible rfl)
      (try simp only [Act.put, List.setIfInBounds_toArray, List.set_cons_zero, List.set_cons_succ, List.getElem_toArray, List.getElem_cons_succ, List.getElem_cons_zero])
      refine wpAnyH_take (i := 4) (v := ?_) rfl (by kernel_rfl) (by kernel_rfl) (by kernel_rfl) (fun _ _ _ h => h) (Or.inl ⟨by rfl, ?_⟩) (by assumption) ?_
      rotate_left
      · intro w' hSw; (try dsimp only at hSw); go_simp; (try with_reducible rfl)
      (try simp only [Act.put, List.setIfInBounds_toArray, List.set_cons_zero, List.set_cons_succ, List.getElem_toArray, List.getElem_cons_succ, List.getElem_cons_zero])
      refine wpAnyH_take (i := 5) (v := ?_) rfl (by kernel_rfl) (by kernel_rfl) (by kernel_rfl) (fun _ _ _ h => h) (Or.inl ⟨by rfl, ?_⟩) (by assumption) ?_
      rotate_left
      · intro w' hSw; (try dsimp only at hSw); go_simp; (try with_reducible rfl)
      (try simp only [Act.put, List.setIfInBounds_toArray, List.set_cons_zero, List.set_cons_succ, List.getElem_toArray, List.getElem_cons_succ, List.getElem_cons_zero])
      refine wpAnyH_take (i := 6) (v := ?_) rfl (by kernel_rfl) (by kernel_rfl) (by kernel_rfl) (fun _ _ _ h => h) (Or.inl ⟨by rfl, ?_⟩) (by assumption) ?_
      rotate_left
      · intro w' hSw; (try dsimp only at hSw); go_simp; (try with_reducible rfl)
      (try simp only [Act.put, List.setIfInBounds_toArray, List.set_cons_zero, List.set_cons_succ, List.getElem_toArray, List.getElem_cons_succ, List.getElem_cons_zero])
      refine wpAnyH_take (i := 7) (v := ?_) rfl (by kernel_rfl) (by kernel_rfl) (by kernel_rfl) (fun _ _ _ h => h) (Or.inl ⟨by rfl, ?_⟩) (by assumption) ?_
      rotate_left
      · intro w' hSw; (try dsimp only at hSw); go_simp; (try with_reducible rfl)
      (try simp only [Act.put, List.setIfInBounds_toArray, List.set_cons_zero, List.set_cons_succ, List.getElem_toArray, List.getElem_cons_succ, List.getElem_cons_zero])
      refine wpAnyH_ready (rs := [8]) (by kernel_rfl) (by simp) ?_
      refine AllReadyH.cons rfl (fun K hK => ?_) AllReadyH.nil
      go_simp
      (go_at_call 76; refine (HS.out _ HB1.out.drew).mono ?_; rintro e W2 ⟨rfl, k2⟩; have HB2 := HB1.out.drew.trans (k2.mono HB1.out.drew.size))
      (try dsimp only)
      refine hK.out _ _ ?_ (fun hHeld => ?_)
      · exact HKEEP.out _ HB2
      clear hK K
      (try simp only [Act.put, List.setIfInBounds_toArray, List.set_cons_zero, List.set_cons_succ, List.getElem_toArray, List.getElem_cons_succ, List.getElem_cons_zero])
      refine wpAnyH_take (i := 9) (v := ?_) rfl (by kernel_rfl) (by kernel_rfl) (by kernel_rfl) (fun _ _ _ h => h) (Or.inl ⟨by rfl, ?_⟩) (by assumption) ?_
      rotate_left
      · intro w' hSw; (try dsimp only at hSw); go_simp; (try with_reducible rfl)
      (try simp only [Act.put, List.setIfInBounds_toArray, List.set_cons_zero, List.set_cons_succ, List.getElem_toArray, List.getElem_cons_succ, List.getElem_cons_zero])
      refine wpAnyH_done (by kernel_rfl) ?_ _
      cases bb
      · have HNE := Lib.hid (HTF.out (fun q => by have := HBB.out.2 q; cases this))
        have HB2' := Lib.hid HB2
        clear HB2 HTF HTN HBB
        go_wp2
        go_ret
        exact ⟨⟨false, rfl, by simp; exact HNE.out⟩, HB2'.out⟩
      · have HNE := Lib.hid (HTN.out (HBB.out.1 rfl))
        clear HTF HTN HBB
        go_wp2
        go_roundw
        case rel => exact ⟨k + 1, by omega, by go_num, HB2, HNE⟩
        case measure => simp [intOf]; omega
    · obtain rfl : k = L.length := by omega
      have HB1 := Lib.hid hB
      have HEQ : Hid (L.map Mr.r = L'.map Mr.r) := Lib.hid (by
        have h1 := HTK.out
        rw [List.take_of_length_le (by simp), List.take_of_length_le (by simp; have := HLL.out; omega)] at h1
        exact h1)
      clear hB hlt HTK
      go_wp2
      go_ret
      exact ⟨⟨true, rfl, by simp; exact HEQ.out⟩, HB1.out⟩
theorem wdOf_eq {k o s m1 c1 m2 c2 k' o' s' m1' c1' m2' c2' : Int} {L L' : List Mr} : wdOf k o s m1 c1 m2 c2 L = wdOf k' o' s' m1' c1' m2' c2' L' ↔ k = k' ∧ o = o' ∧ s = s' ∧ m1 = m1' ∧ c1 = c1' ∧ m2 = m2' ∧ c2 = c2' ∧ L.map Mr.r = L'.map Mr.r := by
  simp only [wdOf, Wd.mk.injEq]
set_option maxRecDepth 100000 in
set_option maxHeartbeats 8000000 in
theorem law_words (k o s m1 c1 m2 c2 k' o' s' m1' c1' m2' c2' : Int) (A A' : Option Addr) (c c' : Nat) (L L' : List Mr) (w : World) (h : RowAt w (.slice A L.length c) L) (h' : RowAt w (.slice A' L'.length c') L') (ha : ∀ m ∈ L, m.At (fun _ => True) w) (ha' : ∀ m ∈ L', m.At (fun _ => True) w) (hb : ∀ m ∈ L, isBy m.r.key ∧ isBy m.r.val) (hb' : ∀ m ∈ L', isBy m.r.key ∧ isBy m.r.val) (hl : L.length ≤ 100000) :
    Calls Tryd.prog 16 #[wdV k o s m1 c1 m2 c2 (.slice A L.length c), wdV k' o' s' m1' c1' m2' c2' (.slice A' L'.length c')] w fun e w' => (∃ b, e = .returned (.bool b) ∧ (b = true ↔ wdOf k o s m1 c1 m2 c2 L = wdOf k' o' s' m1' c1' m2' c2' L')) ∧ Below w.heap.size w w' := by
  have hb0 : ∀ v v' : Value, Below w.heap.size w ((w.alloc (.cells (wdC k o s m1 c1 m2 c2 v) 26)).alloc (.cells (wdC k' o' s' m1' c1' m2' c2' v') 26)) := fun v v' => by (repeat' (first | (with_reducible exact Below.refl _ _) | (with_reducible assumption) | (with_reducible refine Below.trans ?_ (Below.mono (by with_reducible assumption) ?_)) | (with_reducible refine Below.alloc ?_ ?_ _) | (with_reducible refine Below.setCell ?_ ?_ _) | (with_reducible refine below_drewN ?_ _) | (with_reducible refine Below.drew ?_) | go_size))
  have HR := Lib.hid (fun (W : World) (q : Below w.heap.size w W) => law_recs (.slice A L.length c) (.slice A' L'.length c') L L' W (h.below q) (h'.below q) (fun m hm => (ha m hm).below q) (fun m hm => (ha' m hm).below q) (fun m hm => (hb m hm).2) (fun m hm => (hb m hm).1) hb' hl)
  have HB0 := Lib.hid (hb0 (.slice A L.length c) (.slice A' L'.length c'))
  clear h h' ha ha' hb hb' hl hb0
  by_cases e0 : k = k'
  rotate_left
  · have q0 : (k == k') = false := by simpa using e0
    have HN : Hid (¬ wdOf k o s m1 c1 m2 c2 L = wdOf k' o' s' m1' c1' m2' c2' L') := Lib.hid (fun q => e0 (wdOf_eq.1 q).1)
    clear HR e0
    go_enter Tryd.func16, Tryd.ntmps16
    go_wp2
    go_ret
    exact ⟨⟨false, rfl, by simp; exact HN.out⟩, HB0.out⟩
  subst e0
  by_cases e1 : o = o'
  rotate_left
  · have q1 : (o == o') = false := by simpa using e1
    have HN : Hid (¬ wdOf k o s m1 c1 m2 c2 L = wdOf k o' s' m1' c1' m2' c2' L') := Lib.hid (fun q => e1 (wdOf_eq.1 q).2.1)
    clear HR e1
    go_enter Tryd.func16, Tryd.ntmps16
    go_wp2
    go_ret
    exact ⟨⟨false, rfl, by simp; exact HN.out⟩, HB0.out⟩
  subst e1
  by_cases e2 : s = s'
  rotate_left
  · have q2 : (s == s') = false := by simpa using e2
    have HN : Hid (¬ wdOf k o s m1 c1 m2 c2 L = wdOf k o s' m1' c1' m2' c2' L') := Lib.hid (fun q => e2 (wdOf_eq.1 q).2.2.1)
    clear HR e2
    go_enter Tryd.func16, Tryd.ntmps16
    go_wp2
    go_ret
    exact ⟨⟨false, rfl, by simp; exact HN.out⟩, HB0.out⟩
  subst e2
  by_cases e3 : m1 = m1'
  rotate_left
  · have q3 : (m1 == m1') = false := by simpa using e3
    have HN : Hid (¬ wdOf k o s m1 c1 m2 c2 L = wdOf k o s m1' c1' m2' c2' L') := Lib.hid (fun q => e3 (wdOf_eq.1 q).2.2.2.1)
    clear HR e3
    go_enter Tryd.func16, Tryd.ntmps16
    go_wp2
    go_ret
    exact ⟨⟨false, rfl, by simp; exact HN.out⟩, HB0.out⟩
  subst e3
  by_cases e4 : c1 = c1'
  rotate_left
  · have q4 : (c1 == c1') = false := by simpa using e4
    have HN : Hid (¬ wdOf k o s m1 c1 m2 c2 L = wdOf k o s m1 c1' m2' c2' L') := Lib.hid (fun q => e4 (wdOf_eq.1 q).2.2.2.2.1)
    clear HR e4
    go_enter Tryd.func16, Tryd.ntmps16
    go_wp2
    go_ret
    exact ⟨⟨false, rfl, by simp; exact HN.out⟩, HB0.out⟩
  subst e4
  by_cases e5 : m2 = m2'
  rotate_left
  · have q5 : (m2 == m2') = false := by simpa using e5
    have HN : Hid (¬ wdOf k o s m1 c1 m2 c2 L = wdOf k o s m1 c1 m2' c2' L') := Lib.hid (fun q => e5 (wdOf_eq.1 q).2.2.2.2.2.1)
    clear HR e5
    go_enter Tryd.func16, Tryd.ntmps16
    go_wp2
    go_ret
    exact ⟨⟨false, rfl, by simp; exact HN.out⟩, HB0.out⟩
  subst e5
  by_cases e6 : c2 = c2'
  rotate_left
  · have q6 : (c2 == c2') = false := by simpa using e6
    have HN : Hid (¬ wdOf k o s m1 c1 m2 c2 L = wdOf k o s m1 c1 m2 c2' L') := Lib.hid (fun q => e6 (wdOf_eq.1 q).2.2.2.2.2.2.1)
    clear HR e6
    go_enter Tryd.func16, Tryd.ntmps16
    go_wp2
    go_ret
    exact ⟨⟨false, rfl, by simp; exact HN.out⟩, HB0.out⟩
  subst e6
  go_enter Tryd.func16, Tryd.ntmps16
  go_wp2_with fail
  refine (HR.out _ HB0.out).mono ?_; rintro e w1 ⟨⟨b, rfl, hbb⟩, k1⟩
  have HBF := Lib.hid (HB0.out.trans (k1.mono HB0.out.size))
  have HBB := Lib.hid hbb
  clear k1 hbb HR
  go_wp2
  go_ret
  exact ⟨⟨b, rfl, by rw [HBB.out, wdOf_eq]; exact ⟨fun q => ⟨rfl, rfl, rfl, rfl, rfl, rfl, rfl, q⟩, fun q => q.2.2.2.2.2.2.2⟩⟩, HBF.out⟩
end Go.Proofs.YtdffldlcbihjmaaDoor
