/- records, heavy of package meridianlaw18: whether two rows of records are one (written by gen/recs18.py). -/
import Derived.Test.YtdffldlcbihjmaaDoorRecordsR
set_option linter.unusedSimpArgs false
set_option linter.unusedVariables false
namespace Go.Proofs.YtdffldlcbihjmaaDoor
open Go.RowKit

theorem sameRB_iff18 {a b : Rc} (ha : isBy a.key) (hb : isBy b.key) : sameRB a.o a.s (strB a.key) a.ml a.ct a.vo a.val a.gone a.tt b.o b.s (strB b.key) b.ml b.ct b.vo b.val b.gone b.tt = true ↔ a = b := by
  obtain ⟨o, s, key, ml, ct, vo, val, gone, tt⟩ := a
  obtain ⟨o', s', key', ml', ct', vo', val', gone', tt'⟩ := b
  simp only [sameRB, sameVB, Bool.and_eq_true, decide_eq_true_eq, Rc.mk.injEq, strB_inj ha hb]
set_option maxRecDepth 100000 in
set_option maxHeartbeats 4000000 in
theorem law_recs18 (v v' : Value) (L L' : List Mr) (w : World) (h : RowAt w v L) (h' : RowAt w v' L') (ha : ∀ m ∈ L, m.At (fun _ => True) w) (ha' : ∀ m ∈ L', m.At (fun _ => True) w) (hb : ∀ m ∈ L, isBy m.r.val) (hbk : ∀ m ∈ L, isBy m.r.key) (hb' : ∀ m ∈ L', isBy m.r.key ∧ isBy m.r.val) (hl : L.length ≤ 100000) :
    Calls Tryd.prog 42 #[v, v'] w fun e w' => (∃ b, e = .returned (.bool b) ∧ (b = true ↔ L.map Mr.r = L'.map Mr.r)) ∧ Below w.heap.size w w' := by
  obtain ⟨A, c, rfl, hc⟩ := h.ex
  obtain ⟨A', c', rfl, hc'⟩ := h'.ex
  by_cases hll : L'.length = L.length
  rotate_left
  · have t0 : ((L.length : Int) != (L'.length : Int)) = true := by simp only [bne_iff_ne, ne_eq]; omega
    have t0' : (L.length != L'.length) = true := by simp only [bne_iff_ne, ne_eq]; omega
    have HN : Hid (¬ L.map Mr.r = L'.map Mr.r) := Lib.hid (fun q => hll (by have := congrArg List.length q; simpa using this.symm))
    clear h h' hc hc' ha ha' hb hbk hb' hll hl
    go_enter Tryd.func42, Tryd.ntmps42
    go_wp2
    go_ret
    exact ⟨⟨false, rfl, by simp; exact HN.out⟩, Below.refl _ _⟩
  have HC := Lib.hid (And.intro hc hc')
  have HA := Lib.hid (And.intro ha (And.intro ha' (And.intro hb (And.intro hbk hb'))))
  have HLL := Lib.hid hll
  have hni : (L.length : Int) ≤ 100000 := by omega
  rw [hll]
  clear h h' hc hc' ha ha' hb hbk hb' hl hll
  go_enter Tryd.func42, Tryd.ntmps42
  go_wp2
  go_loopw [5] (fun i wr => ∃ k : Nat, k ≤ L.length ∧ i = .int .i64 k ∧ Below w.heap.size w wr ∧ Hid ((L.map Mr.r).take k = (L'.map Mr.r).take k)) (fun i _ => L.length - (intOf i).toNat)
  case atStart => exact ⟨0, Nat.zero_le _, rfl, Below.refl _ _, Lib.hid rfl⟩
  case round =>
    obtain ⟨k, hk, rfl, hB, HTK⟩ := hrel
    by_cases hlt : k < L.length
    · have lk : (k : Int) < (L.length : Int) := by omega
      obtain ⟨B, O, rfl, hBl, hcell⟩ := HC.out.1 (by omega)
      obtain ⟨B', O', rfl, hBl', hcell'⟩ := HC.out.2 (by have := HLL.out; omega)
      have hlt' : k < L'.length := by have := HLL.out; omega
      have hx : L[k]? = some L[k] := List.getElem?_eq_getElem hlt
      have hx' : L'[k]? = some L'[k] := List.getElem?_eq_getElem hlt'
      have hm := HA.out.1 L[k] (List.getElem_mem hlt)
      have hm' := HA.out.2.1 L'[k] (List.getElem_mem hlt')
      have hbv := HA.out.2.2.1 L[k] (List.getElem_mem hlt)
      have hbkk := HA.out.2.2.2.1 L[k] (List.getElem_mem hlt)
      have hbv' := HA.out.2.2.2.2 L'[k] (List.getElem_mem hlt')
      have HTN : Hid (L[k].r = L'[k].r → (L.map Mr.r).take (k + 1) = (L'.map Mr.r).take (k + 1)) := Lib.hid (fun q => by
        rw [List.take_succ_eq_append_getElem (by simpa using hlt), List.take_succ_eq_append_getElem (by simpa using hlt'), HTK.out]
        simp [q])
      have HTF : Hid (L[k].r ≠ L'[k].r → ¬ L.map Mr.r = L'.map Mr.r) := Lib.hid (fun q e => q (by
        have := congrArg (fun l => l[k]?) e
        simpa [hlt, hlt'] using this))
      clear HTK
      generalize L[k] = x at *
      generalize L'[k] = x' at *
      have HKEEP : Hid (∀ W, Below w.heap.size w W → W.cell? ⟨B, O + k * 9, none⟩ = some (.int .i64 x.r.o) ∧ W.cell? ⟨B, O + k * 9 + 1, none⟩ = some (.int .i64 x.r.s) ∧ W.cell? ⟨B, O + k * 9 + 2, none⟩ = some (.string (strB x.r.key)) ∧ W.cell? ⟨B, O + k * 9 + 3, none⟩ = some (.int .i64 x.r.ml) ∧ W.cell? ⟨B, O + k * 9 + 4, none⟩ = some (.int .i64 x.r.ct) ∧ W.cell? ⟨B, O + k * 9 + 5, none⟩ = some (.int .i64 x.r.vo) ∧ W.cell? ⟨B, O + k * 9 + 6, none⟩ = some (.slice x.A x.r.val.length x.c) ∧ W.cell? ⟨B, O + k * 9 + 7, none⟩ = some (.bool x.r.gone) ∧ W.cell? ⟨B, O + k * 9 + 8, none⟩ = some (.int .i64 x.r.tt) ∧ W.cell? ⟨B', O' + k * 9, none⟩ = some (.int .i64 x'.r.o) ∧ W.cell? ⟨B', O' + k * 9 + 1, none⟩ = some (.int .i64 x'.r.s) ∧ W.cell? ⟨B', O' + k * 9 + 2, none⟩ = some (.string (strB x'.r.key)) ∧ W.cell? ⟨B', O' + k * 9 + 3, none⟩ = some (.int .i64 x'.r.ml) ∧ W.cell? ⟨B', O' + k * 9 + 4, none⟩ = some (.int .i64 x'.r.ct) ∧ W.cell? ⟨B', O' + k * 9 + 5, none⟩ = some (.int .i64 x'.r.vo) ∧ W.cell? ⟨B', O' + k * 9 + 6, none⟩ = some (.slice x'.A x'.r.val.length x'.c) ∧ W.cell? ⟨B', O' + k * 9 + 7, none⟩ = some (.bool x'.r.gone) ∧ W.cell? ⟨B', O' + k * 9 + 8, none⟩ = some (.int .i64 x'.r.tt)) := Lib.hid (fun W hW => ⟨((hW.cell (p := ⟨B, O + k * 9, none⟩) hBl).trans (hcell (k * 9) _ (by have := rowM_at hx 0 (by omega); rwa [Nat.add_zero] at this))), (by rw [Nat.add_assoc]; exact (hW.cell (p := ⟨B, O + (k * 9 + 1), none⟩) hBl).trans (hcell _ _ (rowM_at hx 1 (by omega)))), (by rw [Nat.add_assoc]; exact (hW.cell (p := ⟨B, O + (k * 9 + 2), none⟩) hBl).trans (hcell _ _ (rowM_at hx 2 (by omega)))), (by rw [Nat.add_assoc]; exact (hW.cell (p := ⟨B, O + (k * 9 + 3), none⟩) hBl).trans (hcell _ _ (rowM_at hx 3 (by omega)))), (by rw [Nat.add_assoc]; exact (hW.cell (p := ⟨B, O + (k * 9 + 4), none⟩) hBl).trans (hcell _ _ (rowM_at hx 4 (by omega)))), (by rw [Nat.add_assoc]; exact (hW.cell (p := ⟨B, O + (k * 9 + 5), none⟩) hBl).trans (hcell _ _ (rowM_at hx 5 (by omega)))), (by rw [Nat.add_assoc]; exact (hW.cell (p := ⟨B, O + (k * 9 + 6), none⟩) hBl).trans (hcell _ _ (rowM_at hx 6 (by omega)))), (by rw [Nat.add_assoc]; exact (hW.cell (p := ⟨B, O + (k * 9 + 7), none⟩) hBl).trans (hcell _ _ (rowM_at hx 7 (by omega)))), (by rw [Nat.add_assoc]; exact (hW.cell (p := ⟨B, O + (k * 9 + 8), none⟩) hBl).trans (hcell _ _ (rowM_at hx 8 (by omega)))), ((hW.cell (p := ⟨B', O' + k * 9, none⟩) hBl').trans (hcell' (k * 9) _ (by have := rowM_at hx' 0 (by omega); rwa [Nat.add_zero] at this))), (by rw [Nat.add_assoc]; exact (hW.cell (p := ⟨B', O' + (k * 9 + 1), none⟩) hBl').trans (hcell' _ _ (rowM_at hx' 1 (by omega)))), (by rw [Nat.add_assoc]; exact (hW.cell (p := ⟨B', O' + (k * 9 + 2), none⟩) hBl').trans (hcell' _ _ (rowM_at hx' 2 (by omega)))), (by rw [Nat.add_assoc]; exact (hW.cell (p := ⟨B', O' + (k * 9 + 3), none⟩) hBl').trans (hcell' _ _ (rowM_at hx' 3 (by omega)))), (by rw [Nat.add_assoc]; exact (hW.cell (p := ⟨B', O' + (k * 9 + 4), none⟩) hBl').trans (hcell' _ _ (rowM_at hx' 4 (by omega)))), (by rw [Nat.add_assoc]; exact (hW.cell (p := ⟨B', O' + (k * 9 + 5), none⟩) hBl').trans (hcell' _ _ (rowM_at hx' 5 (by omega)))), (by rw [Nat.add_assoc]; exact (hW.cell (p := ⟨B', O' + (k * 9 + 6), none⟩) hBl').trans (hcell' _ _ (rowM_at hx' 6 (by omega)))), (by rw [Nat.add_assoc]; exact (hW.cell (p := ⟨B', O' + (k * 9 + 7), none⟩) hBl').trans (hcell' _ _ (rowM_at hx' 7 (by omega)))), (by rw [Nat.add_assoc]; exact (hW.cell (p := ⟨B', O' + (k * 9 + 8), none⟩) hBl').trans (hcell' _ _ (rowM_at hx' 8 (by omega))))⟩)
      obtain ⟨bb, hbb⟩ : ∃ bb, sameRB x.r.o x.r.s (strB x.r.key) x.r.ml x.r.ct x.r.vo x.r.val x.r.gone x.r.tt x'.r.o x'.r.s (strB x'.r.key) x'.r.ml x'.r.ct x'.r.vo x'.r.val x'.r.gone x'.r.tt = bb := ⟨_, rfl⟩
      have HBB : Hid (bb = true ↔ x.r = x'.r) := Lib.hid (by rw [← hbb]; exact sameRB_iff18 hbkk hbv'.1)
      have HS : Hid (∀ W, Below w.heap.size w W → Calls Tryd.prog 76 #[recV x.r.o x.r.s (strB x.r.key) x.r.ml x.r.ct x.r.vo x.A x.r.val.length x.c x.r.gone x.r.tt, recV x'.r.o x'.r.s (strB x'.r.key) x'.r.ml x'.r.ct x'.r.vo x'.A x'.r.val.length x'.c x'.r.gone x'.r.tt] W fun e w' => e = .returned (.bool bb) ∧ Below W.heap.size W w') := Lib.hid (fun W hW => by
        have q := ref_same x.r.o x.r.s (strB x.r.key) x.r.ml x.r.ct x.r.vo x.r.val x.r.gone x.r.tt x.A x.c x'.r.o x'.r.s (strB x'.r.key) x'.r.ml x'.r.ct x'.r.vo x'.r.val x'.r.gone x'.r.tt x'.A x'.c W (hm.b.below hW) hbv hm.n (hm'.b.below hW) hbv'.2 hm'.n
        rw [hbb] at q
        exact q)
      clear hbb
      have hi1 : ((k : Int).toNat) = k := by simp
      have lk' : (k : Int) < (L'.length : Int) := by omega
      have HB1 := Lib.hid hB
      clear hm hm' hbv hbkk hbv' hcell hcell' hx hx' hB hlt'
      go_wp2_with fail
      refine wp_region_held_drew (S := fun w' => w'.cell? ⟨B, O + k * 9, none⟩ = some (.int .i64 x.r.o) ∧ w'.cell? ⟨B, O + k * 9 + 1, none⟩ = some (.int .i64 x.r.s) ∧ w'.cell? ⟨B, O + k * 9 + 2, none⟩ = some (.string (strB x.r.key)) ∧ w'.cell? ⟨B, O + k * 9 + 3, none⟩ = some (.int .i64 x.r.ml) ∧ w'.cell? ⟨B, O + k * 9 + 4, none⟩ = some (.int .i64 x.r.ct) ∧ w'.cell? ⟨B, O + k * 9 + 5, none⟩ = some (.int .i64 x.r.vo) ∧ w'.cell? ⟨B, O + k * 9 + 6, none⟩ = some (.slice x.A x.r.val.length x.c) ∧ w'.cell? ⟨B, O + k * 9 + 7, none⟩ = some (.bool x.r.gone) ∧ w'.cell? ⟨B, O + k * 9 + 8, none⟩ = some (.int .i64 x.r.tt) ∧ w'.cell? ⟨B', O' + k * 9, none⟩ = some (.int .i64 x'.r.o) ∧ w'.cell? ⟨B', O' + k * 9 + 1, none⟩ = some (.int .i64 x'.r.s) ∧ w'.cell? ⟨B', O' + k * 9 + 2, none⟩ = some (.string (strB x'.r.key)) ∧ w'.cell? ⟨B', O' + k * 9 + 3, none⟩ = some (.int .i64 x'.r.ml) ∧ w'.cell? ⟨B', O' + k * 9 + 4, none⟩ = some (.int .i64 x'.r.ct) ∧ w'.cell? ⟨B', O' + k * 9 + 5, none⟩ = some (.int .i64 x'.r.vo) ∧ w'.cell? ⟨B', O' + k * 9 + 6, none⟩ = some (.slice x'.A x'.r.val.length x'.c) ∧ w'.cell? ⟨B', O' + k * 9 + 7, none⟩ = some (.bool x'.r.gone) ∧ w'.cell? ⟨B', O' + k * 9 + 8, none⟩ = some (.int .i64 x'.r.tt)) (by kernel_rfl) ?_ (fun hHeld => ?_)
      · exact HKEEP.out _ HB1.out.drew
      refine wpAnyH_take (i := 0) (v := ?_) rfl (by kernel_rfl) (by kernel_rfl) (by kernel_rfl) (fun _ _ _ h => h) (Or.inl ⟨by rfl, ?_⟩) (by assumption) ?_
      rotate_left
      · intro w' hSw; (try dsimp only at hSw); go_simp; (try with_reducible rfl)
      (try simp only [Act.put, List.setIfInBounds_toArray, List.set_cons_zero, List.set_cons_succ, List.getElem_toArray, List.getElem_cons_succ, List.getElem_cons_zero])
      refine wpAnyH_take (i := 1) (v := ?_) rfl (by kernel_rfl) (by kernel_rfl) (by kernel_rfl) (fun _ _ _ h => h) (Or.inl ⟨by rfl, ?_⟩) (by assumption) ?_
      rotate_left
      · intro w' hSw; (try dsimp only at hSw); go_simp; (try with_reducible rfl)
      (try simp only [Act.put, List.setIfInBounds_toArray, List.set_cons_zero, List.set_cons_succ, List.getElem_toArray, List.getElem_cons_succ, List.getElem_cons_zero])
      refine wpAnyH_take (i := 2) (v := ?_) rfl (by kernel_rfl) (by kernel_rfl) (by kernel_rfl) (fun _ _ _ h => h) (Or.inl ⟨by rfl, ?_⟩) (by assumption) ?_
      rotate_left
      · intro w' hSw; (try dsimp only at hSw); go_simp; (try with_reducible rfl)
      (try simp only [Act.put, List.setIfInBounds_toArray, List.set_cons_zero, List.set_cons_succ, List.getElem_toArray, List.getElem_cons_succ, List.getElem_cons_zero])
      refine wpAnyH_take (i := 3) (v := ?_) rfl (by kernel_rfl) (by kernel_rfl) (by kernel_rfl) (fun _ _ _ h => h) (Or.inl ⟨by rfl, ?_⟩) (by assumption) ?_
      rotate_left
      · intro w' hSw; (try dsimp only at hSw); go_simp; (try with_reducible rfl)
      (try simp only [Act.put, List.setIfInBounds_toArray, List.set_cons_zero, List.set_cons_succ, List.getElem_toArray, List.getElem_cons_succ, List.getElem_cons_zero])
      refine wpAnyH_take (i := 4) (v := ?_) rfl (by kernel_rfl) (by kernel_rfl) (by kernel_rfl) (fun _ _ _ h => h) (Or.inl ⟨by rfl, ?_⟩) (by assumption) ?_
      rotate_left
      · intro w' hSw; (try dsimp only at hSw); go_simp; (try with_reducible rfl)
      (try simp only [Act.put, List.setIfInBounds_toArray, List.set_cons_zero, List.set_cons_succ, List.getElem_toArray, List.getElem_cons_succ, List.getElem_cons_zero])
      refine wpAnyH_take (i := 5) (v := ?_) rfl (by kernel_rfl) (by kernel_rfl) (by kernel_rfl) (fun _ _ _ h => h) (Or.inl ⟨by rfl, ?_⟩) (by assumption) ?_
      rotate_left
      · intro w' hSw; (try dsimp only at hSw); go_simp; (try with_reducible rfl)
      (try simp only [Act.put, List.setIfInBounds_toArray, List.set_cons_zero, List.set_cons_succ, List.getElem_toArray, List.getElem_cons_succ, List.getElem_cons_zero])
      refine wpAnyH_take (i := 6) (v := ?_) rfl (by kernel_rfl) (by kernel_rfl) (by kernel_rfl) (fun _ _ _ h => h) (Or.inl ⟨by rfl, ?_⟩) (by assumption) ?_
      rotate_left
      · intro w' hSw; (try dsimp only at hSw); go_simp; (try with_reducible rfl)
      (try simp only [Act.put, List.setIfInBounds_toArray, List.set_cons_zero, List.set_cons_succ, List.getElem_toArray, List.getElem_cons_succ, List.getElem_cons_zero])
      refine wpAnyH_take (i := 7) (v := ?_) rfl (by kernel_rfl) (by kernel_rfl) (by kernel_rfl) (fun _ _ _ h => h) (Or.inl ⟨by rfl, ?_⟩) (by assumption) ?_
      rotate_left
      · intro w' hSw; (try dsimp only at hSw); go_simp; (try with_reducible rfl)
      (try simp only [Act.put, List.setIfInBounds_toArray, List.set_cons_zero, List.set_cons_succ, List.getElem_toArray, List.getElem_cons_succ, List.getElem_cons_zero])
      refine wpAnyH_ready (rs := [8]) (by kernel_rfl) (by simp) ?_
      refine AllReadyH.cons rfl (fun K hK => ?_) AllReadyH.nil
      go_simp
      (go_at_call 76; refine (HS.out _ HB1.out.drew).mono ?_; rintro e W2 ⟨rfl, k2⟩; have HB2 := HB1.out.drew.trans (k2.mono HB1.out.drew.size))
      (try dsimp only)
      refine hK.out _ _ ?_ (fun hHeld => ?_)
      · exact HKEEP.out _ HB2
      clear hK K
      (try simp only [Act.put, List.setIfInBounds_toArray, List.set_cons_zero, List.set_cons_succ, List.getElem_toArray, List.getElem_cons_succ, List.getElem_cons_zero])
      refine wpAnyH_take (i := 9) (v := ?_) rfl (by kernel_rfl) (by kernel_rfl) (by kernel_rfl) (fun _ _ _ h => h) (Or.inl ⟨by rfl, ?_⟩) (by assumption) ?_
      rotate_left
      · intro w' hSw; (try dsimp only at hSw); go_simp; (try with_reducible rfl)
      (try simp only [Act.put, List.setIfInBounds_toArray, List.set_cons_zero, List.set_cons_succ, List.getElem_toArray, List.getElem_cons_succ, List.getElem_cons_zero])
      refine wpAnyH_done (by kernel_rfl) ?_ _
      cases bb
      · have HNE := Lib.hid (HTF.out (fun q => by have := HBB.out.2 q; cases this))
        have HB2' := Lib.hid HB2
        clear HB2 HTF HTN HBB
        go_wp2
        go_ret
        exact ⟨⟨false, rfl, by simp; exact HNE.out⟩, HB2'.out⟩
      · have HNE := Lib.hid (HTN.out (HBB.out.1 rfl))
        clear HTF HTN HBB
        go_wp2
        go_roundw
        case rel => exact ⟨k + 1, by omega, by go_num, HB2, HNE⟩
        case measure => simp [intOf]; omega
    · obtain rfl : k = L.length := by omega
      have HB1 := Lib.hid hB
      have HEQ : Hid (L.map Mr.r = L'.map Mr.r) := Lib.hid (by
        have h1 := HTK.out
        rw [List.take_of_length_le (by simp), List.take_of_length_le (by simp; have := HLL.out; omega)] at h1
        exact h1)
      clear hB hlt HTK
      go_wp2
      go_ret
      exact ⟨⟨true, rfl, by simp; exact HEQ.out⟩, HB1.out⟩
set_option maxRecDepth 100000 in
set_option maxHeartbeats 4000000 in
theorem law_heavy18 (v : Value) (L : List Mr) (w : World) (h : RowAt w v L) (hs : ∀ m ∈ L, m.r.val.length ≤ 281474976710656 ∧ m.r.key.length ≤ 281474976710656) (hl : L.length ≤ maxLen) :
    Calls Tryd.prog 23 #[v] w fun e w' => (∃ b, e = .returned (.bool b) ∧ (b = false → L.length ≤ 400)) ∧ ∃ q, w' = w.drewN q := by
  obtain ⟨A, c, rfl, hc⟩ := h.ex
  have HC := Lib.hid hc
  have HS := Lib.hid hs
  have hni : (L.length : Int) ≤ 9223372036854775807 := by unfold maxLen at hl; omega
  clear h hc hs hl
  go_enter Tryd.func23, Tryd.ntmps23
  go_wp2
  go_loopw [3, 4] (fun u i wr => ∃ k m : Nat, k ≤ L.length ∧ i = .int .i64 k ∧ u = .int .i64 m ∧ 20 * k ≤ m ∧ m ≤ 8000 ∧ ∃ q, wr = w.drewN q) (fun _ i _ => L.length - (intOf i).toNat)
  case atStart => exact ⟨0, 0, Nat.zero_le _, rfl, rfl, by omega, by omega, 0, rfl⟩
  case round =>
    obtain ⟨k, m, hk, rfl, rfl, h20, hm, q, rfl⟩ := hrel
    by_cases hlt : k < L.length
    · have lk : (k : Int) < (L.length : Int) := by omega
      have hi1 : ((k : Int).toNat) = k := by simp
      obtain ⟨B, O, rfl, hBl, hcell⟩ := HC.out (by omega)
      have hx : L[k]? = some L[k] := List.getElem?_eq_getElem hlt
      have hsz := HS.out L[k] (List.getElem_mem hlt)
      generalize L[k] = x at *
      have a2 : (w.drewN q).cell? ⟨B, O + k * 9 + 2, none⟩ = some (.string (strB x.r.key)) := by rw [Nat.add_assoc]; exact hcell _ _ (rowM_at hx 2 (by omega))
      have a6 : (w.drewN q).cell? ⟨B, O + k * 9 + 6, none⟩ = some (.slice x.A x.r.val.length x.c) := by rw [Nat.add_assoc]; exact hcell _ _ (rowM_at hx 6 (by omega))
      have a6' : (w.drewN q).cell? ⟨B, O + k * 9 + 3 + 3, none⟩ = some (.slice x.A x.r.val.length x.c) := a6
      have hks : (strB x.r.key).size = x.r.key.length := strB_size _
      have HKS := Lib.hid hks
      obtain ⟨kn, hkn⟩ : ∃ kn, (strB x.r.key).size = kn := ⟨_, rfl⟩
      have hknb : kn ≤ 281474976710656 := by rw [← hkn, hks]; exact hsz.2
      have hvb : x.r.val.length ≤ 281474976710656 := hsz.1
      have HKN := Lib.hid hkn
      generalize x.r.val.length = vn at *
      generalize strB x.r.key = K8 at *
      have e0 : IntKind.i64.wrap ((m : Int) + 20) = (m : Int) + 20 := IntWalk.i64_in _ (by omega)
      have e1 : IntKind.i64.wrap ((m : Int) + 20 + (kn : Int)) = (m : Int) + 20 + (kn : Int) := IntWalk.i64_in _ (by omega)
      have e2 : IntKind.i64.wrap ((m : Int) + 20 + (kn : Int) + (vn : Int)) = (m : Int) + 20 + (kn : Int) + (vn : Int) := IntWalk.i64_in _ (by omega)
      clear hx hcell hsz hks
      subst hkn
      by_cases hh : 8000 < m + 20 + K8.size + vn
      · have t1 : decide ((8000 : Int) < (m : Int) + 20 + (K8.size : Int) + (vn : Int)) = true := by simp; omega
        clear hh
        go_wp2
        refine wp_region_held_drew (S := fun w' => w'.cell? ⟨B, O + k * 9 + 2, none⟩ = some (.string K8) ∧ w'.cell? ⟨B, O + k * 9 + 3 + 3, none⟩ = some (.slice x.A vn x.c)) (by kernel_rfl) ?_ (fun hHeld => ?_)
        · exact ⟨a2, a6'⟩
        refine wpAnyH_take (i := 0) (v := ?_) rfl (by kernel_rfl) (by kernel_rfl) (by kernel_rfl) (fun _ _ _ h => h) (Or.inl ⟨by rfl, ?_⟩) (by assumption) ?_
        rotate_left
        · intro w' hSw; (try dsimp only at hSw); go_simp; (try with_reducible rfl)
        (try simp only [Act.put, List.setIfInBounds_toArray, List.set_cons_zero, List.set_cons_succ, List.getElem_toArray, List.getElem_cons_succ, List.getElem_cons_zero])
        refine wpAnyH_take (i := 1) (v := ?_) rfl (by kernel_rfl) (by kernel_rfl) (by kernel_rfl) (fun _ _ _ h => h) (Or.inl ⟨by rfl, ?_⟩) (by assumption) ?_
        rotate_left
        · intro w' hSw; (try dsimp only at hSw); go_simp; (try with_reducible rfl)
        (try simp only [Act.put, List.setIfInBounds_toArray, List.set_cons_zero, List.set_cons_succ, List.getElem_toArray, List.getElem_cons_succ, List.getElem_cons_zero])
        refine wpAnyH_take (i := 2) (v := ?_) rfl (by kernel_rfl) (by kernel_rfl) (by kernel_rfl) (fun _ _ _ h => h) (Or.inl ⟨by rfl, ?_⟩) (by assumption) ?_
        rotate_left
        · intro w' hSw; (try dsimp only at hSw); go_simp; (try with_reducible rfl)
        (try simp only [Act.put, List.setIfInBounds_toArray, List.set_cons_zero, List.set_cons_succ, List.getElem_toArray, List.getElem_cons_succ, List.getElem_cons_zero])
        refine wpAnyH_take (i := 3) (v := ?_) rfl (by kernel_rfl) (by kernel_rfl) (by kernel_rfl) (fun _ _ _ h => h) (Or.inl ⟨by rfl, ?_⟩) (by assumption) ?_
        rotate_left
        · intro w' hSw; (try dsimp only at hSw); go_simp; (try with_reducible rfl)
        (try simp only [Act.put, List.setIfInBounds_toArray, List.set_cons_zero, List.set_cons_succ, List.getElem_toArray, List.getElem_cons_succ, List.getElem_cons_zero])
        refine wpAnyH_take (i := 4) (v := ?_) rfl (by kernel_rfl) (by kernel_rfl) (by kernel_rfl) (fun _ _ _ h => h) (Or.inl ⟨by rfl, ?_⟩) (by assumption) ?_
        rotate_left
        · intro w' hSw; (try dsimp only at hSw); go_simp; (try with_reducible rfl)
        (try simp only [Act.put, List.setIfInBounds_toArray, List.set_cons_zero, List.set_cons_succ, List.getElem_toArray, List.getElem_cons_succ, List.getElem_cons_zero])
        refine wpAnyH_take (i := 5) (v := ?_) rfl (by kernel_rfl) (by kernel_rfl) (by kernel_rfl) (fun _ _ _ h => h) (Or.inl ⟨by rfl, ?_⟩) (by assumption) ?_
        rotate_left
        · intro w' hSw; (try dsimp only at hSw); go_simp; (try with_reducible rfl)
        (try simp only [Act.put, List.setIfInBounds_toArray, List.set_cons_zero, List.set_cons_succ, List.getElem_toArray, List.getElem_cons_succ, List.getElem_cons_zero])
        refine wpAnyH_take (i := 6) (v := ?_) rfl (by kernel_rfl) (by kernel_rfl) (by kernel_rfl) (fun _ _ _ h => h) (Or.inl ⟨by rfl, ?_⟩) (by assumption) ?_
        rotate_left
        · intro w' hSw; (try dsimp only at hSw); go_simp; (try with_reducible rfl)
        (try simp only [Act.put, List.setIfInBounds_toArray, List.set_cons_zero, List.set_cons_succ, List.getElem_toArray, List.getElem_cons_succ, List.getElem_cons_zero])
        refine wpAnyH_take (i := 7) (v := ?_) rfl (by kernel_rfl) (by kernel_rfl) (by kernel_rfl) (fun _ _ _ h => h) (Or.inl ⟨by rfl, ?_⟩) (by assumption) ?_
        rotate_left
        · intro w' hSw; (try dsimp only at hSw); go_simp; (try with_reducible rfl)
        (try simp only [Act.put, List.setIfInBounds_toArray, List.set_cons_zero, List.set_cons_succ, List.getElem_toArray, List.getElem_cons_succ, List.getElem_cons_zero])
        refine wpAnyH_take (i := 8) (v := ?_) rfl (by kernel_rfl) (by kernel_rfl) (by kernel_rfl) (fun _ _ _ h => h) (Or.inl ⟨by rfl, ?_⟩) (by assumption) ?_
        rotate_left
        · intro w' hSw; (try dsimp only at hSw); go_simp; (try with_reducible rfl)
        (try simp only [Act.put, List.setIfInBounds_toArray, List.set_cons_zero, List.set_cons_succ, List.getElem_toArray, List.getElem_cons_succ, List.getElem_cons_zero])
        refine wpAnyH_take (i := 9) (v := ?_) rfl (by kernel_rfl) (by kernel_rfl) (by kernel_rfl) (fun _ _ _ h => h) (Or.inl ⟨by rfl, ?_⟩) (by assumption) ?_
        rotate_left
        · intro w' hSw; (try dsimp only at hSw); go_simp; (try with_reducible rfl)
        (try simp only [Act.put, List.setIfInBounds_toArray, List.set_cons_zero, List.set_cons_succ, List.getElem_toArray, List.getElem_cons_succ, List.getElem_cons_zero])
        refine wpAnyH_take (i := 10) (v := ?_) rfl (by kernel_rfl) (by kernel_rfl) (by kernel_rfl) (fun _ _ _ h => h) (Or.inl ⟨by rfl, ?_⟩) (by assumption) ?_
        rotate_left
        · intro w' hSw; (try dsimp only at hSw); go_simp; (try with_reducible rfl)
        (try simp only [Act.put, List.setIfInBounds_toArray, List.set_cons_zero, List.set_cons_succ, List.getElem_toArray, List.getElem_cons_succ, List.getElem_cons_zero])
        refine wpAnyH_take (i := 11) (v := ?_) rfl (by kernel_rfl) (by kernel_rfl) (by kernel_rfl) (fun _ _ _ h => h) (Or.inl ⟨by rfl, ?_⟩) (by assumption) ?_
        rotate_left
        · intro w' hSw; (try dsimp only at hSw); go_simp; (try with_reducible rfl)
        (try simp only [Act.put, List.setIfInBounds_toArray, List.set_cons_zero, List.set_cons_succ, List.getElem_toArray, List.getElem_cons_succ, List.getElem_cons_zero])
        refine wpAnyH_take (i := 12) (v := ?_) rfl (by kernel_rfl) (by kernel_rfl) (by kernel_rfl) (fun _ _ _ h => h) (Or.inl ⟨by rfl, ?_⟩) (by assumption) ?_
        rotate_left
        · intro w' hSw; (try dsimp only at hSw); go_simp; (try with_reducible rfl)
        (try simp only [Act.put, List.setIfInBounds_toArray, List.set_cons_zero, List.set_cons_succ, List.getElem_toArray, List.getElem_cons_succ, List.getElem_cons_zero])
        refine wpAnyH_take (i := 13) (v := ?_) rfl (by kernel_rfl) (by kernel_rfl) (by kernel_rfl) (fun _ _ _ h => h) (Or.inl ⟨by rfl, ?_⟩) (by assumption) ?_
        rotate_left
        · intro w' hSw; (try dsimp only at hSw); go_simp; (try with_reducible rfl)
        (try simp only [Act.put, List.setIfInBounds_toArray, List.set_cons_zero, List.set_cons_succ, List.getElem_toArray, List.getElem_cons_succ, List.getElem_cons_zero])
        refine wpAnyH_take (i := 14) (v := ?_) rfl (by kernel_rfl) (by kernel_rfl) (by kernel_rfl) (fun _ _ _ h => h) (Or.inl ⟨by rfl, ?_⟩) (by assumption) ?_
        rotate_left
        · intro w' hSw; (try dsimp only at hSw); go_simp; (try with_reducible rfl)
        (try simp only [Act.put, List.setIfInBounds_toArray, List.set_cons_zero, List.set_cons_succ, List.getElem_toArray, List.getElem_cons_succ, List.getElem_cons_zero])
        refine wpAnyH_take (i := 15) (v := ?_) rfl (by kernel_rfl) (by kernel_rfl) (by kernel_rfl) (fun _ _ _ h => h) (Or.inl ⟨by rfl, ?_⟩) (by assumption) ?_
        rotate_left
        · intro w' hSw; (try dsimp only at hSw); go_simp; (try with_reducible rfl)
        (try simp only [Act.put, List.setIfInBounds_toArray, List.set_cons_zero, List.set_cons_succ, List.getElem_toArray, List.getElem_cons_succ, List.getElem_cons_zero])
        refine wpAnyH_take (i := 16) (v := ?_) rfl (by kernel_rfl) (by kernel_rfl) (by kernel_rfl) (fun _ _ _ h => h) (Or.inl ⟨by rfl, ?_⟩) (by assumption) ?_
        rotate_left
        · intro w' hSw; (try dsimp only at hSw); go_simp; (try with_reducible rfl)
        (try simp only [Act.put, List.setIfInBounds_toArray, List.set_cons_zero, List.set_cons_succ, List.getElem_toArray, List.getElem_cons_succ, List.getElem_cons_zero])
        refine wpAnyH_take (i := 17) (v := ?_) rfl (by kernel_rfl) (by kernel_rfl) (by kernel_rfl) (fun _ _ _ h => h) (Or.inl ⟨by rfl, ?_⟩) (by assumption) ?_
        rotate_left
        · intro w' hSw; (try dsimp only at hSw); go_simp; (try with_reducible rfl)
        (try simp only [Act.put, List.setIfInBounds_toArray, List.set_cons_zero, List.set_cons_succ, List.getElem_toArray, List.getElem_cons_succ, List.getElem_cons_zero])
        refine wpAnyH_done (by kernel_rfl) ?_ _
        go_wp2
        go_ret
        exact ⟨⟨true, rfl, fun h => by cases h⟩, _, rfl⟩
      · have t1 : decide ((8000 : Int) < (m : Int) + 20 + (K8.size : Int) + (vn : Int)) = false := by simp; omega
        have hh' : m + 20 + K8.size + vn ≤ 8000 := by omega
        have HH := Lib.hid hh'
        clear hh hh'
        go_wp2
        refine wp_region_held_drew (S := fun w' => w'.cell? ⟨B, O + k * 9 + 2, none⟩ = some (.string K8) ∧ w'.cell? ⟨B, O + k * 9 + 3 + 3, none⟩ = some (.slice x.A vn x.c)) (by kernel_rfl) ?_ (fun hHeld => ?_)
        · exact ⟨a2, a6'⟩
        refine wpAnyH_take (i := 0) (v := ?_) rfl (by kernel_rfl) (by kernel_rfl) (by kernel_rfl) (fun _ _ _ h => h) (Or.inl ⟨by rfl, ?_⟩) (by assumption) ?_
        rotate_left
        · intro w' hSw; (try dsimp only at hSw); go_simp; (try with_reducible rfl)
        (try simp only [Act.put, List.setIfInBounds_toArray, List.set_cons_zero, List.set_cons_succ, List.getElem_toArray, List.getElem_cons_succ, List.getElem_cons_zero])
        refine wpAnyH_take (i := 1) (v := ?_) rfl (by kernel_rfl) (by kernel_rfl) (by kernel_rfl) (fun _ _ _ h => h) (Or.inl ⟨by rfl, ?_⟩) (by assumption) ?_
        rotate_left
        · intro w' hSw; (try dsimp only at hSw); go_simp; (try with_reducible rfl)
        (try simp only [Act.put, List.setIfInBounds_toArray, List.set_cons_zero, List.set_cons_succ, List.getElem_toArray, List.getElem_cons_succ, List.getElem_cons_zero])
        refine wpAnyH_take (i := 2) (v := ?_) rfl (by kernel_rfl) (by kernel_rfl) (by kernel_rfl) (fun _ _ _ h => h) (Or.inl ⟨by rfl, ?_⟩) (by assumption) ?_
        rotate_left
        · intro w' hSw; (try dsimp only at hSw); go_simp; (try with_reducible rfl)
        (try simp only [Act.put, List.setIfInBounds_toArray, List.set_cons_zero, List.set_cons_succ, List.getElem_toArray, List.getElem_cons_succ, List.getElem_cons_zero])
        refine wpAnyH_take (i := 3) (v := ?_) rfl (by kernel_rfl) (by kernel_rfl) (by kernel_rfl) (fun _ _ _ h => h) (Or.inl ⟨by rfl, ?_⟩) (by assumption) ?_
        rotate_left
        · intro w' hSw; (try dsimp only at hSw); go_simp; (try with_reducible rfl)
        (try simp only [Act.put, List.setIfInBounds_toArray, List.set_cons_zero, List.set_cons_succ, List.getElem_toArray, List.getElem_cons_succ, List.getElem_cons_zero])
        refine wpAnyH_take (i := 4) (v := ?_) rfl (by kernel_rfl) (by kernel_rfl) (by kernel_rfl) (fun _ _ _ h => h) (Or.inl ⟨by rfl, ?_⟩) (by assumption) ?_
        rotate_left
        · intro w' hSw; (try dsimp only at hSw); go_simp; (try with_reducible rfl)
        (try simp only [Act.put, List.setIfInBounds_toArray, List.set_cons_zero, List.set_cons_succ, List.getElem_toArray, List.getElem_cons_succ, List.getElem_cons_zero])
        refine wpAnyH_take (i := 5) (v := ?_) rfl (by kernel_rfl) (by kernel_rfl) (by kernel_rfl) (fun _ _ _ h => h) (Or.inl ⟨by rfl, ?_⟩) (by assumption) ?_
        rotate_left
        · intro w' hSw; (try dsimp only at hSw); go_simp; (try with_reducible rfl)
        (try simp only [Act.put, List.setIfInBounds_toArray, List.set_cons_zero, List.set_cons_succ, List.getElem_toArray, List.getElem_cons_succ, List.getElem_cons_zero])
        refine wpAnyH_take (i := 6) (v := ?_) rfl (by kernel_rfl) (by kernel_rfl) (by kernel_rfl) (fun _ _ _ h => h) (Or.inl ⟨by rfl, ?_⟩) (by assumption) ?_
        rotate_left
        · intro w' hSw; (try dsimp only at hSw); go_simp; (try with_reducible rfl)
        (try simp only [Act.put, List.setIfInBounds_toArray, List.set_cons_zero, List.set_cons_succ, List.getElem_toArray, List.getElem_cons_succ, List.getElem_cons_zero])
        refine wpAnyH_take (i := 7) (v := ?_) rfl (by kernel_rfl) (by kernel_rfl) (by kernel_rfl) (fun _ _ _ h => h) (Or.inl ⟨by rfl, ?_⟩) (by assumption) ?_
        rotate_left
        · intro w' hSw; (try dsimp only at hSw); go_simp; (try with_reducible rfl)
        (try simp only [Act.put, List.setIfInBounds_toArray, List.set_cons_zero, List.set_cons_succ, List.getElem_toArray, List.getElem_cons_succ, List.getElem_cons_zero])
        refine wpAnyH_take (i := 8) (v := ?_) rfl (by kernel_rfl) (by kernel_rfl) (by kernel_rfl) (fun _ _ _ h => h) (Or.inl ⟨by rfl, ?_⟩) (by assumption) ?_
        rotate_left
        · intro w' hSw; (try dsimp only at hSw); go_simp; (try with_reducible rfl)
        (try simp only [Act.put, List.setIfInBounds_toArray, List.set_cons_zero, List.set_cons_succ, List.getElem_toArray, List.getElem_cons_succ, List.getElem_cons_zero])
        refine wpAnyH_take (i := 9) (v := ?_) rfl (by kernel_rfl) (by kernel_rfl) (by kernel_rfl) (fun _ _ _ h => h) (Or.inl ⟨by rfl, ?_⟩) (by assumption) ?_
        rotate_left
        · intro w' hSw; (try dsimp only at hSw); go_simp; (try with_reducible rfl)
        (try simp only [Act.put, List.setIfInBounds_toArray, List.set_cons_zero, List.set_cons_succ, List.getElem_toArray, List.getElem_cons_succ, List.getElem_cons_zero])
        refine wpAnyH_take (i := 10) (v := ?_) rfl (by kernel_rfl) (by kernel_rfl) (by kernel_rfl) (fun _ _ _ h => h) (Or.inl ⟨by rfl, ?_⟩) (by assumption) ?_
        rotate_left
        · intro w' hSw; (try dsimp only at hSw); go_simp; (try with_reducible rfl)
        (try simp only [Act.put, List.setIfInBounds_toArray, List.set_cons_zero, List.set_cons_succ, List.getElem_toArray, List.getElem_cons_succ, List.getElem_cons_zero])
        refine wpAnyH_take (i := 11) (v := ?_) rfl (by kernel_rfl) (by kernel_rfl) (by kernel_rfl) (fun _ _ _ h => h) (Or.inl ⟨by rfl, ?_⟩) (by assumption) ?_
        rotate_left
        · intro w' hSw; (try dsimp only at hSw); go_simp; (try with_reducible rfl)
        (try simp only [Act.put, List.setIfInBounds_toArray, List.set_cons_zero, List.set_cons_succ, List.getElem_toArray, List.getElem_cons_succ, List.getElem_cons_zero])
        refine wpAnyH_take (i := 12) (v := ?_) rfl (by kernel_rfl) (by kernel_rfl) (by kernel_rfl) (fun _ _ _ h => h) (Or.inl ⟨by rfl, ?_⟩) (by assumption) ?_
        rotate_left
        · intro w' hSw; (try dsimp only at hSw); go_simp; (try with_reducible rfl)
        (try simp only [Act.put, List.setIfInBounds_toArray, List.set_cons_zero, List.set_cons_succ, List.getElem_toArray, List.getElem_cons_succ, List.getElem_cons_zero])
        refine wpAnyH_take (i := 13) (v := ?_) rfl (by kernel_rfl) (by kernel_rfl) (by kernel_rfl) (fun _ _ _ h => h) (Or.inl ⟨by rfl, ?_⟩) (by assumption) ?_
        rotate_left
        · intro w' hSw; (try dsimp only at hSw); go_simp; (try with_reducible rfl)
        (try simp only [Act.put, List.setIfInBounds_toArray, List.set_cons_zero, List.set_cons_succ, List.getElem_toArray, List.getElem_cons_succ, List.getElem_cons_zero])
        refine wpAnyH_take (i := 14) (v := ?_) rfl (by kernel_rfl) (by kernel_rfl) (by kernel_rfl) (fun _ _ _ h => h) (Or.inl ⟨by rfl, ?_⟩) (by assumption) ?_
        rotate_left
        · intro w' hSw; (try dsimp only at hSw); go_simp; (try with_reducible rfl)
        (try simp only [Act.put, List.setIfInBounds_toArray, List.set_cons_zero, List.set_cons_succ, List.getElem_toArray, List.getElem_cons_succ, List.getElem_cons_zero])
        refine wpAnyH_take (i := 15) (v := ?_) rfl (by kernel_rfl) (by kernel_rfl) (by kernel_rfl) (fun _ _ _ h => h) (Or.inl ⟨by rfl, ?_⟩) (by assumption) ?_
        rotate_left
        · intro w' hSw; (try dsimp only at hSw); go_simp; (try with_reducible rfl)
        (try simp only [Act.put, List.setIfInBounds_toArray, List.set_cons_zero, List.set_cons_succ, List.getElem_toArray, List.getElem_cons_succ, List.getElem_cons_zero])
        refine wpAnyH_take (i := 16) (v := ?_) rfl (by kernel_rfl) (by kernel_rfl) (by kernel_rfl) (fun _ _ _ h => h) (Or.inl ⟨by rfl, ?_⟩) (by assumption) ?_
        rotate_left
        · intro w' hSw; (try dsimp only at hSw); go_simp; (try with_reducible rfl)
        (try simp only [Act.put, List.setIfInBounds_toArray, List.set_cons_zero, List.set_cons_succ, List.getElem_toArray, List.getElem_cons_succ, List.getElem_cons_zero])
        refine wpAnyH_take (i := 17) (v := ?_) rfl (by kernel_rfl) (by kernel_rfl) (by kernel_rfl) (fun _ _ _ h => h) (Or.inl ⟨by rfl, ?_⟩) (by assumption) ?_
        rotate_left
        · intro w' hSw; (try dsimp only at hSw); go_simp; (try with_reducible rfl)
        (try simp only [Act.put, List.setIfInBounds_toArray, List.set_cons_zero, List.set_cons_succ, List.getElem_toArray, List.getElem_cons_succ, List.getElem_cons_zero])
        refine wpAnyH_done (by kernel_rfl) ?_ _
        go_wp2
        go_roundw
        case rel => exact ⟨k + 1, m + 20 + K8.size + vn, by omega, by go_num, by push_cast; rfl, by omega, HH.out, _, rfl⟩
        case measure => simp [intOf]; omega
    · obtain rfl : k = L.length := by omega
      clear HC HS hlt
      go_wp2
      go_ret
      exact ⟨⟨false, rfl, fun _ => by omega⟩, q, rfl⟩
end Go.Proofs.YtdffldlcbihjmaaDoor
