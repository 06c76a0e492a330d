/- records: two rows of records, one by one. -/
import Derived.Test.YtdffldlcbihjmaaDoorRecRow
import Derived.Test.YtdffldlcbihjmaaDoorSameR
import Derived.BigQuiet
set_option linter.unusedSimpArgs false
set_option linter.unusedVariables false
namespace Go.Proofs.YtdffldlcbihjmaaDoor
open Go.RowKit

/-- A row of records that lies in memory: a slice of its own. -/
structure RowAt (w : World) (v : Value) (L : List Mr) : Prop where
  ex : ∃ A c, v = .slice A L.length c ∧ (0 < L.length → ∃ B O, A = some ⟨B, O, none⟩ ∧ B < w.heap.size ∧ ∀ j u, (rowM L)[j]? = some u → w.cell? ⟨B, O + j, none⟩ = some u)
theorem RowAt.of {w : World} {base : Nat} {v : Value} {L : List Mr} (h : w.ownsRow base 89 9 v L.length (rowM L)) : RowAt w v L := by
  have hc0 := fun g hg => World.ownsRow.cells h (g := g) hg
  rcases h.2 with ⟨rfl, h0⟩ | ⟨g, cap, cur, rfl, hb', hh, h1, _⟩
  · exact ⟨none, 0, by rw [h0], fun hn => absurd hn (by omega)⟩
  · exact ⟨_, _, rfl, fun _ => ⟨g, 0, rfl, (World.ownsRow.lt h g rfl).2, fun j u hj => by
      have := hc0 g rfl j _ hj
      rwa [at_add] at this⟩⟩
theorem RowAt.below {w w' : World} {v : Value} {L : List Mr} (h : RowAt w v L) (k : Below w.heap.size w w') : RowAt w' v L := by
  obtain ⟨A, c, e, hc⟩ := h.ex
  refine ⟨A, c, e, fun h0 => ?_⟩
  obtain ⟨B, O, e2, hB, hcc⟩ := hc h0
  exact ⟨B, O, e2, Nat.lt_of_lt_of_le hB k.size, fun j u hu => (k.cell (p := ⟨B, O + j, none⟩) hB).trans (hcc j u hu)⟩
set_option maxRecDepth 100000 in
set_option maxHeartbeats 4000000 in
theorem law_records (v v' : Value) (L L' : List Mr) (w : World) (h : RowAt w v L) (h' : RowAt w v' L') (ha : ∀ m ∈ L, m.At (fun _ => True) w) (ha' : ∀ m ∈ L', m.At (fun _ => True) w) (hb : ∀ m ∈ L, isBy m.r.val) (he : L.map Mr.r = L'.map Mr.r) (hl : L.length ≤ 100000) :
    Calls Tryd.prog 57 #[v, v'] w fun e w' => e = .returned (.bool true) ∧ Below w.heap.size w w' := by
  obtain ⟨A, c, rfl, hc⟩ := h.ex
  obtain ⟨A', c', rfl, hc'⟩ := h'.ex
  have hll : L'.length = L.length := by have := congrArg List.length he; simpa using this.symm
  have HC := Lib.hid (And.intro hc hc')
  have HA := Lib.hid (And.intro ha (And.intro ha' hb))
  have HE := Lib.hid he
  have HLL := Lib.hid hll
  have hni : (L.length : Int) ≤ 100000 := by omega
  rw [hll]
  clear h h' hc hc' ha ha' hb he hl hll
  go_enter Tryd.func57, Tryd.ntmps57
  go_wp2
  go_loopw [5] (fun i wr => ∃ k : Nat, k ≤ L.length ∧ i = .int .i64 k ∧ Below w.heap.size w wr) (fun i _ => L.length - (intOf i).toNat)
  case atStart => exact ⟨0, Nat.zero_le _, rfl, Below.refl _ _⟩
  case round =>
    obtain ⟨k, hk, rfl, hB⟩ := hrel
    by_cases hlt : k < L.length
    · have lk : (k : Int) < (L.length : Int) := by omega
      obtain ⟨B, O, rfl, hBl, hcell⟩ := HC.out.1 (by omega)
      obtain ⟨B', O', rfl, hBl', hcell'⟩ := HC.out.2 (by have := HLL.out; omega)
      have hlt' : k < L'.length := by have := HLL.out; omega
      have hx : L[k]? = some L[k] := List.getElem?_eq_getElem hlt
      have hx' : L'[k]? = some L'[k] := List.getElem?_eq_getElem hlt'
      have hm := HA.out.1 L[k] (List.getElem_mem hlt)
      have hm' := HA.out.2.1 L'[k] (List.getElem_mem hlt')
      have hbv := HA.out.2.2 L[k] (List.getElem_mem hlt)
      have hr : L[k].r = L'[k].r := by
        have := congrArg (fun l => l[k]?) HE.out
        simpa [hx, hx'] using this
      generalize L[k] = x at *
      generalize L'[k] = x' at *
      have HKEEP : Hid (∀ W, Below w.heap.size w W → W.cell? ⟨B, O + k * 9, none⟩ = some (.int .i64 x.r.o) ∧ W.cell? ⟨B, O + k * 9 + 1, none⟩ = some (.int .i64 x.r.s) ∧ W.cell? ⟨B, O + k * 9 + 2, none⟩ = some (.string (strB x.r.key)) ∧ W.cell? ⟨B, O + k * 9 + 3, none⟩ = some (.int .i64 x.r.ml) ∧ W.cell? ⟨B, O + k * 9 + 4, none⟩ = some (.int .i64 x.r.ct) ∧ W.cell? ⟨B, O + k * 9 + 5, none⟩ = some (.int .i64 x.r.vo) ∧ W.cell? ⟨B, O + k * 9 + 6, none⟩ = some (.slice x.A x.r.val.length x.c) ∧ W.cell? ⟨B, O + k * 9 + 7, none⟩ = some (.bool x.r.gone) ∧ W.cell? ⟨B, O + k * 9 + 8, none⟩ = some (.int .i64 x.r.tt) ∧ W.cell? ⟨B', O' + k * 9, none⟩ = some (.int .i64 x'.r.o) ∧ W.cell? ⟨B', O' + k * 9 + 1, none⟩ = some (.int .i64 x'.r.s) ∧ W.cell? ⟨B', O' + k * 9 + 2, none⟩ = some (.string (strB x'.r.key)) ∧ W.cell? ⟨B', O' + k * 9 + 3, none⟩ = some (.int .i64 x'.r.ml) ∧ W.cell? ⟨B', O' + k * 9 + 4, none⟩ = some (.int .i64 x'.r.ct) ∧ W.cell? ⟨B', O' + k * 9 + 5, none⟩ = some (.int .i64 x'.r.vo) ∧ W.cell? ⟨B', O' + k * 9 + 6, none⟩ = some (.slice x'.A x'.r.val.length x'.c) ∧ W.cell? ⟨B', O' + k * 9 + 7, none⟩ = some (.bool x'.r.gone) ∧ W.cell? ⟨B', O' + k * 9 + 8, none⟩ = some (.int .i64 x'.r.tt)) := Lib.hid (fun W hW => ⟨((hW.cell (p := ⟨B, O + k * 9, none⟩) hBl).trans (hcell (k * 9) _ (by have := rowM_at hx 0 (by omega); rwa [Nat.add_zero] at this))), (by rw [Nat.add_assoc]; exact (hW.cell (p := ⟨B, O + (k * 9 + 1), none⟩) hBl).trans (hcell _ _ (rowM_at hx 1 (by omega)))), (by rw [Nat.add_assoc]; exact (hW.cell (p := ⟨B, O + (k * 9 + 2), none⟩) hBl).trans (hcell _ _ (rowM_at hx 2 (by omega)))), (by rw [Nat.add_assoc]; exact (hW.cell (p := ⟨B, O + (k * 9 + 3), none⟩) hBl).trans (hcell _ _ (rowM_at hx 3 (by omega)))), (by rw [Nat.add_assoc]; exact (hW.cell (p := ⟨B, O + (k * 9 + 4), none⟩) hBl).trans (hcell _ _ (rowM_at hx 4 (by omega)))), (by rw [Nat.add_assoc]; exact (hW.cell (p := ⟨B, O + (k * 9 + 5), none⟩) hBl).trans (hcell _ _ (rowM_at hx 5 (by omega)))), (by rw [Nat.add_assoc]; exact (hW.cell (p := ⟨B, O + (k * 9 + 6), none⟩) hBl).trans (hcell _ _ (rowM_at hx 6 (by omega)))), (by rw [Nat.add_assoc]; exact (hW.cell (p := ⟨B, O + (k * 9 + 7), none⟩) hBl).trans (hcell _ _ (rowM_at hx 7 (by omega)))), (by rw [Nat.add_assoc]; exact (hW.cell (p := ⟨B, O + (k * 9 + 8), none⟩) hBl).trans (hcell _ _ (rowM_at hx 8 (by omega)))), ((hW.cell (p := ⟨B', O' + k * 9, none⟩) hBl').trans (hcell' (k * 9) _ (by have := rowM_at hx' 0 (by omega); rwa [Nat.add_zero] at this))), (by rw [Nat.add_assoc]; exact (hW.cell (p := ⟨B', O' + (k * 9 + 1), none⟩) hBl').trans (hcell' _ _ (rowM_at hx' 1 (by omega)))), (by rw [Nat.add_assoc]; exact (hW.cell (p := ⟨B', O' + (k * 9 + 2), none⟩) hBl').trans (hcell' _ _ (rowM_at hx' 2 (by omega)))), (by rw [Nat.add_assoc]; exact (hW.cell (p := ⟨B', O' + (k * 9 + 3), none⟩) hBl').trans (hcell' _ _ (rowM_at hx' 3 (by omega)))), (by rw [Nat.add_assoc]; exact (hW.cell (p := ⟨B', O' + (k * 9 + 4), none⟩) hBl').trans (hcell' _ _ (rowM_at hx' 4 (by omega)))), (by rw [Nat.add_assoc]; exact (hW.cell (p := ⟨B', O' + (k * 9 + 5), none⟩) hBl').trans (hcell' _ _ (rowM_at hx' 5 (by omega)))), (by rw [Nat.add_assoc]; exact (hW.cell (p := ⟨B', O' + (k * 9 + 6), none⟩) hBl').trans (hcell' _ _ (rowM_at hx' 6 (by omega)))), (by rw [Nat.add_assoc]; exact (hW.cell (p := ⟨B', O' + (k * 9 + 7), none⟩) hBl').trans (hcell' _ _ (rowM_at hx' 7 (by omega)))), (by rw [Nat.add_assoc]; exact (hW.cell (p := ⟨B', O' + (k * 9 + 8), none⟩) hBl').trans (hcell' _ _ (rowM_at hx' 8 (by omega))))⟩)
      have HS : Hid (∀ W, Below w.heap.size w W → Calls Tryd.prog 76 #[recV x.r.o x.r.s (strB x.r.key) x.r.ml x.r.ct x.r.vo x.A x.r.val.length x.c x.r.gone x.r.tt, recV x'.r.o x'.r.s (strB x'.r.key) x'.r.ml x'.r.ct x'.r.vo x'.A x'.r.val.length x'.c x'.r.gone x'.r.tt] W fun e w' => e = .returned (.bool true) ∧ Below W.heap.size W w') := Lib.hid (fun W hW => by
        have q := ref_same x.r.o x.r.s (strB x.r.key) x.r.ml x.r.ct x.r.vo x.r.val x.r.gone x.r.tt x.A x.c x'.r.o x'.r.s (strB x'.r.key) x'.r.ml x'.r.ct x'.r.vo x'.r.val x'.r.gone x'.r.tt x'.A x'.c W (hm.b.below hW) hbv hm.n (hm'.b.below hW) (hr ▸ hbv) hm'.n
        rw [show sameRB x.r.o x.r.s (strB x.r.key) x.r.ml x.r.ct x.r.vo x.r.val x.r.gone x.r.tt x'.r.o x'.r.s (strB x'.r.key) x'.r.ml x'.r.ct x'.r.vo x'.r.val x'.r.gone x'.r.tt = true from by rw [hr]; simp [sameRB, sameVB]] at q
        exact q)
      have hi1 : ((k : Int).toNat) = k := by simp
      have lk' : (k : Int) < (L'.length : Int) := by omega
      have HB1 := Lib.hid hB
      clear hm hm' hbv hr hcell hcell' hx hx' hB hlt'
      go_wp2_with fail
      refine wp_region_held_drew (S := fun w' => w'.cell? ⟨B, O + k * 9, none⟩ = some (.int .i64 x.r.o) ∧ w'.cell? ⟨B, O + k * 9 + 1, none⟩ = some (.int .i64 x.r.s) ∧ w'.cell? ⟨B, O + k * 9 + 2, none⟩ = some (.string (strB x.r.key)) ∧ w'.cell? ⟨B, O + k * 9 + 3, none⟩ = some (.int .i64 x.r.ml) ∧ w'.cell? ⟨B, O + k * 9 + 4, none⟩ = some (.int .i64 x.r.ct) ∧ w'.cell? ⟨B, O + k * 9 + 5, none⟩ = some (.int .i64 x.r.vo) ∧ w'.cell? ⟨B, O + k * 9 + 6, none⟩ = some (.slice x.A x.r.val.length x.c) ∧ w'.cell? ⟨B, O + k * 9 + 7, none⟩ = some (.bool x.r.gone) ∧ w'.cell? ⟨B, O + k * 9 + 8, none⟩ = some (.int .i64 x.r.tt) ∧ w'.cell? ⟨B', O' + k * 9, none⟩ = some (.int .i64 x'.r.o) ∧ w'.cell? ⟨B', O' + k * 9 + 1, none⟩ = some (.int .i64 x'.r.s) ∧ w'.cell? ⟨B', O' + k * 9 + 2, none⟩ = some (.string (strB x'.r.key)) ∧ w'.cell? ⟨B', O' + k * 9 + 3, none⟩ = some (.int .i64 x'.r.ml) ∧ w'.cell? ⟨B', O' + k * 9 + 4, none⟩ = some (.int .i64 x'.r.ct) ∧ w'.cell? ⟨B', O' + k * 9 + 5, none⟩ = some (.int .i64 x'.r.vo) ∧ w'.cell? ⟨B', O' + k * 9 + 6, none⟩ = some (.slice x'.A x'.r.val.length x'.c) ∧ w'.cell? ⟨B', O' + k * 9 + 7, none⟩ = some (.bool x'.r.gone) ∧ w'.cell? ⟨B', O' + k * 9 + 8, none⟩ = some (.int .i64 x'.r.tt)) (by kernel_rfl) ?_ (fun hHeld => ?_)
      · exact HKEEP.out _ HB1.out.drew
      refine wpAnyH_take (i := 0) (v := ?_) rfl (by kernel_rfl) (by kernel_rfl) (by kernel_rfl) (fun _ _ _ h => h) (Or.inl ⟨by rfl, ?_⟩) (by assumption) ?_
      rotate_left
      · intro w' hSw; (try dsimp only at hSw); go_simp; (try with_reducible rfl)
      (try simp only [Act.put, List.setIfInBounds_toArray, List.set_cons_zero, List.set_cons_succ, List.getElem_toArray, List.getElem_cons_succ, List.getElem_cons_zero])
      refine wpAnyH_take (i := 1) (v := ?_) rfl (by kernel_rfl) (by kernel_rfl) (by kernel_rfl) (fun _ _ _ h => h) (Or.inl ⟨by rfl, ?_⟩) (by assumption) ?_
      rotate_left
      · intro w' hSw; (try dsimp only at hSw); go_simp; (try with_reducible rfl)
      (try simp only [Act.put, List.setIfInBounds_toArray, List.set_cons_zero, List.set_cons_succ, List.getElem_toArray, List.getElem_cons_succ, List.getElem_cons_zero])
      refine wpAnyH_take (i := 2) (v := ?_) rfl (by kernel_rfl) (by kernel_rfl) (by kernel_rfl) (fun _ _ _ h => h) (Or.inl ⟨by rfl, ?_⟩) (by assumption) ?_
      rotate_left
      · intro w' hSw; (try dsimp only at hSw); go_simp; (try with_reducible rfl)
      (try simp only [Act.put, List.setIfInBounds_toArray, List.set_cons_zero, List.set_cons_succ, List.getElem_toArray, List.getElem_cons_succ, List.getElem_cons_zero])
      refine wpAnyH_take (i := 3) (v := ?_) rfl (by kernel_rfl) (by kernel_rfl) (by kernel_rfl) (fun _ _ _ h => h) (Or.inl ⟨by rfl, ?_⟩) (by assumption) ?_
      rotate_left
      · intro w' hSw; (try dsimp only at hSw); go_simp; (try with_reducible rfl)
      (try simp only [Act.put, List.setIfInBounds_toArray, List.set_cons_zero, List.set_cons_succ, List.getElem_toArray, List.getElem_cons_succ, List.getElem_cons_zero])
      refine wpAnyH_take (i := 4) (v := ?_) rfl (by kernel_rfl) (by kernel_rfl) (by kernel_rfl) (fun _ _ _ h => h) (Or.inl ⟨by rfl, ?_⟩) (by assumption) ?_
      rotate_left
      · intro w' hSw; (try dsimp only at hSw); go_simp; (try with_reducible rfl)
      (try simp only [Act.put, List.setIfInBounds_toArray, List.set_cons_zero, List.set_cons_succ, List.getElem_toArray, List.getElem_cons_succ, List.getElem_cons_zero])
      refine wpAnyH_take (i := 5) (v := ?_) rfl (by kernel_rfl) (by kernel_rfl) (by kernel_rfl) (fun _ _ _ h => h) (Or.inl ⟨by rfl, ?_⟩) (by assumption) ?_
      rotate_left
      · intro w' hSw; (try dsimp only at hSw); go_simp; (try with_reducible rfl)
      (try simp only [Act.put, List.setIfInBounds_toArray, List.set_cons_zero, List.set_cons_succ, List.getElem_toArray, List.getElem_cons_succ, List.getElem_cons_zero])
      refine wpAnyH_take (i := 6) (v := ?_) rfl (by kernel_rfl) (by kernel_rfl) (by kernel_rfl) (fun _ _ _ h => h) (Or.inl ⟨by rfl, ?_⟩) (by assumption) ?_
      rotate_left
      · intro w' hSw; (try dsimp only at hSw); go_simp; (try with_reducible rfl)
      (try simp only [Act.put, List.setIfInBounds_toArray, List.set_cons_zero, List.set_cons_succ, List.getElem_toArray, List.getElem_cons_succ, List.getElem_cons_zero])
      refine wpAnyH_take (i := 7) (v := ?_) rfl (by kernel_rfl) (by kernel_rfl) (by kernel_rfl) (fun _ _ _ h => h) (Or.inl ⟨by rfl, ?_⟩) (by assumption) ?_
      rotate_left
      · intro w' hSw; (try dsimp only at hSw); go_simp; (try with_reducible rfl)
      (try simp only [Act.put, List.setIfInBounds_toArray, List.set_cons_zero, List.set_cons_succ, List.getElem_toArray, List.getElem_cons_succ, List.getElem_cons_zero])
      refine wpAnyH_ready (rs := [8]) (by kernel_rfl) (by simp) ?_
      refine AllReadyH.cons rfl (fun K hK => ?_) AllReadyH.nil
      go_simp
      (go_at_call 76; refine (HS.out _ HB1.out.drew).mono ?_; rintro e W2 ⟨rfl, k2⟩; have HB2 := HB1.out.drew.trans (k2.mono HB1.out.drew.size))
      (try dsimp only)
      refine hK.out _ _ ?_ (fun hHeld => ?_)
      · exact HKEEP.out _ HB2
      clear hK K
      (try simp only [Act.put, List.setIfInBounds_toArray, List.set_cons_zero, List.set_cons_succ, List.getElem_toArray, List.getElem_cons_succ, List.getElem_cons_zero])
      refine wpAnyH_take (i := 9) (v := ?_) rfl (by kernel_rfl) (by kernel_rfl) (by kernel_rfl) (fun _ _ _ h => h) (Or.inl ⟨by rfl, ?_⟩) (by assumption) ?_
      rotate_left
      · intro w' hSw; (try dsimp only at hSw); go_simp; (try with_reducible rfl)
      (try simp only [Act.put, List.setIfInBounds_toArray, List.set_cons_zero, List.set_cons_succ, List.getElem_toArray, List.getElem_cons_succ, List.getElem_cons_zero])
      refine wpAnyH_done (by kernel_rfl) ?_ _
      go_wp2
      go_roundw
      case rel => exact ⟨k + 1, by omega, by go_num, HB2⟩
      case measure => simp [intOf]; omega
    · obtain rfl : k = L.length := by omega
      have HB1 := Lib.hid hB
      clear hB hlt
      go_wp2
      go_ret
      exact ⟨rfl, HB1.out⟩
end Go.Proofs.YtdffldlcbihjmaaDoor
