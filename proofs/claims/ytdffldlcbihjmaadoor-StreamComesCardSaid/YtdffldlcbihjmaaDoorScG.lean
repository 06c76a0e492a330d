/- The reference's Decode of a word (written by gen/refwddec.py). -/
import Derived.Test.YtdffldlcbihjmaaDoorG17a
import Derived.Test.YtdffldlcbihjmaaDoorG17c
import Derived.Test.YtdffldlcbihjmaaDoorG17d
import Derived.Test.YtdffldlcbihjmaaDoorG18a
import Derived.Test.YtdffldlcbihjmaaDoorOctMem
import Derived.Test.YtdffldlcbihjmaaDoorRecordsR
import Derived.Test.YtdffldlcbihjmaaDoorWdEnc
/- The law's same: whether two rows of bytes are one (written by gen/lawbits.py). -/
set_option linter.unusedSimpArgs false
set_option linter.unusedVariables false
namespace Go.Proofs.YtdffldlcbihjmaaDoor
open Go.RowKit

theorem take_same18 {p p' : List Int} {k : Nat} (h : p.length = p'.length) (hk : k < p.length) : p.take (k + 1) = p'.take (k + 1) ↔ (p.take k = p'.take k ∧ p[k] = p'[k]) := by
  have e1 := List.take_succ_eq_append_getElem hk
  have e2 := List.take_succ_eq_append_getElem (show k < p'.length by omega)
  rw [e1, e2]
  constructor
  · intro e
    have := List.append_inj e (by simp [List.length_take]; omega)
    exact ⟨this.1, by simpa using this.2⟩
  · rintro ⟨a, b⟩
    rw [a, b]
set_option maxHeartbeats 1000000 in
theorem lsame18 (A : Option Addr) (p : List Int) (c : Nat) (A' : Option Addr) (p' : List Int) (c' : Nat) (w : World) (hn : p.length ≤ 1000000) (hn' : p'.length ≤ 1000000) (h : ByL w A p) (h' : ByL w A' p') :
    Calls Tryd.prog 73 #[.slice A p.length c, .slice A' p'.length c'] w fun e w' => e = .returned (.bool (decide (p = p'))) ∧ ∃ q, w' = w.drewN q := by
  by_cases hne : p.length = p'.length
  · have HA := Lib.hid h
    have HA' := Lib.hid h'
    have HL := Lib.hid hne
    have HD : Hid (∀ k (q : k < p.length), p[k] ≠ p'[k]'(by rw [← HL.out]; exact q) → decide (p = p') = false) := Lib.hid (fun k q hk => by
      rw [decide_eq_false_iff_not]
      rintro rfl
      exact hk rfl)
    have HY : Hid (p.take p.length = p'.take p.length → decide (p = p') = true) := Lib.hid (fun e => by
      rw [decide_eq_true_eq]
      rw [List.take_length, hne, List.take_length] at e
      exact e)
    have t0 : ((p.length : Int) != (p'.length : Int)) = false := by simp [hne]
    have t0' : (p.length != p'.length) = false := by simp [hne]
    clear h h' hne
    have hni : (p.length : Int) ≤ 1000000 := by omega
    go_enter Tryd.func73, Tryd.ntmps73
    go_wp2
    go_loopw [5] (fun i wr => ∃ k : Nat, k ≤ p.length ∧ i = .int .i64 k ∧ p.take k = p'.take k ∧ ∃ q, wr = w.drewN q) (fun i _ => p.length - (intOf i).toNat)
    case atStart => exact ⟨0, Nat.zero_le _, rfl, by simp, 0, rfl⟩
    case round =>
      obtain ⟨k, hk, rfl, hE, q, hW⟩ := hrel
      by_cases hlt : k < p.length
      · obtain ⟨B, O, rfl, hB, hc⟩ := HA.out (by omega)
        obtain ⟨B', O', rfl, hB', hc'⟩ := HA'.out (by have := HL.out; omega)
        have hlt' : k < p'.length := by have := HL.out; omega
        have x0 : wr.cell? ⟨B, O + k, none⟩ = some (.int .u8 p[k]) := by rw [hW]; exact hc k _ (bC_at p k hlt)
        have x1 : wr.cell? ⟨B', O' + k, none⟩ = some (.int .u8 p'[k]) := by rw [hW]; exact hc' k _ (bC_at p' k hlt')
        have lk : (k : Int) < (p.length : Int) := by omega
        have lk' : (k : Int) < (p'.length : Int) := by omega
        have HS := Lib.hid (take_same18 HL.out hlt)
        have HN := Lib.hid (HD.out k hlt)
        have HW := Lib.hid hW
        have HE := Lib.hid hE
        clear hc hc' hW hE HD
        generalize p[k] = a at *
        generalize p'[k] = b at *
        by_cases hab : a = b
        · have t1 : (a != b) = false := by simp [hab]
          have HS2 : Hid (p.take (k + 1) = p'.take (k + 1)) := Lib.hid (HS.out.2 ⟨HE.out, hab⟩)
          clear hab HS HN
          go_wp2
          go_quiet (fail)
          go_wp2
          go_roundw
          case rel => exact ⟨k + 1, by omega, by go_num, HS2.out, q + nq, by rw [HW.out]; simp [World.drewN, Nat.add_assoc]⟩
          case measure => simp [intOf]; omega
        · have t1 : (a != b) = true := by simpa using hab
          have HN2 := Lib.hid (HN.out hab)
          clear hab HN HS
          go_wp2
          go_quiet (fail)
          go_wp2
          go_ret
          exact ⟨by rw [HN2.out]; rfl, q + nq, by rw [HW.out]; simp [World.drewN, Nat.add_assoc]⟩
      · obtain rfl : k = p.length := by omega
        have HE := Lib.hid (HY.out hE)
        clear hE HY HD
        have HW := Lib.hid hW
        clear hW
        go_wp2
        go_ret
        exact ⟨by rw [HE.out]; rfl, q, HW.out⟩
  · have t0 : ((p.length : Int) != (p'.length : Int)) = true := by simp; omega
    have t0' : (p.length != p'.length) = true := by simpa using hne
    have HEB : Hid (decide (p = p') = false) := Lib.hid (by rw [decide_eq_false_iff_not]; rintro rfl; exact hne rfl)
    clear hne
    go_enter Tryd.func73, Tryd.ntmps73
    go_wp2
    go_ret
    exact ⟨by rw [HEB.out]; rfl, 0, rfl⟩
theorem drewN_below18 (w : World) (q : Nat) : Below w.heap.size w (w.drewN q) := below_drewN (Below.refl _ _) q
end Go.Proofs.YtdffldlcbihjmaaDoor

/- records, heavy of package meridianlaw18: whether two rows of records are one (written by gen/recs18.py). -/
namespace Go.Proofs.YtdffldlcbihjmaaDoor
open Go.RowKit

theorem sameRB_iff18 {a b : Rc} (ha : isBy a.key) (hb : isBy b.key) : sameRB a.o a.s (strB a.key) a.ml a.ct a.vo a.val a.gone a.tt b.o b.s (strB b.key) b.ml b.ct b.vo b.val b.gone b.tt = true ↔ a = b := by
  obtain ⟨o, s, key, ml, ct, vo, val, gone, tt⟩ := a
  obtain ⟨o', s', key', ml', ct', vo', val', gone', tt'⟩ := b
  simp only [sameRB, sameVB, Bool.and_eq_true, decide_eq_true_eq, Rc.mk.injEq, strB_inj ha hb]
set_option maxRecDepth 100000 in
set_option maxHeartbeats 4000000 in
theorem law_recs18 (v v' : Value) (L L' : List Mr) (w : World) (h : RowAt w v L) (h' : RowAt w v' L') (ha : ∀ m ∈ L, m.At (fun _ => True) w) (ha' : ∀ m ∈ L', m.At (fun _ => True) w) (hb : ∀ m ∈ L, isBy m.r.val) (hbk : ∀ m ∈ L, isBy m.r.key) (hb' : ∀ m ∈ L', isBy m.r.key ∧ isBy m.r.val) (hl : L.length ≤ 100000) :
    Calls Tryd.prog 42 #[v, v'] w fun e w' => (∃ b, e = .returned (.bool b) ∧ (b = true ↔ L.map Mr.r = L'.map Mr.r)) ∧ Below w.heap.size w w' := by
  obtain ⟨A, c, rfl, hc⟩ := h.ex
  obtain ⟨A', c', rfl, hc'⟩ := h'.ex
  by_cases hll : L'.length = L.length
  rotate_left
  · have t0 : ((L.length : Int) != (L'.length : Int)) = true := by simp only [bne_iff_ne, ne_eq]; omega
    have t0' : (L.length != L'.length) = true := by simp only [bne_iff_ne, ne_eq]; omega
    have HN : Hid (¬ L.map Mr.r = L'.map Mr.r) := Lib.hid (fun q => hll (by have := congrArg List.length q; simpa using this.symm))
    clear h h' hc hc' ha ha' hb hbk hb' hll hl
    go_enter Tryd.func42, Tryd.ntmps42
    go_wp2
    go_ret
    exact ⟨⟨false, rfl, by simp; exact HN.out⟩, Below.refl _ _⟩
  have HC := Lib.hid (And.intro hc hc')
  have HA := Lib.hid (And.intro ha (And.intro ha' (And.intro hb (And.intro hbk hb'))))
  have HLL := Lib.hid hll
  have hni : (L.length : Int) ≤ 100000 := by omega
  rw [hll]
  clear h h' hc hc' ha ha' hb hbk hb' hl hll
  go_enter Tryd.func42, Tryd.ntmps42
  go_wp2
  go_loopw [5] (fun i wr => ∃ k : Nat, k ≤ L.length ∧ i = .int .i64 k ∧ Below w.heap.size w wr ∧ Hid ((L.map Mr.r).take k = (L'.map Mr.r).take k)) (fun i _ => L.length - (intOf i).toNat)
  case atStart => exact ⟨0, Nat.zero_le _, rfl, Below.refl _ _, Lib.hid rfl⟩
  case round =>
    obtain ⟨k, hk, rfl, hB, HTK⟩ := hrel
    by_cases hlt : k < L.length
    · have lk : (k : Int) < (L.length : Int) := by omega
      obtain ⟨B, O, rfl, hBl, hcell⟩ := HC.out.1 (by omega)
      obtain ⟨B', O', rfl, hBl', hcell'⟩ := HC.out.2 (by have := HLL.out; omega)
      have hlt' : k < L'.length := by have := HLL.out; omega
      have hx : L[k]? = some L[k] := List.getElem?_eq_getElem hlt
      have hx' : L'[k]? = some L'[k] := List.getElem?_eq_getElem hlt'
      have hm := HA.out.1 L[k] (List.getElem_mem hlt)
      have hm' := HA.out.2.1 L'[k] (List.getElem_mem hlt')
      have hbv := HA.out.2.2.1 L[k] (List.getElem_mem hlt)
      have hbkk := HA.out.2.2.2.1 L[k] (List.getElem_mem hlt)
      have hbv' := HA.out.2.2.2.2 L'[k] (List.getElem_mem hlt')
      have HTN : Hid (L[k].r = L'[k].r → (L.map Mr.r).take (k + 1) = (L'.map Mr.r).take (k + 1)) := Lib.hid (fun q => by
        rw [List.take_succ_eq_append_getElem (by simpa using hlt), List.take_succ_eq_append_getElem (by simpa using hlt'), HTK.out]
        simp [q])
      have HTF : Hid (L[k].r ≠ L'[k].r → ¬ L.map Mr.r = L'.map Mr.r) := Lib.hid (fun q e => q (by
        have := congrArg (fun l => l[k]?) e
        simpa [hlt, hlt'] using this))
      clear HTK
      generalize L[k] = x at *
      generalize L'[k] = x' at *
      have HKEEP : Hid (∀ W, Below w.heap.size w W → W.cell? ⟨B, O + k * 9, none⟩ = some (.int .i64 x.r.o) ∧ W.cell? ⟨B, O + k * 9 + 1, none⟩ = some (.int .i64 x.r.s) ∧ W.cell? ⟨B, O + k * 9 + 2, none⟩ = some (.string (strB x.r.key)) ∧ W.cell? ⟨B, O + k * 9 + 3, none⟩ = some (.int .i64 x.r.ml) ∧ W.cell? ⟨B, O + k * 9 + 4, none⟩ = some (.int .i64 x.r.ct) ∧ W.cell? ⟨B, O + k * 9 + 5, none⟩ = some (.int .i64 x.r.vo) ∧ W.cell? ⟨B, O + k * 9 + 6, none⟩ = some (.slice x.A x.r.val.length x.c) ∧ W.cell? ⟨B, O + k * 9 + 7, none⟩ = some (.bool x.r.gone) ∧ W.cell? ⟨B, O + k * 9 + 8, none⟩ = some (.int .i64 x.r.tt) ∧ W.cell? ⟨B', O' + k * 9, none⟩ = some (.int .i64 x'.r.o) ∧ W.cell? ⟨B', O' + k * 9 + 1, none⟩ = some (.int .i64 x'.r.s) ∧ W.cell? ⟨B', O' + k * 9 + 2, none⟩ = some (.string (strB x'.r.key)) ∧ W.cell? ⟨B', O' + k * 9 + 3, none⟩ = some (.int .i64 x'.r.ml) ∧ W.cell? ⟨B', O' + k * 9 + 4, none⟩ = some (.int .i64 x'.r.ct) ∧ W.cell? ⟨B', O' + k * 9 + 5, none⟩ = some (.int .i64 x'.r.vo) ∧ W.cell? ⟨B', O' + k * 9 + 6, none⟩ = some (.slice x'.A x'.r.val.length x'.c) ∧ W.cell? ⟨B', O' + k * 9 + 7, none⟩ = some (.bool x'.r.gone) ∧ W.cell? ⟨B', O' + k * 9 + 8, none⟩ = some (.int .i64 x'.r.tt)) := Lib.hid (fun W hW => ⟨((hW.cell (p := ⟨B, O + k * 9, none⟩) hBl).trans (hcell (k * 9) _ (by have := rowM_at hx 0 (by omega); rwa [Nat.add_zero] at this))), (by rw [Nat.add_assoc]; exact (hW.cell (p := ⟨B, O + (k * 9 + 1), none⟩) hBl).trans (hcell _ _ (rowM_at hx 1 (by omega)))), (by rw [Nat.add_assoc]; exact (hW.cell (p := ⟨B, O + (k * 9 + 2), none⟩) hBl).trans (hcell _ _ (rowM_at hx 2 (by omega)))), (by rw [Nat.add_assoc]; exact (hW.cell (p := ⟨B, O + (k * 9 + 3), none⟩) hBl).trans (hcell _ _ (rowM_at hx 3 (by omega)))), (by rw [Nat.add_assoc]; exact (hW.cell (p := ⟨B, O + (k * 9 + 4), none⟩) hBl).trans (hcell _ _ (rowM_at hx 4 (by omega)))), (by rw [Nat.add_assoc]; exact (hW.cell (p := ⟨B, O + (k * 9 + 5), none⟩) hBl).trans (hcell _ _ (rowM_at hx 5 (by omega)))), (by rw [Nat.add_assoc]; exact (hW.cell (p := ⟨B, O + (k * 9 + 6), none⟩) hBl).trans (hcell _ _ (rowM_at hx 6 (by omega)))), (by rw [Nat.add_assoc]; exact (hW.cell (p := ⟨B, O + (k * 9 + 7), none⟩) hBl).trans (hcell _ _ (rowM_at hx 7 (by omega)))), (by rw [Nat.add_assoc]; exact (hW.cell (p := ⟨B, O + (k * 9 + 8), none⟩) hBl).trans (hcell _ _ (rowM_at hx 8 (by omega)))), ((hW.cell (p := ⟨B', O' + k * 9, none⟩) hBl').trans (hcell' (k * 9) _ (by have := rowM_at hx' 0 (by omega); rwa [Nat.add_zero] at this))), (by rw [Nat.add_assoc]; exact (hW.cell (p := ⟨B', O' + (k * 9 + 1), none⟩) hBl').trans (hcell' _ _ (rowM_at hx' 1 (by omega)))), (by rw [Nat.add_assoc]; exact (hW.cell (p := ⟨B', O' + (k * 9 + 2), none⟩) hBl').trans (hcell' _ _ (rowM_at hx' 2 (by omega)))), (by rw [Nat.add_assoc]; exact (hW.cell (p := ⟨B', O' + (k * 9 + 3), none⟩) hBl').trans (hcell' _ _ (rowM_at hx' 3 (by omega)))), (by rw [Nat.add_assoc]; exact (hW.cell (p := ⟨B', O' + (k * 9 + 4), none⟩) hBl').trans (hcell' _ _ (rowM_at hx' 4 (by omega)))), (by rw [Nat.add_assoc]; exact (hW.cell (p := ⟨B', O' + (k * 9 + 5), none⟩) hBl').trans (hcell' _ _ (rowM_at hx' 5 (by omega)))), (by rw [Nat.add_assoc]; exact (hW.cell (p := ⟨B', O' + (k * 9 + 6), none⟩) hBl').trans (hcell' _ _ (rowM_at hx' 6 (by omega)))), (by rw [Nat.add_assoc]; exact (hW.cell (p := ⟨B', O' + (k * 9 + 7), none⟩) hBl').trans (hcell' _ _ (rowM_at hx' 7 (by omega)))), (by rw [Nat.add_assoc]; exact (hW.cell (p := ⟨B', O' + (k * 9 + 8), none⟩) hBl').trans (hcell' _ _ (rowM_at hx' 8 (by omega))))⟩)
      obtain ⟨bb, hbb⟩ : ∃ bb, sameRB x.r.o x.r.s (strB x.r.key) x.r.ml x.r.ct x.r.vo x.r.val x.r.gone x.r.tt x'.r.o x'.r.s (strB x'.r.key) x'.r.ml x'.r.ct x'.r.vo x'.r.val x'.r.gone x'.r.tt = bb := ⟨_, rfl⟩
      have HBB : Hid (bb = true ↔ x.r = x'.r) := Lib.hid (by rw [← hbb]; exact sameRB_iff18 hbkk hbv'.1)
      have HS : Hid (∀ W, Below w.heap.size w W → Calls Tryd.prog 76 #[recV x.r.o x.r.s (strB x.r.key) x.r.ml x.r.ct x.r.vo x.A x.r.val.length x.c x.r.gone x.r.tt, recV x'.r.o x'.r.s (strB x'.r.key) x'.r.ml x'.r.ct x'.r.vo x'.A x'.r.val.length x'.c x'.r.gone x'.r.tt] W fun e w' => e = .returned (.bool bb) ∧ Below W.heap.size W w') := Lib.hid (fun W hW => by
        have q := ref_same x.r.o x.r.s (strB x.r.key) x.r.ml x.r.ct x.r.vo x.r.val x.r.gone x.r.tt x.A x.c x'.r.o x'.r.s (strB x'.r.key) x'.r.ml x'.r.ct x'.r.vo x'.r.val x'.r.gone x'.r.tt x'.A x'.c W (hm.b.below hW) hbv hm.n (hm'.b.below hW) hbv'.2 hm'.n
        rw [hbb] at q
        exact q)
      clear hbb
      have hi1 : ((k : Int).toNat) = k := by simp
      have lk' : (k : Int) < (L'.length : Int) := by omega
      have HB1 := Lib.hid hB
      clear hm hm' hbv hbkk hbv' hcell hcell' hx hx' hB hlt'
      go_wp2_with fail
      refine wp_region_held_drew (S := fun w' => w'.cell? ⟨B, O + k * 9, none⟩ = some (.int .i64 x.r.o) ∧ w'.cell? ⟨B, O + k * 9 + 1, none⟩ = some (.int .i64 x.r.s) ∧ w'.cell? ⟨B, O + k * 9 + 2, none⟩ = some (.string (strB x.r.key)) ∧ w'.cell? ⟨B, O + k * 9 + 3, none⟩ = some (.int .i64 x.r.ml) ∧ w'.cell? ⟨B, O + k * 9 + 4, none⟩ = some (.int .i64 x.r.ct) ∧ w'.cell? ⟨B, O + k * 9 + 5, none⟩ = some (.int .i64 x.r.vo) ∧ w'.cell? ⟨B, O + k * 9 + 6, none⟩ = some (.slice x.A x.r.val.length x.c) ∧ w'.cell? ⟨B, O + k * 9 + 7, none⟩ = some (.bool x.r.gone) ∧ w'.cell? ⟨B, O + k * 9 + 8, none⟩ = some (.int .i64 x.r.tt) ∧ w'.cell? ⟨B', O' + k * 9, none⟩ = some (.int .i64 x'.r.o) ∧ w'.cell? ⟨B', O' + k * 9 + 1, none⟩ = some (.int .i64 x'.r.s) ∧ w'.cell? ⟨B', O' + k * 9 + 2, none⟩ = some (.string (strB x'.r.key)) ∧ w'.cell? ⟨B', O' + k * 9 + 3, none⟩ = some (.int .i64 x'.r.ml) ∧ w'.cell? ⟨B', O' + k * 9 + 4, none⟩ = some (.int .i64 x'.r.ct) ∧ w'.cell? ⟨B', O' + k * 9 + 5, none⟩ = some (.int .i64 x'.r.vo) ∧ w'.cell? ⟨B', O' + k * 9 + 6, none⟩ = some (.slice x'.A x'.r.val.length x'.c) ∧ w'.cell? ⟨B', O' + k * 9 + 7, none⟩ = some (.bool x'.r.gone) ∧ w'.cell? ⟨B', O' + k * 9 + 8, none⟩ = some (.int .i64 x'.r.tt)) (by kernel_rfl) ?_ (fun hHeld => ?_)
      · exact HKEEP.out _ HB1.out.drew
      refine wpAnyH_take (i := 0) (v := ?_) rfl (by kernel_rfl) (by kernel_rfl) (by kernel_rfl) (fun _ _ _ h => h) (Or.inl ⟨by rfl, ?_⟩) (by assumption) ?_
      rotate_left
      · intro w' hSw; (try dsimp only at hSw); go_simp; (try with_reducible rfl)
      (try simp only [Act.put, List.setIfInBounds_toArray, List.set_cons_zero, List.set_cons_succ, List.getElem_toArray, List.getElem_cons_succ, List.getElem_cons_zero])
      refine wpAnyH_take (i := 1) (v := ?_) rfl (by kernel_rfl) (by kernel_rfl) (by kernel_rfl) (fun _ _ _ h => h) (Or.inl ⟨by rfl, ?_⟩) (by assumption) ?_
      rotate_left
      · intro w' hSw; (try dsimp only at hSw); go_simp; (try with_reducible rfl)
      (try simp only [Act.put, List.setIfInBounds_toArray, List.set_cons_zero, List.set_cons_succ, List.getElem_toArray, List.getElem_cons_succ, List.getElem_cons_zero])
      refine wpAnyH_take (i := 2) (v := ?_) rfl (by kernel_rfl) (by kernel_rfl) (by kernel_rfl) (fun _ _ _ h => h) (Or.inl ⟨by rfl, ?_⟩) (by assumption) ?_
      rotate_left
      · intro w' hSw; (try dsimp only at hSw); go_simp; (try with_reducible rfl)
      (try simp only [Act.put, List.setIfInBounds_toArray, List.set_cons_zero, List.set_cons_succ, List.getElem_toArray, List.getElem_cons_succ, List.getElem_cons_zero])
      refine wpAnyH_take (i := 3) (v := ?_) rfl (by kernel_rfl) (by kernel_rfl) (by kernel_rfl) (fun _ _ _ h => h) (Or.inl ⟨by rfl, ?_⟩) (by assumption) ?_
      rotate_left
      · intro w' hSw; (try dsimp only at hSw); go_simp; (try with_reducible rfl)
      (try simp only [Act.put, List.setIfInBounds_toArray, List.set_cons_zero, List.set_cons_succ, List.getElem_toArray, List.getElem_cons_succ, List.getElem_cons_zero])
      refine wpAnyH_take (i := 4) (v := ?_) rfl (by kernel_rfl) (by kernel_rfl) (by kernel_rfl) (fun _ _ _ h => h) (Or.inl ⟨by rfl, ?_⟩) (by assumption) ?_
      rotate_left
      · intro w' hSw; (try dsimp only at hSw); go_simp; (try with_reducible rfl)
      (try simp only [Act.put, List.setIfInBounds_toArray, List.set_cons_zero, List.set_cons_succ, List.getElem_toArray, List.getElem_cons_succ, List.getElem_cons_zero])
      refine wpAnyH_take (i := 5) (v := ?_) rfl (by kernel_rfl) (by kernel_rfl) (by kernel_rfl) (fun _ _ _ h => h) (Or.inl ⟨by rfl, ?_⟩) (by assumption) ?_
      rotate_left
      · intro w' hSw; (try dsimp only at hSw); go_simp; (try with_reducible rfl)
      (try simp only [Act.put, List.setIfInBounds_toArray, List.set_cons_zero, List.set_cons_succ, List.getElem_toArray, List.getElem_cons_succ, List.getElem_cons_zero])
      refine wpAnyH_take (i := 6) (v := ?_) rfl (by kernel_rfl) (by kernel_rfl) (by kernel_rfl) (fun _ _ _ h => h) (Or.inl ⟨by rfl, ?_⟩) (by assumption) ?_
      rotate_left
      · intro w' hSw; (try dsimp only at hSw); go_simp; (try with_reducible rfl)
      (try simp only [Act.put, List.setIfInBounds_toArray, List.set_cons_zero, List.set_cons_succ, List.getElem_toArray, List.getElem_cons_succ, List.getElem_cons_zero])
      refine wpAnyH_take (i := 7) (v := ?_) rfl (by kernel_rfl) (by kernel_rfl) (by kernel_rfl) (fun _ _ _ h => h) (Or.inl ⟨by rfl, ?_⟩) (by assumption) ?_
      rotate_left
      · intro w' hSw; (try dsimp only at hSw); go_simp; (try with_reducible rfl)
      (try simp only [Act.put, List.setIfInBounds_toArray, List.set_cons_zero, List.set_cons_succ, List.getElem_toArray, List.getElem_cons_succ, List.getElem_cons_zero])
      refine wpAnyH_ready (rs := [8]) (by kernel_rfl) (by simp) ?_
      refine AllReadyH.cons rfl (fun K hK => ?_) AllReadyH.nil
      go_simp
      (go_at_call 76; refine (HS.out _ HB1.out.drew).mono ?_; rintro e W2 ⟨rfl, k2⟩; have HB2 := HB1.out.drew.trans (k2.mono HB1.out.drew.size))
      (try dsimp only)
      refine hK.out _ _ ?_ (fun hHeld => ?_)
      · exact HKEEP.out _ HB2
      clear hK K
      (try simp only [Act.put, List.setIfInBounds_toArray, List.set_cons_zero, List.set_cons_succ, List.getElem_toArray, List.getElem_cons_succ, List.getElem_cons_zero])
      refine wpAnyH_take (i := 9) (v := ?_) rfl (by kernel_rfl) (by kernel_rfl) (by kernel_rfl) (fun _ _ _ h => h) (Or.inl ⟨by rfl, ?_⟩) (by assumption) ?_
      rotate_left
      · intro w' hSw; (try dsimp only at hSw); go_simp; (try with_reducible rfl)
      (try simp only [Act.put, List.setIfInBounds_toArray, List.set_cons_zero, List.set_cons_succ, List.getElem_toArray, List.getElem_cons_succ, List.getElem_cons_zero])
      refine wpAnyH_done (by kernel_rfl) ?_ _
      cases bb
      · have HNE := Lib.hid (HTF.out (fun q => by have := HBB.out.2 q; cases this))
        have HB2' := Lib.hid HB2
        clear HB2 HTF HTN HBB
        go_wp2
        go_ret
        exact ⟨⟨false, rfl, by simp; exact HNE.out⟩, HB2'.out⟩
      · have HNE := Lib.hid (HTN.out (HBB.out.1 rfl))
        clear HTF HTN HBB
        go_wp2
        go_roundw
        case rel => exact ⟨k + 1, by omega, by go_num, HB2, HNE⟩
        case measure => simp [intOf]; omega
    · obtain rfl : k = L.length := by omega
      have HB1 := Lib.hid hB
      have HEQ : Hid (L.map Mr.r = L'.map Mr.r) := Lib.hid (by
        have h1 := HTK.out
        rw [List.take_of_length_le (by simp), List.take_of_length_le (by simp; have := HLL.out; omega)] at h1
        exact h1)
      clear hB hlt HTK
      go_wp2
      go_ret
      exact ⟨⟨true, rfl, by simp; exact HEQ.out⟩, HB1.out⟩
set_option maxRecDepth 100000 in
set_option maxHeartbeats 4000000 in
theorem law_heavy18 (v : Value) (L : List Mr) (w : World) (h : RowAt w v L) (hs : ∀ m ∈ L, m.r.val.length ≤ 281474976710656 ∧ m.r.key.length ≤ 281474976710656) (hl : L.length ≤ maxLen) :
    Calls Tryd.prog 23 #[v] w fun e w' => (∃ b, e = .returned (.bool b) ∧ (b = false → L.length ≤ 400)) ∧ ∃ q, w' = w.drewN q := by
  obtain ⟨A, c, rfl, hc⟩ := h.ex
  have HC := Lib.hid hc
  have HS := Lib.hid hs
  have hni : (L.length : Int) ≤ 9223372036854775807 := by unfold maxLen at hl; omega
  clear h hc hs hl
  go_enter Tryd.func23, Tryd.ntmps23
  go_wp2
  go_loopw [3, 4] (fun u i wr => ∃ k m : Nat, k ≤ L.length ∧ i = .int .i64 k ∧ u = .int .i64 m ∧ 20 * k ≤ m ∧ m ≤ 8000 ∧ ∃ q, wr = w.drewN q) (fun _ i _ => L.length - (intOf i).toNat)
  case atStart => exact ⟨0, 0, Nat.zero_le _, rfl, rfl, by omega, by omega, 0, rfl⟩
  case round =>
    obtain ⟨k, m, hk, rfl, rfl, h20, hm, q, rfl⟩ := hrel
    by_cases hlt : k < L.length
    · have lk : (k : Int) < (L.length : Int) := by omega
      have hi1 : ((k : Int).toNat) = k := by simp
      obtain ⟨B, O, rfl, hBl, hcell⟩ := HC.out (by omega)
      have hx : L[k]? = some L[k] := List.getElem?_eq_getElem hlt
      have hsz := HS.out L[k] (List.getElem_mem hlt)
      generalize L[k] = x at *
      have a2 : (w.drewN q).cell? ⟨B, O + k * 9 + 2, none⟩ = some (.string (strB x.r.key)) := by rw [Nat.add_assoc]; exact hcell _ _ (rowM_at hx 2 (by omega))
      have a6 : (w.drewN q).cell? ⟨B, O + k * 9 + 6, none⟩ = some (.slice x.A x.r.val.length x.c) := by rw [Nat.add_assoc]; exact hcell _ _ (rowM_at hx 6 (by omega))
      have a6' : (w.drewN q).cell? ⟨B, O + k * 9 + 3 + 3, none⟩ = some (.slice x.A x.r.val.length x.c) := a6
      have hks : (strB x.r.key).size = x.r.key.length := strB_size _
      have HKS := Lib.hid hks
      obtain ⟨kn, hkn⟩ : ∃ kn, (strB x.r.key).size = kn := ⟨_, rfl⟩
      have hknb : kn ≤ 281474976710656 := by rw [← hkn, hks]; exact hsz.2
      have hvb : x.r.val.length ≤ 281474976710656 := hsz.1
      have HKN := Lib.hid hkn
      generalize x.r.val.length = vn at *
      generalize strB x.r.key = K8 at *
      have e0 : IntKind.i64.wrap ((m : Int) + 20) = (m : Int) + 20 := IntWalk.i64_in _ (by omega)
      have e1 : IntKind.i64.wrap ((m : Int) + 20 + (kn : Int)) = (m : Int) + 20 + (kn : Int) := IntWalk.i64_in _ (by omega)
      have e2 : IntKind.i64.wrap ((m : Int) + 20 + (kn : Int) + (vn : Int)) = (m : Int) + 20 + (kn : Int) + (vn : Int) := IntWalk.i64_in _ (by omega)
      clear hx hcell hsz hks
      subst hkn
      by_cases hh : 8000 < m + 20 + K8.size + vn
      · have t1 : decide ((8000 : Int) < (m : Int) + 20 + (K8.size : Int) + (vn : Int)) = true := by simp; omega
        clear hh
        go_wp2
        refine wp_region_held_drew (S := fun w' => w'.cell? ⟨B, O + k * 9 + 2, none⟩ = some (.string K8) ∧ w'.cell? ⟨B, O + k * 9 + 3 + 3, none⟩ = some (.slice x.A vn x.c)) (by kernel_rfl) ?_ (fun hHeld => ?_)
        · exact ⟨a2, a6'⟩
        refine wpAnyH_take (i := 0) (v := ?_) rfl (by kernel_rfl) (by kernel_rfl) (by kernel_rfl) (fun _ _ _ h => h) (Or.inl ⟨by rfl, ?_⟩) (by assumption) ?_
        rotate_left
        · intro w' hSw; (try dsimp only at hSw); go_simp; (try with_reducible rfl)
        (try simp only [Act.put, List.setIfInBounds_toArray, List.set_cons_zero, List.set_cons_succ, List.getElem_toArray, List.getElem_cons_succ, List.getElem_cons_zero])
        refine wpAnyH_take (i := 1) (v := ?_) rfl (by kernel_rfl) (by kernel_rfl) (by kernel_rfl) (fun _ _ _ h => h) (Or.inl ⟨by rfl, ?_⟩) (by assumption) ?_
        rotate_left
        · intro w' hSw; (try dsimp only at hSw); go_simp; (try with_reducible rfl)
        (try simp only [Act.put, List.setIfInBounds_toArray, List.set_cons_zero, List.set_cons_succ, List.getElem_toArray, List.getElem_cons_succ, List.getElem_cons_zero])
        refine wpAnyH_take (i := 2) (v := ?_) rfl (by kernel_rfl) (by kernel_rfl) (by kernel_rfl) (fun _ _ _ h => h) (Or.inl ⟨by rfl, ?_⟩) (by assumption) ?_
        rotate_left
        · intro w' hSw; (try dsimp only at hSw); go_simp; (try with_reducible rfl)
        (try simp only [Act.put, List.setIfInBounds_toArray, List.set_cons_zero, List.set_cons_succ, List.getElem_toArray, List.getElem_cons_succ, List.getElem_cons_zero])
        refine wpAnyH_take (i := 3) (v := ?_) rfl (by kernel_rfl) (by kernel_rfl) (by kernel_rfl) (fun _ _ _ h => h) (Or.inl ⟨by rfl, ?_⟩) (by assumption) ?_
        rotate_left
        · intro w' hSw; (try dsimp only at hSw); go_simp; (try with_reducible rfl)
        (try simp only [Act.put, List.setIfInBounds_toArray, List.set_cons_zero, List.set_cons_succ, List.getElem_toArray, List.getElem_cons_succ, List.getElem_cons_zero])
        refine wpAnyH_take (i := 4) (v := ?_) rfl (by kernel_rfl) (by kernel_rfl) (by kernel_rfl) (fun _ _ _ h => h) (Or.inl ⟨by rfl, ?_⟩) (by assumption) ?_
        rotate_left
        · intro w' hSw; (try dsimp only at hSw); go_simp; (try with_reducible rfl)
        (try simp only [Act.put, List.setIfInBounds_toArray, List.set_cons_zero, List.set_cons_succ, List.getElem_toArray, List.getElem_cons_succ, List.getElem_cons_zero])
        refine wpAnyH_take (i := 5) (v := ?_) rfl (by kernel_rfl) (by kernel_rfl) (by kernel_rfl) (fun _ _ _ h => h) (Or.inl ⟨by rfl, ?_⟩) (by assumption) ?_
        rotate_left
        · intro w' hSw; (try dsimp only at hSw); go_simp; (try with_reducible rfl)
        (try simp only [Act.put, List.setIfInBounds_toArray, List.set_cons_zero, List.set_cons_succ, List.getElem_toArray, List.getElem_cons_succ, List.getElem_cons_zero])
        refine wpAnyH_take (i := 6) (v := ?_) rfl (by kernel_rfl) (by kernel_rfl) (by kernel_rfl) (fun _ _ _ h => h) (Or.inl ⟨by rfl, ?_⟩) (by assumption) ?_
        rotate_left
        · intro w' hSw; (try dsimp only at hSw); go_simp; (try with_reducible rfl)
        (try simp only [Act.put, List.setIfInBounds_toArray, List.set_cons_zero, List.set_cons_succ, List.getElem_toArray, List.getElem_cons_succ, List.getElem_cons_zero])
        refine wpAnyH_take (i := 7) (v := ?_) rfl (by kernel_rfl) (by kernel_rfl) (by kernel_rfl) (fun _ _ _ h => h) (Or.inl ⟨by rfl, ?_⟩) (by assumption) ?_
        rotate_left
        · intro w' hSw; (try dsimp only at hSw); go_simp; (try with_reducible rfl)
        (try simp only [Act.put, List.setIfInBounds_toArray, List.set_cons_zero, List.set_cons_succ, List.getElem_toArray, List.getElem_cons_succ, List.getElem_cons_zero])
        refine wpAnyH_take (i := 8) (v := ?_) rfl (by kernel_rfl) (by kernel_rfl) (by kernel_rfl) (fun _ _ _ h => h) (Or.inl ⟨by rfl, ?_⟩) (by assumption) ?_
        rotate_left
        · intro w' hSw; (try dsimp only at hSw); go_simp; (try with_reducible rfl)
        (try simp only [Act.put, List.setIfInBounds_toArray, List.set_cons_zero, List.set_cons_succ, List.getElem_toArray, List.getElem_cons_succ, List.getElem_cons_zero])
        refine wpAnyH_take (i := 9) (v := ?_) rfl (by kernel_rfl) (by kernel_rfl) (by kernel_rfl) (fun _ _ _ h => h) (Or.inl ⟨by rfl, ?_⟩) (by assumption) ?_
        rotate_left
        · intro w' hSw; (try dsimp only at hSw); go_simp; (try with_reducible rfl)
        (try simp only [Act.put, List.setIfInBounds_toArray, List.set_cons_zero, List.set_cons_succ, List.getElem_toArray, List.getElem_cons_succ, List.getElem_cons_zero])
        refine wpAnyH_take (i := 10) (v := ?_) rfl (by kernel_rfl) (by kernel_rfl) (by kernel_rfl) (fun _ _ _ h => h) (Or.inl ⟨by rfl, ?_⟩) (by assumption) ?_
        rotate_left
        · intro w' hSw; (try dsimp only at hSw); go_simp; (try with_reducible rfl)
        (try simp only [Act.put, List.setIfInBounds_toArray, List.set_cons_zero, List.set_cons_succ, List.getElem_toArray, List.getElem_cons_succ, List.getElem_cons_zero])
        refine wpAnyH_take (i := 11) (v := ?_) rfl (by kernel_rfl) (by kernel_rfl) (by kernel_rfl) (fun _ _ _ h => h) (Or.inl ⟨by rfl, ?_⟩) (by assumption) ?_
        rotate_left
        · intro w' hSw; (try dsimp only at hSw); go_simp; (try with_reducible rfl)
        (try simp only [Act.put, List.setIfInBounds_toArray, List.set_cons_zero, List.set_cons_succ, List.getElem_toArray, List.getElem_cons_succ, List.getElem_cons_zero])
        refine wpAnyH_take (i := 12) (v := ?_) rfl (by kernel_rfl) (by kernel_rfl) (by kernel_rfl) (fun _ _ _ h => h) (Or.inl ⟨by rfl, ?_⟩) (by assumption) ?_
        rotate_left
        · intro w' hSw; (try dsimp only at hSw); go_simp; (try with_reducible rfl)
        (try simp only [Act.put, List.setIfInBounds_toArray, List.set_cons_zero, List.set_cons_succ, List.getElem_toArray, List.getElem_cons_succ, List.getElem_cons_zero])
        refine wpAnyH_take (i := 13) (v := ?_) rfl (by kernel_rfl) (by kernel_rfl) (by kernel_rfl) (fun _ _ _ h => h) (Or.inl ⟨by rfl, ?_⟩) (by assumption) ?_
        rotate_left
        · intro w' hSw; (try dsimp only at hSw); go_simp; (try with_reducible rfl)
        (try simp only [Act.put, List.setIfInBounds_toArray, List.set_cons_zero, List.set_cons_succ, List.getElem_toArray, List.getElem_cons_succ, List.getElem_cons_zero])
        refine wpAnyH_take (i := 14) (v := ?_) rfl (by kernel_rfl) (by kernel_rfl) (by kernel_rfl) (fun _ _ _ h => h) (Or.inl ⟨by rfl, ?_⟩) (by assumption) ?_
        rotate_left
        · intro w' hSw; (try dsimp only at hSw); go_simp; (try with_reducible rfl)
        (try simp only [Act.put, List.setIfInBounds_toArray, List.set_cons_zero, List.set_cons_succ, List.getElem_toArray, List.getElem_cons_succ, List.getElem_cons_zero])
        refine wpAnyH_take (i := 15) (v := ?_) rfl (by kernel_rfl) (by kernel_rfl) (by kernel_rfl) (fun _ _ _ h => h) (Or.inl ⟨by rfl, ?_⟩) (by assumption) ?_
        rotate_left
        · intro w' hSw; (try dsimp only at hSw); go_simp; (try with_reducible rfl)
        (try simp only [Act.put, List.setIfInBounds_toArray, List.set_cons_zero, List.set_cons_succ, List.getElem_toArray, List.getElem_cons_succ, List.getElem_cons_zero])
        refine wpAnyH_take (i := 16) (v := ?_) rfl (by kernel_rfl) (by kernel_rfl) (by kernel_rfl) (fun _ _ _ h => h) (Or.inl ⟨by rfl, ?_⟩) (by assumption) ?_
        rotate_left
        · intro w' hSw; (try dsimp only at hSw); go_simp; (try with_reducible rfl)
        (try simp only [Act.put, List.setIfInBounds_toArray, List.set_cons_zero, List.set_cons_succ, List.getElem_toArray, List.getElem_cons_succ, List.getElem_cons_zero])
        refine wpAnyH_take (i := 17) (v := ?_) rfl (by kernel_rfl) (by kernel_rfl) (by kernel_rfl) (fun _ _ _ h => h) (Or.inl ⟨by rfl, ?_⟩) (by assumption) ?_
        rotate_left
        · intro w' hSw; (try dsimp only at hSw); go_simp; (try with_reducible rfl)
        (try simp only [Act.put, List.setIfInBounds_toArray, List.set_cons_zero, List.set_cons_succ, List.getElem_toArray, List.getElem_cons_succ, List.getElem_cons_zero])
        refine wpAnyH_done (by kernel_rfl) ?_ _
        go_wp2
        go_ret
        exact ⟨⟨true, rfl, fun h => by cases h⟩, _, rfl⟩
      · have t1 : decide ((8000 : Int) < (m : Int) + 20 + (K8.size : Int) + (vn : Int)) = false := by simp; omega
        have hh' : m + 20 + K8.size + vn ≤ 8000 := by omega
        have HH := Lib.hid hh'
        clear hh hh'
        go_wp2
        refine wp_region_held_drew (S := fun w' => w'.cell? ⟨B, O + k * 9 + 2, none⟩ = some (.string K8) ∧ w'.cell? ⟨B, O + k * 9 + 3 + 3, none⟩ = some (.slice x.A vn x.c)) (by kernel_rfl) ?_ (fun hHeld => ?_)
        · exact ⟨a2, a6'⟩
        refine wpAnyH_take (i := 0) (v := ?_) rfl (by kernel_rfl) (by kernel_rfl) (by kernel_rfl) (fun _ _ _ h => h) (Or.inl ⟨by rfl, ?_⟩) (by assumption) ?_
        rotate_left
        · intro w' hSw; (try dsimp only at hSw); go_simp; (try with_reducible rfl)
        (try simp only [Act.put, List.setIfInBounds_toArray, List.set_cons_zero, List.set_cons_succ, List.getElem_toArray, List.getElem_cons_succ, List.getElem_cons_zero])
        refine wpAnyH_take (i := 1) (v := ?_) rfl (by kernel_rfl) (by kernel_rfl) (by kernel_rfl) (fun _ _ _ h => h) (Or.inl ⟨by rfl, ?_⟩) (by assumption) ?_
        rotate_left
        · intro w' hSw; (try dsimp only at hSw); go_simp; (try with_reducible rfl)
        (try simp only [Act.put, List.setIfInBounds_toArray, List.set_cons_zero, List.set_cons_succ, List.getElem_toArray, List.getElem_cons_succ, List.getElem_cons_zero])
        refine wpAnyH_take (i := 2) (v := ?_) rfl (by kernel_rfl) (by kernel_rfl) (by kernel_rfl) (fun _ _ _ h => h) (Or.inl ⟨by rfl, ?_⟩) (by assumption) ?_
        rotate_left
        · intro w' hSw; (try dsimp only at hSw); go_simp; (try with_reducible rfl)
        (try simp only [Act.put, List.setIfInBounds_toArray, List.set_cons_zero, List.set_cons_succ, List.getElem_toArray, List.getElem_cons_succ, List.getElem_cons_zero])
        refine wpAnyH_take (i := 3) (v := ?_) rfl (by kernel_rfl) (by kernel_rfl) (by kernel_rfl) (fun _ _ _ h => h) (Or.inl ⟨by rfl, ?_⟩) (by assumption) ?_
        rotate_left
        · intro w' hSw; (try dsimp only at hSw); go_simp; (try with_reducible rfl)
        (try simp only [Act.put, List.setIfInBounds_toArray, List.set_cons_zero, List.set_cons_succ, List.getElem_toArray, List.getElem_cons_succ, List.getElem_cons_zero])
        refine wpAnyH_take (i := 4) (v := ?_) rfl (by kernel_rfl) (by kernel_rfl) (by kernel_rfl) (fun _ _ _ h => h) (Or.inl ⟨by rfl, ?_⟩) (by assumption) ?_
        rotate_left
        · intro w' hSw; (try dsimp only at hSw); go_simp; (try with_reducible rfl)
        (try simp only [Act.put, List.setIfInBounds_toArray, List.set_cons_zero, List.set_cons_succ, List.getElem_toArray, List.getElem_cons_succ, List.getElem_cons_zero])
        refine wpAnyH_take (i := 5) (v := ?_) rfl (by kernel_rfl) (by kernel_rfl) (by kernel_rfl) (fun _ _ _ h => h) (Or.inl ⟨by rfl, ?_⟩) (by assumption) ?_
        rotate_left
        · intro w' hSw; (try dsimp only at hSw); go_simp; (try with_reducible rfl)
        (try simp only [Act.put, List.setIfInBounds_toArray, List.set_cons_zero, List.set_cons_succ, List.getElem_toArray, List.getElem_cons_succ, List.getElem_cons_zero])
        refine wpAnyH_take (i := 6) (v := ?_) rfl (by kernel_rfl) (by kernel_rfl) (by kernel_rfl) (fun _ _ _ h => h) (Or.inl ⟨by rfl, ?_⟩) (by assumption) ?_
        rotate_left
        · intro w' hSw; (try dsimp only at hSw); go_simp; (try with_reducible rfl)
        (try simp only [Act.put, List.setIfInBounds_toArray, List.set_cons_zero, List.set_cons_succ, List.getElem_toArray, List.getElem_cons_succ, List.getElem_cons_zero])
        refine wpAnyH_take (i := 7) (v := ?_) rfl (by kernel_rfl) (by kernel_rfl) (by kernel_rfl) (fun _ _ _ h => h) (Or.inl ⟨by rfl, ?_⟩) (by assumption) ?_
        rotate_left
        · intro w' hSw; (try dsimp only at hSw); go_simp; (try with_reducible rfl)
        (try simp only [Act.put, List.setIfInBounds_toArray, List.set_cons_zero, List.set_cons_succ, List.getElem_toArray, List.getElem_cons_succ, List.getElem_cons_zero])
        refine wpAnyH_take (i := 8) (v := ?_) rfl (by kernel_rfl) (by kernel_rfl) (by kernel_rfl) (fun _ _ _ h => h) (Or.inl ⟨by rfl, ?_⟩) (by assumption) ?_
        rotate_left
        · intro w' hSw; (try dsimp only at hSw); go_simp; (try with_reducible rfl)
        (try simp only [Act.put, List.setIfInBounds_toArray, List.set_cons_zero, List.set_cons_succ, List.getElem_toArray, List.getElem_cons_succ, List.getElem_cons_zero])
        refine wpAnyH_take (i := 9) (v := ?_) rfl (by kernel_rfl) (by kernel_rfl) (by kernel_rfl) (fun _ _ _ h => h) (Or.inl ⟨by rfl, ?_⟩) (by assumption) ?_
        rotate_left
        · intro w' hSw; (try dsimp only at hSw); go_simp; (try with_reducible rfl)
        (try simp only [Act.put, List.setIfInBounds_toArray, List.set_cons_zero, List.set_cons_succ, List.getElem_toArray, List.getElem_cons_succ, List.getElem_cons_zero])
        refine wpAnyH_take (i := 10) (v := ?_) rfl (by kernel_rfl) (by kernel_rfl) (by kernel_rfl) (fun _ _ _ h => h) (Or.inl ⟨by rfl, ?_⟩) (by assumption) ?_
        rotate_left
        · intro w' hSw; (try dsimp only at hSw); go_simp; (try with_reducible rfl)
        (try simp only [Act.put, List.setIfInBounds_toArray, List.set_cons_zero, List.set_cons_succ, List.getElem_toArray, List.getElem_cons_succ, List.getElem_cons_zero])
        refine wpAnyH_take (i := 11) (v := ?_) rfl (by kernel_rfl) (by kernel_rfl) (by kernel_rfl) (fun _ _ _ h => h) (Or.inl ⟨by rfl, ?_⟩) (by assumption) ?_
        rotate_left
        · intro w' hSw; (try dsimp only at hSw); go_simp; (try with_reducible rfl)
        (try simp only [Act.put, List.setIfInBounds_toArray, List.set_cons_zero, List.set_cons_succ, List.getElem_toArray, List.getElem_cons_succ, List.getElem_cons_zero])
        refine wpAnyH_take (i := 12) (v := ?_) rfl (by kernel_rfl) (by kernel_rfl) (by kernel_rfl) (fun _ _ _ h => h) (Or.inl ⟨by rfl, ?_⟩) (by assumption) ?_
        rotate_left
        · intro w' hSw; (try dsimp only at hSw); go_simp; (try with_reducible rfl)
        (try simp only [Act.put, List.setIfInBounds_toArray, List.set_cons_zero, List.set_cons_succ, List.getElem_toArray, List.getElem_cons_succ, List.getElem_cons_zero])
        refine wpAnyH_take (i := 13) (v := ?_) rfl (by kernel_rfl) (by kernel_rfl) (by kernel_rfl) (fun _ _ _ h => h) (Or.inl ⟨by rfl, ?_⟩) (by assumption) ?_
        rotate_left
        · intro w' hSw; (try dsimp only at hSw); go_simp; (try with_reducible rfl)
        (try simp only [Act.put, List.setIfInBounds_toArray, List.set_cons_zero, List.set_cons_succ, List.getElem_toArray, List.getElem_cons_succ, List.getElem_cons_zero])
        refine wpAnyH_take (i := 14) (v := ?_) rfl (by kernel_rfl) (by kernel_rfl) (by kernel_rfl) (fun _ _ _ h => h) (Or.inl ⟨by rfl, ?_⟩) (by assumption) ?_
        rotate_left
        · intro w' hSw; (try dsimp only at hSw); go_simp; (try with_reducible rfl)
        (try simp only [Act.put, List.setIfInBounds_toArray, List.set_cons_zero, List.set_cons_succ, List.getElem_toArray, List.getElem_cons_succ, List.getElem_cons_zero])
        refine wpAnyH_take (i := 15) (v := ?_) rfl (by kernel_rfl) (by kernel_rfl) (by kernel_rfl) (fun _ _ _ h => h) (Or.inl ⟨by rfl, ?_⟩) (by assumption) ?_
        rotate_left
        · intro w' hSw; (try dsimp only at hSw); go_simp; (try with_reducible rfl)
        (try simp only [Act.put, List.setIfInBounds_toArray, List.set_cons_zero, List.set_cons_succ, List.getElem_toArray, List.getElem_cons_succ, List.getElem_cons_zero])
        refine wpAnyH_take (i := 16) (v := ?_) rfl (by kernel_rfl) (by kernel_rfl) (by kernel_rfl) (fun _ _ _ h => h) (Or.inl ⟨by rfl, ?_⟩) (by assumption) ?_
        rotate_left
        · intro w' hSw; (try dsimp only at hSw); go_simp; (try with_reducible rfl)
        (try simp only [Act.put, List.setIfInBounds_toArray, List.set_cons_zero, List.set_cons_succ, List.getElem_toArray, List.getElem_cons_succ, List.getElem_cons_zero])
        refine wpAnyH_take (i := 17) (v := ?_) rfl (by kernel_rfl) (by kernel_rfl) (by kernel_rfl) (fun _ _ _ h => h) (Or.inl ⟨by rfl, ?_⟩) (by assumption) ?_
        rotate_left
        · intro w' hSw; (try dsimp only at hSw); go_simp; (try with_reducible rfl)
        (try simp only [Act.put, List.setIfInBounds_toArray, List.set_cons_zero, List.set_cons_succ, List.getElem_toArray, List.getElem_cons_succ, List.getElem_cons_zero])
        refine wpAnyH_done (by kernel_rfl) ?_ _
        go_wp2
        go_roundw
        case rel => exact ⟨k + 1, m + 20 + K8.size + vn, by omega, by go_num, by push_cast; rfl, by omega, HH.out, _, rfl⟩
        case measure => simp [intOf]; omega
    · obtain rfl : k = L.length := by omega
      clear HC HS hlt
      go_wp2
      go_ret
      exact ⟨⟨false, rfl, fun _ => by omega⟩, q, rfl⟩
end Go.Proofs.YtdffldlcbihjmaaDoor

/- stream: known (package meridianlaw18). -/
namespace Go.Proofs.YtdffldlcbihjmaaDoor
open Go.RowKit Go.Sort

theorem new_yes {cs : List Value} {ok : Bool} {w w' : World} {e : Ending} (h : NewRes cs ok w w' e) (hk : ok = true) : ∃ b, e = .returned (.tuple #[.pointer (some ⟨b, 0, none⟩), .int .i64 0]) ∧ w.heap.size ≤ b ∧ XB w' b cs ∧ Below w.heap.size w w' := by
  rcases h with ⟨q, _⟩ | ⟨_, q⟩
  · rw [hk] at q; cases q
  · exact q
/-- The record that the law makes, of a small number. -/
theorem rec_lit (s : Nat) (W : World) (h : s ≤ 255) : Calls Tryd.prog 69 #[.int .i64 0, .int .i64 s] W fun e w' => ∃ g, e = .returned (recV 0 s (strB [107]) s 0 0 (some ⟨g, 0, none⟩) 1 1 false 0) ∧ (Mr.mk (recS 0 s) (some ⟨g, 0, none⟩) 1).At (fun i => W.heap.size ≤ i) w' ∧ Below W.heap.size W w' :=
  (law_rec 0 s W).mono fun e w' ⟨g, he, h1, h2, h3, k⟩ => ⟨g, by rw [he, Nat.min_eq_left (by omega)], RecRes.at_ h1 h2 h3, k⟩
theorem rowAt_xb {W : World} {g n c : Nat} {L : List Mr} (h : XB W g (rowM L)) (hn : L.length = n) : RowAt W (.slice (some ⟨g, 0, none⟩) n c) L :=
  ⟨some ⟨g, 0, none⟩, c, by rw [hn], fun _ => ⟨g, 0, rfl, h.lt, fun j u hu => by rw [Nat.zero_add]; exact h.c j u hu⟩⟩
set_option maxRecDepth 100000 in
set_option maxHeartbeats 4000000 in
theorem known18 (w : World) : Calls Tryd.prog 24 #[] w fun e w' => e = .returned (.bool true) ∧ Below w.heap.size w w' := by
  have HI := Lib.hid (st_new_in 1 0 4 w)
  have R3 : Hid (∀ W, _) := Lib.hid (fun W => rec_lit 3 W (by omega))
  have R5 : Hid (∀ W, _) := Lib.hid (fun W => rec_lit 5 W (by omega))
  have R6 : Hid (∀ W, _) := Lib.hid (fun W => rec_lit 6 W (by omega))
  have R8 : Hid (∀ W, _) := Lib.hid (fun W => rec_lit 8 W (by omega))
  have HTK : Hid (takeS 0 4 [] [recS 0 3, recS 0 5, recS 0 6, recS 0 8] = someR 0 5 2) := Lib.hid (by kernel_rfl)
  have HND : Hid (needM 4 4 0 6 = (5, true)) := Lib.hid (by kernel_rfl)
  go_enter Tryd.func24, Tryd.ntmps24
  go_wp2_with fail
  refine HI.out.mono ?_; rintro e w1 hr
  obtain ⟨bi, rfl, hbi, xi, k1⟩ := new_yes hr (by decide)
  have HXI := Lib.hid xi
  have HB1 := Lib.hid k1
  clear xi k1 hr HI
  go_wp2_with fail
  refine (st_new_out 0 1 4 w1).mono ?_; rintro e w2 hr
  obtain ⟨bo, rfl, hbo, xo, k2⟩ := new_yes hr (by decide)
  have HXO := Lib.hid xo
  have HXI2 := Lib.hid (HXI.out.below k2)
  have HB2 := Lib.hid (HB1.out.trans (k2.mono HB1.out.size))
  clear xo k2 hr HXI HB1
  go_wp2_with fail
  refine (R3.out w2).mono ?_; rintro e w3 ⟨g3, rfl, m3, k3⟩
  have HM3 := Lib.hid m3
  have HK3 := Lib.hid k3
  clear m3 k3 R3
  go_wp2_with fail
  refine (R5.out w3).mono ?_; rintro e w4 ⟨g5, rfl, m5, k4⟩
  have HM5 := Lib.hid m5
  have HM3b := Lib.hid (HM3.out.below k4)
  have HK4 := Lib.hid (HK3.out.trans (k4.mono HK3.out.size))
  clear m5 k4 R5 HM3 HK3
  go_wp2_with fail
  refine (R6.out w4).mono ?_; rintro e w5 ⟨g6, rfl, m6, k5⟩
  have HM6 := Lib.hid m6
  have HM3c := Lib.hid (HM3b.out.below k5)
  have HM5b := Lib.hid (HM5.out.below k5)
  have HK5 := Lib.hid (HK4.out.trans (k5.mono HK4.out.size))
  clear m6 k5 R6 HM3b HM5 HK4
  go_wp2_with fail
  refine (R8.out w5).mono ?_; rintro e w6 ⟨g8, rfl, m8, k6⟩
  have HK6 := Lib.hid (HK5.out.trans (k6.mono HK5.out.size))
  have z2 := HB2.out.size
  have zk := HK6.out.size
  have HTAKE : Hid (∀ cs : Array Value, cs.toList = rowM [Mr.mk (recS 0 3) (some ⟨g3, 0, none⟩) 1, Mr.mk (recS 0 5) (some ⟨g5, 0, none⟩) 1, Mr.mk (recS 0 6) (some ⟨g6, 0, none⟩) 1, Mr.mk (recS 0 8) (some ⟨g8, 0, none⟩) 1] →
      Calls Tryd.prog 40 #[.pointer (some ⟨bi, 0, none⟩), .slice (some ⟨w6.heap.size, 0, none⟩) 4 4] (w6.alloc (.cells cs 89)) fun e w' => TakeR 0 4 [recS 0 3, recS 0 5, recS 0 6, recS 0 8] (w6.alloc (.cells cs 89)) w' e) := Lib.hid (fun cs hcs => by
    have kA : Below w6.heap.size w6 (w6.alloc (.cells cs 89)) := (Below.refl _ _).alloc (Nat.le_refl _) _
    have CS : XB (w6.alloc (.cells cs 89)) w6.heap.size (rowM [Mr.mk (recS 0 3) (some ⟨g3, 0, none⟩) 1, Mr.mk (recS 0 5) (some ⟨g5, 0, none⟩) 1, Mr.mk (recS 0 6) (some ⟨g6, 0, none⟩) 1, Mr.mk (recS 0 8) (some ⟨g8, 0, none⟩) 1]) := hcs ▸ XB.new w6 cs _
    exact st_take bi 1 0 4 (some ⟨w6.heap.size, 0, none⟩) 4 [Mr.mk (recS 0 3) (some ⟨g3, 0, none⟩) 1, Mr.mk (recS 0 5) (some ⟨g5, 0, none⟩) 1, Mr.mk (recS 0 6) (some ⟨g6, 0, none⟩) 1, Mr.mk (recS 0 8) (some ⟨g8, 0, none⟩) 1] _ (HXI2.out.below (HK6.out.trans (kA.mono zk))) (rowAt_xb CS rfl) (fun m hm => by
      simp only [List.mem_cons, List.not_mem_nil, or_false] at hm
      rcases hm with rfl | rfl | rfl | rfl
      · exact (((HM3c.out.below k6).below kA).mono (fun _ _ _ => trivial))
      · exact (((HM5b.out.below k6).below kA).mono (fun _ _ _ => trivial))
      · exact (((HM6.out.below k6).below kA).mono (fun _ _ _ => trivial))
      · exact ((m8.below kA).mono (fun _ _ _ => trivial))) (by simp) (by omega))
  clear m8 k6 R8 HM3c HM5b HM6 HK5 HXI2
  go_wp2_with fail
  refine (HTAKE.out _ rfl).mono ?_; rintro e w8 ⟨v8, Z, rfl, hT, hZ⟩
  have hZ' : Z.map Mr.r = someR 0 5 2 := hZ.trans HTK.out
  have HZ := Lib.hid hZ'
  have hTb := hT.bel
  have kA8 : Below w6.heap.size w6 w8 := ((Below.refl w6.heap.size w6).alloc (Nat.le_refl _) _).trans (hTb.mono (by simp))
  have HTA := Lib.hid hT.at_
  have HTL := Lib.hid hT.rowAt
  obtain ⟨A8, c8, rfl⟩ := hT.shape
  have HXO8 := Lib.hid (HXO.out.below (HK6.out.trans (kA8.mono zk)))
  have HB8 := Lib.hid (HB2.out.trans ((HK6.out.trans (kA8.mono zk)).mono z2))
  clear hT hZ hZ' HTAKE HXO HB2 hTb kA8 HK6
  have HN := Lib.hid (st_need bo 0 1 4 4 0 6 w8 HXO8.out (by omega) (by omega))
  rw [HND.out] at HN
  go_wp2_with fail
  refine HN.out.mono ?_; rintro e w9 ⟨rfl, rfl⟩
  clear HN HXO8
  go_wp2_with fail
  refine (law_some 0 5 2 w8 (by omega) (by omega)).mono ?_; rintro e w10 ⟨v10, Y, rfl, hT10, hY⟩
  have k10 := hT10.bel
  have HRC := Lib.hid (law_recs18 _ v10 Z Y w10 (HTL.out.below k10) hT10.rowAt (fun m hm => (HTA.out m hm).below k10) hT10.at_ (fun m hm => by
    have := List.mem_map_of_mem (f := Mr.r) hm
    rw [HZ.out] at this
    obtain ⟨i, _, e⟩ := someR_mem this
    rw [e]
    exact (recS_by _ _).2) (fun m hm => by
    have := List.mem_map_of_mem (f := Mr.r) hm
    rw [HZ.out] at this
    obtain ⟨i, _, e⟩ := someR_mem this
    rw [e]
    exact (recS_by _ _).1) (fun m hm => by
    have := List.mem_map_of_mem (f := Mr.r) hm
    rw [hY] at this
    obtain ⟨i, _, e⟩ := someR_mem this
    rw [e]
    exact recS_by _ _) (by have := congrArg List.length HZ.out; rw [someR_len] at this; simp at this; omega))
  have HEQ : Hid (Z.map Mr.r = Y.map Mr.r) := Lib.hid (HZ.out.trans hY.symm)
  have HB10 := Lib.hid (HB8.out.trans (k10.mono HB8.out.size))
  obtain ⟨A10, c10, rfl⟩ := hT10.shape
  clear hT10 hY k10 HTA HTL HB8
  go_wp2_with fail
  refine HRC.out.mono ?_; rintro e w11 ⟨⟨b, rfl, hb⟩, k11⟩
  obtain rfl : b = true := hb.2 HEQ.out
  have HB11 := Lib.hid (HB10.out.trans (k11.mono HB10.out.size))
  clear k11 hb HRC
  go_wp2
  go_ret
  exact ⟨rfl, HB11.out⟩
end Go.Proofs.YtdffldlcbihjmaaDoor

/- stream: Done; messages (package meridianlaw18) of two rows of one message that are one (written by gen/strf.py). -/
namespace Go.Proofs.YtdffldlcbihjmaaDoor
open Go.RowKit Go.Sort

/-- A row of one message. -/
def Msg1 (base : Nat) (w : World) (v : Value) (f t : Int) (d : List Int) : Prop := ∃ B c g cap, base ≤ B ∧ base ≤ g ∧ v = .slice (some ⟨B, 0, none⟩) 1 c ∧ XB w B [.int .i64 f, .int .i64 t, .slice (some ⟨g, 0, none⟩) d.length cap] ∧ ByL w (some ⟨g, 0, none⟩) d ∧ d.length ≤ 1000000 ∧ d.length ≤ cap ∧ cap ≤ maxLen
theorem Msg1.below {base : Nat} {w w' : World} {v : Value} {f t : Int} {d : List Int} (h : Msg1 base w v f t d) (k : Below w.heap.size w w') : Msg1 base w' v f t d := by
  obtain ⟨B, c, g, cap, q1, q2, h1, h2, h3, h4⟩ := h
  exact ⟨B, c, g, cap, q1, q2, h1, h2.below k, h3.below k, h4⟩
theorem Msg1.only {base b : Nat} {w w' : World} {v : Value} {f t : Int} {d : List Int} (h : Msg1 base w v f t d) (k : Only b w w') (hb : b < base) : Msg1 base w' v f t d := by
  obtain ⟨B, c, g, cap, q1, q2, h1, h2, h3, h4⟩ := h
  exact ⟨B, c, g, cap, q1, q2, h1, h2.only k (by omega), h3.only k (fun ad had => by injection had with had; subst had; show g ≠ b; omega), h4⟩
theorem Msg1.mono {base base' : Nat} {w : World} {v : Value} {f t : Int} {d : List Int} (h : Msg1 base w v f t d) (hb : base' ≤ base) : Msg1 base' w v f t d := by
  obtain ⟨B, c, g, cap, q1, q2, h1⟩ := h
  exact ⟨B, c, g, cap, by omega, by omega, h1⟩
theorem Msg1.shape {base : Nat} {w : World} {v : Value} {f t : Int} {d : List Int} (h : Msg1 base w v f t d) : ∃ B c, v = .slice (some ⟨B, 0, none⟩) 1 c := by
  obtain ⟨B, c, g, cap, q1, q2, h1, _⟩ := h
  exact ⟨B, c, h1⟩
def doneM (a q : Int) : Int := max a (min q 1099511627776)
theorem doneM_bd {a q : Int} (h : 0 ≤ a ∧ a ≤ 1099511627776) : 0 ≤ doneM a q ∧ doneM a q ≤ 1099511627776 := by unfold doneM; omega
/-- The bytes of an ack. -/
def ackE (o a : Int) : List Int := frE (encW (wdOf 2 o a 0 0 0 0 []))
theorem ack_okW {o a : Int} (ho : 0 ≤ o ∧ o < 5) (ha : 0 ≤ a ∧ a ≤ 1099511627776) : okW (wdOf 2 o a 0 0 0 0 []) = true := by
  simp [okW, headW, bareW, wdOf, ho.1, ho.2, ha.1, ha.2]
/-- What Done tells. -/
def DoneRes (b : Nat) (f o a' : Int) (w w' : World) (e : Ending) : Prop := ∃ v, e = .returned v ∧ Msg1 w.heap.size w' v f o (ackE o a') ∧ StPost b (inC f o a') w w'
theorem done_fin {b : Nat} {f o z : Int} {w W1 w2 V : World} {g cap n : Nat} {D : List Int} (hD : ackE o z = D) (hO : Only b w W1) (h2 : Below W1.heap.size W1 w2) (hx : XB W1 b (inC f o z)) (hr : Row8 W1.heap.size w2 g cap n D) (hn : n ≤ 1000000)
    (hV : Below w2.heap.size w2 V) {B : Nat} (hBB : w2.heap.size ≤ B) (hB : XB V B [.int .i64 f, .int .i64 o, .slice (some ⟨g, 0, none⟩) n cap]) : DoneRes b f o z w V (.returned (.slice (some ⟨B, 0, none⟩) 1 1)) := by
  subst hD
  have hl := hr.len
  subst hl
  exact ⟨_, rfl, ⟨B, 1, g, cap, Nat.le_trans hO.size (Nat.le_trans h2.size hBB), Nat.le_trans hO.size hr.ge.1, rfl, hB, (hr.below hV).by_, hn, hr.cap_le.1, hr.cap_le.2⟩, (hx.below h2).below hV, hO.trans (Only.of_below (h2.trans (hV.mono h2.size)))⟩
set_option maxRecDepth 100000 in
set_option maxHeartbeats 4000000 in
theorem st_done (b : Nat) (f o a q : Int) (w : World) (h : XB w b (inC f o a)) (ho : 0 ≤ o ∧ o < 5) (ha : 0 ≤ a ∧ a ≤ 1099511627776) (ht : ∀ W, Only b w W → Nib W) :
    Calls Tryd.prog 43 #[.pointer (some ⟨b, 0, none⟩), .int .i64 q] w fun e w' => DoneRes b f o (doneM a q) w w' e := by
  have hz := doneM_bd (q := q) ha
  obtain ⟨z, hzz⟩ : ∃ z, doneM a q = z := ⟨_, rfl⟩
  rw [hzz] at hz ⊢
  have HQ3 : Hid (max a (min q 1099511627776) = z) := Lib.hid hzz
  clear hzz ha
  have c0 := h.c 0 _ rfl
  have c1 := h.c 1 _ rfl
  have c2 := h.c 2 _ rfl
  have f2 := h.fz 2
  have lt := h.lt
  obtain ⟨W1, hW1⟩ : ∃ W1, w.setCell ⟨b, 2, none⟩ (.int .i64 z) = W1 := ⟨_, rfl⟩
  have HX1 : Hid (XB W1 b (inC f o z)) := Lib.hid (by rw [← hW1]; exact h.set 2 (by simp) (.int .i64 z))
  have HO1 : Hid (Only b w W1) := Lib.hid (by rw [← hW1]; exact (Only.refl _ _).setB _)
  have HW1 := Lib.hid hW1
  obtain ⟨D, hD⟩ : ∃ D, ackE o z = D := ⟨_, rfl⟩
  obtain ⟨n, hn⟩ : ∃ n, 12 + (encW (wdOf 2 o z 0 0 0 0 [])).length = n := ⟨_, rfl⟩
  have HD := Lib.hid hD
  have HN : Hid (n ≤ 1000000) := Lib.hid (by have := encW_bd (ack_okW ho hz); omega)
  have HENC : Hid (∀ W, Only b w W → Calls Tryd.prog 13 #[wdV 2 o z 0 0 0 0 (.slice none 0 0)] W fun e w' => (∃ g cap, e = .returned (.tuple #[.slice (some ⟨g, 0, none⟩) n cap, .int .i64 0]) ∧ Row8 W.heap.size w' g cap n D) ∧ Below W.heap.size W w') := Lib.hid (fun W k => by
    subst hn hD
    exact wd_enc 2 o z 0 0 0 0 none 0 [] W (ht W k) ⟨_, _, rfl, fun h => absurd h (by simp)⟩ (fun _ h => by cases h) (fun _ h => by cases h) (by simp) (ack_okW ho hz))
  clear h ht ho hz hD hn hW1
  go_enter Tryd.func43, Tryd.ntmps43
  go_upto_region 4 with fail
  rw [HQ3.out, HW1.out]
  clear c0 c1 c2 f2 lt
  have lt := HX1.out.lt
  refine wp_region_held_drew (S := (fun w' => w'.cell? ⟨b, 1, none⟩ = some (.int .i64 o) ∧ w'.cell? ⟨b, 2, none⟩ = some (.int .i64 z))) (by kernel_rfl) ?_ (fun hHeld => ?_)
  · exact ⟨HX1.out.c 1 _ rfl, HX1.out.c 2 _ rfl⟩
  refine wpAnyH_take (i := 0) (v := ?_) rfl (by kernel_rfl) (by kernel_rfl) (by kernel_rfl) (fun _ _ _ h => h) (Or.inl ⟨by rfl, ?_⟩) (by assumption) ?_
  rotate_left
  · intro w' hSw; (try dsimp only at hSw); go_simp; (try with_reducible rfl)
  (try simp only [Act.put, List.setIfInBounds_toArray, List.set_cons_zero, List.set_cons_succ, List.getElem_toArray, List.getElem_cons_succ, List.getElem_cons_zero])
  refine wpAnyH_take (i := 1) (v := ?_) rfl (by kernel_rfl) (by kernel_rfl) (by kernel_rfl) (fun _ _ _ h => h) (Or.inl ⟨by rfl, ?_⟩) (by assumption) ?_
  rotate_left
  · intro w' hSw; (try dsimp only at hSw); go_simp; (try with_reducible rfl)
  (try simp only [Act.put, List.setIfInBounds_toArray, List.set_cons_zero, List.set_cons_succ, List.getElem_toArray, List.getElem_cons_succ, List.getElem_cons_zero])
  refine wpAnyH_take (i := 2) (v := ?_) rfl (by kernel_rfl) (by kernel_rfl) (by kernel_rfl) (fun _ _ _ h => h) (Or.inl ⟨by rfl, ?_⟩) (by assumption) ?_
  rotate_left
  · intro w' hSw; (try dsimp only at hSw); go_simp; (try with_reducible rfl)
  (try simp only [Act.put, List.setIfInBounds_toArray, List.set_cons_zero, List.set_cons_succ, List.getElem_toArray, List.getElem_cons_succ, List.getElem_cons_zero])
  refine wpAnyH_take (i := 3) (v := ?_) rfl (by kernel_rfl) (by kernel_rfl) (by kernel_rfl) (fun _ _ _ h => h) (Or.inl ⟨by rfl, ?_⟩) (by assumption) ?_
  rotate_left
  · intro w' hSw; (try dsimp only at hSw); go_simp; (try with_reducible rfl)
  (try simp only [Act.put, List.setIfInBounds_toArray, List.set_cons_zero, List.set_cons_succ, List.getElem_toArray, List.getElem_cons_succ, List.getElem_cons_zero])
  refine wpAnyH_take (i := 4) (v := ?_) rfl (by kernel_rfl) (by kernel_rfl) (by kernel_rfl) (fun _ _ _ h => h) (Or.inl ⟨by rfl, ?_⟩) (by assumption) ?_
  rotate_left
  · intro w' hSw; (try dsimp only at hSw); go_simp; (try with_reducible rfl)
  (try simp only [Act.put, List.setIfInBounds_toArray, List.set_cons_zero, List.set_cons_succ, List.getElem_toArray, List.getElem_cons_succ, List.getElem_cons_zero])
  refine wpAnyH_take (i := 5) (v := ?_) rfl (by kernel_rfl) (by kernel_rfl) (by kernel_rfl) (fun _ _ _ h => h) (Or.inl ⟨by rfl, ?_⟩) (by assumption) ?_
  rotate_left
  · intro w' hSw; (try dsimp only at hSw); go_simp; (try with_reducible rfl)
  (try simp only [Act.put, List.setIfInBounds_toArray, List.set_cons_zero, List.set_cons_succ, List.getElem_toArray, List.getElem_cons_succ, List.getElem_cons_zero])
  refine wpAnyH_take (i := 6) (v := ?_) rfl (by kernel_rfl) (by kernel_rfl) (by kernel_rfl) (fun _ _ _ h => h) (Or.inl ⟨by rfl, ?_⟩) (by assumption) ?_
  rotate_left
  · intro w' hSw; (try dsimp only at hSw); go_simp; (try with_reducible rfl)
  (try simp only [Act.put, List.setIfInBounds_toArray, List.set_cons_zero, List.set_cons_succ, List.getElem_toArray, List.getElem_cons_succ, List.getElem_cons_zero])
  refine wpAnyH_take (i := 7) (v := ?_) rfl (by kernel_rfl) (by kernel_rfl) (by kernel_rfl) (fun _ _ _ h => h) (Or.inl ⟨by rfl, ?_⟩) (by assumption) ?_
  rotate_left
  · intro w' hSw; (try dsimp only at hSw); go_simp; (try with_reducible rfl)
  (try simp only [Act.put, List.setIfInBounds_toArray, List.set_cons_zero, List.set_cons_succ, List.getElem_toArray, List.getElem_cons_succ, List.getElem_cons_zero])
  refine wpAnyH_take (i := 8) (v := ?_) rfl (by kernel_rfl) (by kernel_rfl) (by kernel_rfl) (fun _ _ _ h => h) (Or.inl ⟨by rfl, ?_⟩) (by assumption) ?_
  rotate_left
  · intro w' hSw; (try dsimp only at hSw); go_simp; (try with_reducible rfl)
  (try simp only [Act.put, List.setIfInBounds_toArray, List.set_cons_zero, List.set_cons_succ, List.getElem_toArray, List.getElem_cons_succ, List.getElem_cons_zero])
  refine wpAnyH_ready (rs := [9]) (by kernel_rfl) (by simp) ?_
  refine AllReadyH.cons rfl (fun K hK => ?_) AllReadyH.nil
  go_simp
  (go_at_call 13; refine (HENC.out _ HO1.out.drew).mono ?_; rintro e w2 ⟨⟨g, cap, rfl, hr⟩, k2⟩; have k2' : Below W1.heap.size W1 w2 := (Below.refl W1.heap.size W1).drew.trans k2; have HX2 := Lib.hid (HX1.out.below k2'); have HR2 : Hid (Row8 W1.heap.size w2 g cap n D) := Lib.hid hr; have HK2 : Hid (Below W1.heap.size W1 w2) := Lib.hid k2'; clear hr k2 k2')
  (try dsimp only)
  refine hK.out _ _ ?_ (fun hHeld => ?_)
  · exact ⟨HX2.out.c 1 _ rfl, HX2.out.c 2 _ rfl⟩
  clear hK K
  (try simp only [Act.put, List.setIfInBounds_toArray, List.set_cons_zero, List.set_cons_succ, List.getElem_toArray, List.getElem_cons_succ, List.getElem_cons_zero])
  refine wpAnyH_take (i := 10) (v := ?_) rfl (by kernel_rfl) (by kernel_rfl) (by kernel_rfl) (fun _ _ _ h => h) (Or.inl ⟨by rfl, ?_⟩) (by assumption) ?_
  rotate_left
  · intro w' hSw; (try dsimp only at hSw); go_simp; (try with_reducible rfl)
  (try simp only [Act.put, List.setIfInBounds_toArray, List.set_cons_zero, List.set_cons_succ, List.getElem_toArray, List.getElem_cons_succ, List.getElem_cons_zero])
  refine wpAnyH_take (i := 11) (v := ?_) rfl (by kernel_rfl) (by kernel_rfl) (by kernel_rfl) (fun _ _ _ h => h) (Or.inl ⟨by rfl, ?_⟩) (by assumption) ?_
  rotate_left
  · intro w' hSw; (try dsimp only at hSw); go_simp; (try with_reducible rfl)
  (try simp only [Act.put, List.setIfInBounds_toArray, List.set_cons_zero, List.set_cons_succ, List.getElem_toArray, List.getElem_cons_succ, List.getElem_cons_zero])
  refine wpAnyH_take (i := 12) (v := ?_) rfl (by kernel_rfl) (by kernel_rfl) (by kernel_rfl) (fun _ _ _ h => h) (Or.inl ⟨by rfl, ?_⟩) (by assumption) ?_
  rotate_left
  · intro w' hSw; (try dsimp only at hSw); go_simp; (try with_reducible rfl)
  (try simp only [Act.put, List.setIfInBounds_toArray, List.set_cons_zero, List.set_cons_succ, List.getElem_toArray, List.getElem_cons_succ, List.getElem_cons_zero])
  refine wpAnyH_take (i := 13) (v := ?_) rfl (by kernel_rfl) (by kernel_rfl) (by kernel_rfl) (fun _ _ _ h => h) (Or.inl ⟨by rfl, ?_⟩) (by assumption) ?_
  rotate_left
  · intro w' hSw; (try dsimp only at hSw); go_simp; (try with_reducible rfl)
  (try simp only [Act.put, List.setIfInBounds_toArray, List.set_cons_zero, List.set_cons_succ, List.getElem_toArray, List.getElem_cons_succ, List.getElem_cons_zero])
  refine wpAnyH_take (i := 14) (v := ?_) rfl (by kernel_rfl) (by kernel_rfl) (by kernel_rfl) (fun _ _ _ h => h) (Or.inl ⟨by rfl, ?_⟩) (by assumption) ?_
  rotate_left
  · intro w' hSw; (try dsimp only at hSw); go_simp; (try with_reducible rfl)
  (try simp only [Act.put, List.setIfInBounds_toArray, List.set_cons_zero, List.set_cons_succ, List.getElem_toArray, List.getElem_cons_succ, List.getElem_cons_zero])
  refine wpAnyH_done (by kernel_rfl) ?_ _
  clear hHeld lt
  have c0 := HX2.out.c 0 _ rfl
  have c1 := HX2.out.c 1 _ rfl
  have lt := HX2.out.lt
  go_wp2_with fail
  go_region
  go_wp2
  go_ret
  exact done_fin HD.out HO1.out HK2.out HX1.out HR2.out HN.out (by (repeat' (first | (with_reducible exact Below.refl _ _) | (with_reducible assumption) | (with_reducible refine Below.trans ?_ (Below.mono (by with_reducible assumption) ?_)) | (with_reducible refine Below.alloc ?_ ?_ _) | (with_reducible refine Below.setCell ?_ ?_ _) | (with_reducible refine below_drewN ?_ _) | (with_reducible refine Below.drew ?_) | go_size))) (Nat.le_refl _) ((XB.new w2 #[.int .i64 f, .int .i64 o, .slice (some ⟨g, 0, none⟩) n cap] 84).below (by (repeat' (first | (with_reducible exact Below.refl _ _) | (with_reducible assumption) | (with_reducible refine Below.trans ?_ (Below.mono (by with_reducible assumption) ?_)) | (with_reducible refine Below.alloc ?_ ?_ _) | (with_reducible refine Below.setCell ?_ ?_ _) | (with_reducible refine below_drewN ?_ _) | (with_reducible refine Below.drew ?_) | go_size))))

set_option maxRecDepth 100000 in
set_option maxHeartbeats 4000000 in
theorem law_messages (v v' : Value) (f t : Int) (d : List Int) (w : World) {base base' : Nat} (h : Msg1 base w v f t d) (h' : Msg1 base' w v' f t d) :
    Calls Tryd.prog 36 #[v, v'] w fun e w' => e = .returned (.bool true) ∧ Below w.heap.size w w' := by
  obtain ⟨B, c, g, cap, _, _, rfl, hx, hy, hl, _⟩ := h
  obtain ⟨B', c', g', cap', _, _, rfl, hx', hy', _, _⟩ := h'
  have HCON : Hid (∀ W, Below w.heap.size w W → Calls Tryd.prog 73 #[.slice (some ⟨g, 0, none⟩) d.length cap, .slice (some ⟨g', 0, none⟩) d.length cap'] W fun e w' => e = .returned (.bool true) ∧ Below W.heap.size W w') := Lib.hid (fun W k => (lsame18 (some ⟨g, 0, none⟩) d cap (some ⟨g', 0, none⟩) d cap' W hl hl (hy.below k) (hy'.below k)).mono fun e w' ⟨q1, q, q2⟩ => ⟨by rw [q1]; simp, by rw [q2]; exact drewN_below18 W q⟩)
  generalize d.length = n at *
  have x0 := fun d os => cell_regrown (hx.c 0 _ rfl) d os
  have x1 := fun d os => cell_regrown (hx.c 1 _ rfl) d os
  have x2 := fun d os => cell_regrown (hx.c 2 _ rfl) d os
  have y0 := fun d os => cell_regrown (hx'.c 0 _ rfl) d os
  have y1 := fun d os => cell_regrown (hx'.c 1 _ rfl) d os
  have y2 := fun d os => cell_regrown (hx'.c 2 _ rfl) d os
  have AC := Lib.hid fun (d' : Nat) (os : Array Obj) => Calls.regrown_of (HCON.out (grow (redrawn w d') os) (below_regrown w d' os))
  clear hx hx' hy hy' hl HCON
  go_enter Tryd.func36, Tryd.ntmps36
  go_wp2
  refine wp_loop_rounds 2 ?_
  rw [rounds_succ]
  go_wp2_with fail
  refine wp_region_quiet_below (by kernel_rfl) (by kernel_rfl) ?_
  repeat (go_big_quiet_step ((go_at_call 73; exact AC.out _ _)))
  refine wpQuiet_nil ?_
  intro _ hw'
  obtain ⟨⟨dq, osq⟩, hw''⟩ := hw'
  subst hw''
  have HQ := Lib.hid (below_regrown w dq osq)
  clear AC x0 x1 x2 y0 y1 y2
  generalize hgw : grow (redrawn w dq) osq = W2 at *
  clear hgw
  go_wp2
  rw [rounds_succ]
  go_wp2
  go_ret
  exact ⟨rfl, HQ.out⟩
end Go.Proofs.YtdffldlcbihjmaaDoor

/- stream: Send (written by gen/strg.py). -/
namespace Go.Proofs.YtdffldlcbihjmaaDoor
open Go.RowKit Go.Sort

def fstS (rs : List Rc) : Int := match rs with | [] => 0 | r :: _ => r.s
/-- What Send tells: an error, or none. -/
def sendC (f a s : Int) (rs : List Rc) : Int :=
  if rs.length = 0 then 1 else if ¬ (∀ r ∈ rs, okR r = true ∧ r.o = f) then 1 else if 8 < rs.length then 5 else if fstS rs ≤ a ∨ s + 1 < fstS rs then 12 else if rowB f (fstS rs) rs = true then 0 else 12
theorem send_bad {f a s : Int} {rs : List Rc} (h0 : 0 < rs.length) {r : Rc} (hr : r ∈ rs) (h : ¬ (okR r = true ∧ r.o = f)) : sendC f a s rs = 1 := by
  unfold sendC
  rw [if_neg (by omega), if_pos (fun q => h (q r hr))]
theorem send_long {f a s : Int} {rs : List Rc} (h0 : 0 < rs.length) (ha : ∀ r ∈ rs, okR r = true ∧ r.o = f) (h : 8 < rs.length) : sendC f a s rs = 5 := by
  unfold sendC
  rw [if_neg (by omega), if_neg (fun q => q ha), if_pos h]
theorem send_first {f a s : Int} {rs : List Rc} (h0 : 0 < rs.length) (ha : ∀ r ∈ rs, okR r = true ∧ r.o = f) (h : ¬ 8 < rs.length) (hf : fstS rs ≤ a ∨ s + 1 < fstS rs) : sendC f a s rs = 12 := by
  unfold sendC
  rw [if_neg (by omega), if_neg (fun q => q ha), if_neg h, if_pos hf]
theorem send_gap {f a s : Int} {rs : List Rc} (h0 : 0 < rs.length) (ha : ∀ r ∈ rs, okR r = true ∧ r.o = f) (h : ¬ 8 < rs.length) (hf : ¬ (fstS rs ≤ a ∨ s + 1 < fstS rs)) (hb : rowB f (fstS rs) rs = false) : sendC f a s rs = 12 := by
  unfold sendC
  rw [if_neg (by omega), if_neg (fun q => q ha), if_neg h, if_neg hf, if_neg (by rw [hb]; decide)]
theorem send_yes {f a s : Int} {rs : List Rc} (h0 : 0 < rs.length) (ha : ∀ r ∈ rs, okR r = true ∧ r.o = f) (h : ¬ 8 < rs.length) (hf : ¬ (fstS rs ≤ a ∨ s + 1 < fstS rs)) (hb : rowB f (fstS rs) rs = true) : sendC f a s rs = 0 := by
  unfold sendC
  rw [if_neg (by omega), if_neg (fun q => q ha), if_neg h, if_neg hf, if_pos hb]
theorem rowB_at' : ∀ {rs : List Rc} {o s : Int}, rowB o s rs = true → ∀ (i : Nat) (r : Rc), rs[i]? = some r → okR r = true ∧ r.o = o ∧ r.s = s + (i : Int)
  | [], _, _, _, i, r, hr => by simp at hr
  | x :: t, o, s, h, i, r, hr => by
    simp only [rowB, Bool.and_eq_true, decide_eq_true_eq] at h
    cases i with
    | zero =>
      simp at hr
      subst hr
      exact ⟨h.1, h.2.1, by simp [h.2.2.1]⟩
    | succ i =>
      have q := rowB_at' h.2.2.2 i r (by simpa using hr)
      exact ⟨q.1, q.2.1, by rw [q.2.2]; omega⟩
theorem rowB_of' : ∀ {rs : List Rc} {o s : Int}, (∀ (i : Nat) (r : Rc), rs[i]? = some r → okR r = true ∧ r.o = o ∧ r.s = s + (i : Int)) → rowB o s rs = true
  | [], _, _, _ => rfl
  | x :: t, o, s, h => by
    have q := h 0 x rfl
    simp only [rowB, Bool.and_eq_true, decide_eq_true_eq]
    exact ⟨q.1, q.2.1, by simpa using q.2.2, rowB_of' (fun i r hr => by
      have := h (i + 1) r (by simpa using hr)
      exact ⟨this.1, this.2.1, by rw [this.2.2]; omega⟩)⟩
def recE (f : Int) (rs : List Rc) : List Int := frE (encW ⟨1, f, fstS rs, 0, 0, 0, 0, rs⟩)
def SendRes (b : Nat) (f t a s n : Int) (rs : List Rc) (w w' : World) (e : Ending) : Prop :=
  (sendC f a s rs ≠ 0 ∧ e = .returned (.tuple #[.slice none 0 0, .int .i64 (sendC f a s rs)]) ∧ Below w.heap.size w w') ∨
  (sendC f a s rs = 0 ∧ ∃ v, e = .returned (.tuple #[v, .int .i64 0]) ∧ Msg1 w.heap.size w' v f t (recE f rs) ∧ StPost b (outC f t a (max s (fstS rs + (rs.length : Int) - 1)) 0) w w')
theorem send_no {b : Nat} {f t a s n k : Int} {rs : List Rc} {w w' : World} (h : sendC f a s rs = k) (hk : k ≠ 0) (hb : Below w.heap.size w w') : SendRes b f t a s n rs w w' (.returned (.tuple #[.slice none 0 0, .int .i64 k])) := .inl ⟨by rw [h]; exact hk, by rw [h], hb⟩
theorem st_send_nil (b : Nat) (f t a s n : Int) (A : Option Addr) (c : Nat) (w : World) (h : XB w b (outC f t a s n)) :
    Calls Tryd.prog 34 #[.pointer (some ⟨b, 0, none⟩), .slice A 0 c] w fun e w' => SendRes b f t a s n [] w w' e := by
  have lt := h.lt
  clear h
  go_enter Tryd.func34, Tryd.ntmps34
  go_wp2
  go_ret2
  exact send_no (k := 1) rfl (by decide) (Below.refl _ _)
theorem send_fin {b : Nat} {f t a s n : Int} {rs : List Rc} {w w2 V : World} {g cap m : Nat} {D : List Int} (hc : sendC f a s rs = 0) (hD : recE f rs = D) (hO : Only b w V) (hx : XB V b (outC f t a (max s (fstS rs + (rs.length : Int) - 1)) 0)) (hr : Row8 w.heap.size w2 g cap m D) (hm : m ≤ 1000000)
    (hV : But (fun i => i = b) w2 V) (hgb : b < w.heap.size) {B : Nat} (hBB : w.heap.size ≤ B) (hB : XB V B [.int .i64 f, .int .i64 t, .slice (some ⟨g, 0, none⟩) m cap]) : SendRes b f t a s n rs w V (.returned (.tuple #[.slice (some ⟨B, 0, none⟩) 1 1, .int .i64 0])) := by
  subst hD
  have hl := hr.len
  subst hl
  refine .inr ⟨hc, _, rfl, ⟨B, 1, g, cap, hBB, hr.ge.1, rfl, hB, ?_, hm, hr.cap_le.1, hr.cap_le.2⟩, hx, hO⟩
  exact hr.by_.but hV (fun _ ad had => by injection had with had; subst had; have := hr.ge.1; show ¬ g = b; omega)
set_option maxRecDepth 100000 in
set_option maxHeartbeats 8000000 in
theorem st_send (b : Nat) (f t a s n : Int) (B O c : Nat) (L : List Mr) (w : World) (h : XB w b (outC f t a s n)) (hrow : RowAt w (.slice (some ⟨B, O, none⟩) L.length c) L) (hat : ∀ m ∈ L, m.At (fun _ => True) w) (hkb : ∀ m ∈ L, isBy m.r.key ∧ isBy m.r.val) (hl0 : 0 < L.length) (hl : L.length ≤ 100000)
    (ha : 0 ≤ a ∧ a ≤ 2199023255552) (hs : 0 ≤ s ∧ s ≤ 2199023255552) (ht : Nib w) :
    Calls Tryd.prog 34 #[.pointer (some ⟨b, 0, none⟩), .slice (some ⟨B, O, none⟩) L.length c] w fun e w' => SendRes b f t a s n (L.map Mr.r) w w' e := by
  have hni : (L.length : Int) ≤ 100000 := by omega
  obtain ⟨A', c', he', hc'⟩ := hrow.ex
  have HC : Hid (B < w.heap.size ∧ ∀ j u, (rowM L)[j]? = some u → w.cell? ⟨B, O + j, none⟩ = some u) := Lib.hid (by
    obtain ⟨B', O', e, h⟩ := hc' (by omega)
    injection he' with q1 q2 q3
    rw [e] at q1
    injection q1 with q1
    injection q1 with q1 q4
    subst q1 q4
    exact h)
  have HX := Lib.hid h
  have HA := Lib.hid hat
  have HL : Hid (0 < (L.map Mr.r).length ∧ L.length ≤ 100000) := Lib.hid ⟨by simpa using hl0, hl⟩
  have hl0i : (0 : Int) < (L.length : Int) := by omega
  have hl0n : ¬ L.length = 0 := by omega
  have HSA := Lib.hid (And.intro ha hs)
  have e1 : IntKind.i64.wrap (s + 1) = s + 1 := IntWalk.i64_in _ (by omega)
  have HENC : Hid (okW ⟨1, f, fstS (L.map Mr.r), 0, 0, 0, 0, L.map Mr.r⟩ = true → ∀ W, Below w.heap.size w W → Calls Tryd.prog 13 #[wdV 1 f (fstS (L.map Mr.r)) 0 0 0 0 (.slice (some ⟨B, O, none⟩) L.length c)] W fun e w' => (∃ g2 cap2, e = .returned (.tuple #[.slice (some ⟨g2, 0, none⟩) (12 + (encW ⟨1, f, fstS (L.map Mr.r), 0, 0, 0, 0, L.map Mr.r⟩).length) cap2, .int .i64 0]) ∧ Row8 W.heap.size w' g2 cap2 (12 + (encW ⟨1, f, fstS (L.map Mr.r), 0, 0, 0, 0, L.map Mr.r⟩).length) (recE f (L.map Mr.r))) ∧ Below W.heap.size W w') := Lib.hid (fun hok W k =>
    wd_enc 1 f (fstS (L.map Mr.r)) 0 0 0 0 (some ⟨B, O, none⟩) c L W (ht.below k) (hrow.below k) (fun m hm => (hat m hm).below k) hkb (by omega) hok)
  clear h hrow hat hkb hl hl0 ha hs ht he' hc'
  go_enter Tryd.func34, Tryd.ntmps34
  go_wp2
  go_loopw [22] (fun i wr => ∃ j : Nat, j ≤ L.length ∧ i = .int .i64 j ∧ Below w.heap.size w wr ∧ Hid (∀ (i : Nat) (m : Mr), i < j → L[i]? = some m → okR m.r = true ∧ m.r.o = f)) (fun i _ => L.length - (intOf i).toNat)
  case atStart => exact ⟨0, Nat.zero_le _, rfl, Below.refl _ _, Lib.hid (fun _ _ h => by omega)⟩
  case round =>
    obtain ⟨j, hj, rfl, hBB, hO⟩ := hrel
    by_cases hlt : j < L.length
    · have lk : (j : Int) < (L.length : Int) := by omega
      have hi1 : ((j : Int).toNat) = j := by simp
      have hx : L[j]? = some L[j] := List.getElem?_eq_getElem hlt
      have hmem : L[j].r ∈ L.map Mr.r := List.mem_map_of_mem (List.getElem_mem hlt)
      generalize L[j] = x at *
      have hBl := HC.out.1
      have hcell := HC.out.2
      have a0 : wr.cell? ⟨B, O + j * 9, none⟩ = some (.int .i64 x.r.o) := (hBB.cell (p := ⟨B, O + j * 9, none⟩) hBl).trans (hcell (j * 9) _ (by have := rowM_at hx 0 (by omega); rwa [Nat.add_zero] at this))
      have a1 : wr.cell? ⟨B, O + j * 9 + 1, none⟩ = some (.int .i64 x.r.s) := by rw [Nat.add_assoc]; exact (hBB.cell (p := ⟨B, O + (j * 9 + 1), none⟩) hBl).trans (hcell _ _ (rowM_at hx 1 (by omega)))
      have a2 : wr.cell? ⟨B, O + j * 9 + 2, none⟩ = some (.string (strB x.r.key)) := by rw [Nat.add_assoc]; exact (hBB.cell (p := ⟨B, O + (j * 9 + 2), none⟩) hBl).trans (hcell _ _ (rowM_at hx 2 (by omega)))
      have a3 : wr.cell? ⟨B, O + j * 9 + 3, none⟩ = some (.int .i64 x.r.ml) := by rw [Nat.add_assoc]; exact (hBB.cell (p := ⟨B, O + (j * 9 + 3), none⟩) hBl).trans (hcell _ _ (rowM_at hx 3 (by omega)))
      have a4 : wr.cell? ⟨B, O + j * 9 + 4, none⟩ = some (.int .i64 x.r.ct) := by rw [Nat.add_assoc]; exact (hBB.cell (p := ⟨B, O + (j * 9 + 4), none⟩) hBl).trans (hcell _ _ (rowM_at hx 4 (by omega)))
      have a5 : wr.cell? ⟨B, O + j * 9 + 5, none⟩ = some (.int .i64 x.r.vo) := by rw [Nat.add_assoc]; exact (hBB.cell (p := ⟨B, O + (j * 9 + 5), none⟩) hBl).trans (hcell _ _ (rowM_at hx 5 (by omega)))
      have a6 : wr.cell? ⟨B, O + j * 9 + 6, none⟩ = some (.slice x.A x.r.val.length x.c) := by rw [Nat.add_assoc]; exact (hBB.cell (p := ⟨B, O + (j * 9 + 6), none⟩) hBl).trans (hcell _ _ (rowM_at hx 6 (by omega)))
      have a7 : wr.cell? ⟨B, O + j * 9 + 7, none⟩ = some (.bool x.r.gone) := by rw [Nat.add_assoc]; exact (hBB.cell (p := ⟨B, O + (j * 9 + 7), none⟩) hBl).trans (hcell _ _ (rowM_at hx 7 (by omega)))
      have a8 : wr.cell? ⟨B, O + j * 9 + 8, none⟩ = some (.int .i64 x.r.tt) := by rw [Nat.add_assoc]; exact (hBB.cell (p := ⟨B, O + (j * 9 + 8), none⟩) hBl).trans (hcell _ _ (rowM_at hx 8 (by omega)))
      have HOK : Hid (okR x.r = okN x.r.o x.r.s (strB x.r.key).size x.r.ml x.r.ct x.r.vo x.r.val.length x.r.gone x.r.tt) := Lib.hid (by rw [okR_n, strB_size])
      have kA : Below wr.heap.size wr (wr.alloc (recO x.r.o x.r.s (strB x.r.key) x.r.ml x.r.ct x.r.vo x.A x.r.val.length x.c x.r.gone x.r.tt)) := (Below.refl _ _).alloc (Nat.le_refl _) _
      have X6 : XB (wr.alloc (recO x.r.o x.r.s (strB x.r.key) x.r.ml x.r.ct x.r.vo x.A x.r.val.length x.c x.r.gone x.r.tt)) wr.heap.size x.cs := XB.new wr _ _
      have Y6 := (HX.out.below hBB).below kA
      have HKA := Lib.hid (hBB.trans (kA.mono hBB.size))
      have HCON : Hid (∀ W, Calls Tryd.prog 72 #[recV x.r.o x.r.s (strB x.r.key) x.r.ml x.r.ct x.r.vo x.A x.r.val.length x.c x.r.gone x.r.tt] W fun e w' => e = .returned (.bool (okR x.r)) ∧ Below W.heap.size W w') := Lib.hid (fun W => by rw [HOK.out]; exact rec_is x.r.o x.r.s (strB x.r.key) x.r.ml x.r.ct x.r.vo x.A x.r.val.length x.c x.r.gone x.r.tt W)
      have HNX : Hid (okR x.r = true ∧ x.r.o = f → ∀ (i : Nat) (m : Mr), i < j + 1 → L[i]? = some m → okR m.r = true ∧ m.r.o = f) := Lib.hid (fun q i m hi hm => by
        by_cases hij : i = j
        · subst hij
          rw [hx] at hm
          injection hm with hm
          subst hm
          exact q
        · exact hO.out i m (by omega) hm)
      have HBAD : Hid (¬ (okR x.r = true ∧ x.r.o = f) → sendC f a s (L.map Mr.r) = 1) := Lib.hid (fun q => send_bad HL.out.1 hmem q)
      clear hx hmem hcell hBl hBB kA hlt hO HOK
      go_wp2_with fail
      clear a0 a1 a2 a3 a4 a5 a6 a7 a8
      have r0 := fun d os => cell_regrown (X6.c 0 _ rfl) d os
      have r1 := fun d os => cell_regrown (X6.c 1 _ rfl) d os
      have r2 := fun d os => cell_regrown (X6.c 2 _ rfl) d os
      have r3 := fun d os => cell_regrown (X6.c 3 _ rfl) d os
      have r4 := fun d os => cell_regrown (X6.c 4 _ rfl) d os
      have r5 := fun d os => cell_regrown (X6.c 5 _ rfl) d os
      have r6 := fun d os => cell_regrown (X6.c 6 _ rfl) d os
      have r7 := fun d os => cell_regrown (X6.c 7 _ rfl) d os
      have r8 := fun d os => cell_regrown (X6.c 8 _ rfl) d os
      have y0 := fun d os => cell_regrown (Y6.c 0 _ rfl) d os
      clear X6 Y6
      generalize wr.alloc (recO x.r.o x.r.s (strB x.r.key) x.r.ml x.r.ct x.r.vo x.A x.r.val.length x.c x.r.gone x.r.tt) = W6 at *
      have AC := Lib.hid fun (d' : Nat) (os : Array Obj) => Calls.regrown_of (HCON.out (grow (redrawn W6 d') os))
      clear HCON
      cases hok : okR x.r
      · rw [hok] at AC
        have HE := Lib.hid (HBAD.out (fun q => by have := q.1; rw [hok] at this; cases this))
        clear hok
        refine wp_region_quiet_below (by kernel_rfl) (by kernel_rfl) ?_
        repeat (go_big_quiet_step ((go_at_call 72; exact AC.out _ _)))
        refine wpQuiet_nil ?_
        intro _ hw'
        obtain ⟨⟨dq, osq⟩, hw''⟩ := hw'
        subst hw''
        have hq := below_regrown W6 dq osq
        have HK7 := Lib.hid (HKA.out.trans (hq.mono HKA.out.size))
        clear hq AC r0 r1 r2 r3 r4 r5 r6 r7 r8 y0
        generalize hgw : grow (redrawn W6 dq) osq = W7 at *
        clear hgw
        go_wp2
        go_ret2
        exact send_no HE.out (by decide) HK7.out
      rw [hok] at AC
      by_cases ho : x.r.o = f
      rotate_left
      · have t1 : (x.r.o != f) = true := by simpa using ho
        have HE := Lib.hid (HBAD.out (fun q => ho q.2))
        clear hok ho
        refine wp_region_quiet_below (by kernel_rfl) (by kernel_rfl) ?_
        repeat (go_big_quiet_step ((go_at_call 72; exact AC.out _ _)))
        refine wpQuiet_nil ?_
        intro _ hw'
        obtain ⟨⟨dq, osq⟩, hw''⟩ := hw'
        subst hw''
        have hq := below_regrown W6 dq osq
        have HK7 := Lib.hid (HKA.out.trans (hq.mono HKA.out.size))
        clear hq AC r0 r1 r2 r3 r4 r5 r6 r7 r8 y0
        generalize hgw : grow (redrawn W6 dq) osq = W7 at *
        clear hgw
        go_wp2
        go_ret2
        exact send_no HE.out (by decide) HK7.out
      · have t1 : (x.r.o != f) = false := by simpa using ho
        have HNY := Lib.hid (HNX.out ⟨hok, ho⟩)
        clear hok ho HNX HBAD
        refine wp_region_quiet_below (by kernel_rfl) (by kernel_rfl) ?_
        repeat (go_big_quiet_step ((go_at_call 72; exact AC.out _ _)))
        refine wpQuiet_nil ?_
        intro _ hw'
        obtain ⟨⟨dq, osq⟩, hw''⟩ := hw'
        subst hw''
        have hq := below_regrown W6 dq osq
        have HK7 := Lib.hid (HKA.out.trans (hq.mono HKA.out.size))
        clear hq AC r0 r1 r2 r3 r4 r5 r6 r7 r8 y0
        generalize hgw : grow (redrawn W6 dq) osq = W7 at *
        clear hgw
        go_wp2
        go_roundw
        case rel => exact ⟨j + 1, by omega, by go_num, HK7.out, Lib.hid HNY.out⟩
        case measure => simp [intOf]; omega
    · obtain rfl : j = L.length := by omega
      have HALL : Hid (∀ r ∈ L.map Mr.r, okR r = true ∧ r.o = f) := Lib.hid (fun r hr => by
        obtain ⟨m, hm, rfl⟩ := List.mem_map.1 hr
        obtain ⟨i, hi, e⟩ := List.mem_iff_getElem.1 hm
        exact hO.out i m hi (by rw [← e]; exact List.getElem?_eq_getElem hi))
      have HB := Lib.hid hBB
      clear hlt hO
      by_cases h8 : 8 < L.length
      · have t8 : (8 : Int) < (L.length : Int) := by omega
        have HE := Lib.hid (send_long (a := a) (s := s) HL.out.1 HALL.out (by simpa using h8))
        clear hBB h8
        go_wp2
        go_ret2
        exact send_no HE.out (by decide) HB.out
      have t8 : ¬ (8 : Int) < (L.length : Int) := by omega
      have h8i : (L.length : Int) ≤ 8 := by omega
      have h0l : 0 < L.length := by omega
      have hx : L[0]? = some L[0] := List.getElem?_eq_getElem h0l
      have HF : Hid (fstS (L.map Mr.r) = L[0].r.s) := Lib.hid (by
        cases L with
        | nil => simp at h0l
        | cons m t => rfl)
      have HOK0 := HALL.out L[0].r (List.mem_map_of_mem (List.getElem_mem h0l))
      generalize L[0] = x at *
      have c0 : wr.cell? ⟨B, O + 1, none⟩ = some (.int .i64 x.r.s) := (hBB.cell (p := ⟨B, O + 1, none⟩) HC.out.1).trans (HC.out.2 1 _ (by have := rowM_at hx 1 (by omega); rw [Nat.zero_mul, Nat.zero_add] at this; exact this))
      have X1 := HX.out.below hBB
      have c2 := X1.c 2 _ rfl
      have c3 := X1.c 3 _ rfl
      have lt := X1.lt
      have hsb : 1 ≤ x.r.s ∧ x.r.s ≤ 1099511627776 := ⟨((ok_iff _).1 HOK0.1).s0, ((ok_iff _).1 HOK0.1).s1⟩
      have hfb : Hid (0 ≤ f ∧ f < 5) := Lib.hid (by have h1 := ((ok_iff _).1 HOK0.1).o0; have h2 := ((ok_iff _).1 HOK0.1).o1; rw [HOK0.2] at h1 h2; exact ⟨h1, h2⟩)
      rw [HF.out] at HENC
      obtain ⟨F, hF⟩ : ∃ F, x.r.s = F := ⟨_, rfl⟩
      rw [hF] at c0 hsb HENC HF
      have H8 := Lib.hid h8
      clear hx HOK0 hF h8 X1 hBB
      by_cases hfa : F ≤ a
      · have HE := Lib.hid (send_first (a := a) (s := s) HL.out.1 HALL.out (by simpa using H8.out) (.inl (by rw [HF.out]; exact hfa)))
        clear hsb
        go_wp2
        go_ret2
        exact send_no HE.out (by decide) HB.out
      have hfa' : ¬ F ≤ a := hfa
      by_cases hfs : s + 1 < F
      · have HE := Lib.hid (send_first (a := a) HL.out.1 HALL.out (by simpa using H8.out) (.inr (by rw [HF.out]; exact hfs)))
        clear hsb
        go_wp2
        go_ret2
        exact send_no HE.out (by decide) HB.out
      have HNF : Hid (¬ (fstS (L.map Mr.r) ≤ a ∨ s + 1 < fstS (L.map Mr.r))) := Lib.hid (by rw [HF.out]; omega)
      go_wp2
      clear c0 c2 c3 lt
      go_loopw [63] (fun i wr => ∃ j : Nat, j ≤ L.length ∧ i = .int .i64 j ∧ Below w.heap.size w wr ∧ Hid (∀ (i : Nat) (m : Mr), i < j → L[i]? = some m → m.r.s = F + (i : Int))) (fun i _ => L.length - (intOf i).toNat)
      case atStart => exact ⟨0, Nat.zero_le _, rfl, HB.out, Lib.hid (fun _ _ h => by omega)⟩
      case round =>
        obtain ⟨j, hj, rfl, hBB, hO⟩ := hrel
        clear HB
        by_cases hlt : j < L.length
        · have lk : (j : Int) < (L.length : Int) := by omega
          have hi1 : ((j : Int).toNat) = j := by simp
          have hx : L[j]? = some L[j] := List.getElem?_eq_getElem hlt
          generalize L[j] = x at *
          have hBl := HC.out.1
          have hcell := HC.out.2
          have a0 : wr.cell? ⟨B, O + j * 9, none⟩ = some (.int .i64 x.r.o) := (hBB.cell (p := ⟨B, O + j * 9, none⟩) hBl).trans (hcell (j * 9) _ (by have := rowM_at hx 0 (by omega); rwa [Nat.add_zero] at this))
          have a1 : wr.cell? ⟨B, O + j * 9 + 1, none⟩ = some (.int .i64 x.r.s) := by rw [Nat.add_assoc]; exact (hBB.cell (p := ⟨B, O + (j * 9 + 1), none⟩) hBl).trans (hcell _ _ (rowM_at hx 1 (by omega)))
          have a2 : wr.cell? ⟨B, O + j * 9 + 2, none⟩ = some (.string (strB x.r.key)) := by rw [Nat.add_assoc]; exact (hBB.cell (p := ⟨B, O + (j * 9 + 2), none⟩) hBl).trans (hcell _ _ (rowM_at hx 2 (by omega)))
          have a3 : wr.cell? ⟨B, O + j * 9 + 3, none⟩ = some (.int .i64 x.r.ml) := by rw [Nat.add_assoc]; exact (hBB.cell (p := ⟨B, O + (j * 9 + 3), none⟩) hBl).trans (hcell _ _ (rowM_at hx 3 (by omega)))
          have a4 : wr.cell? ⟨B, O + j * 9 + 4, none⟩ = some (.int .i64 x.r.ct) := by rw [Nat.add_assoc]; exact (hBB.cell (p := ⟨B, O + (j * 9 + 4), none⟩) hBl).trans (hcell _ _ (rowM_at hx 4 (by omega)))
          have a5 : wr.cell? ⟨B, O + j * 9 + 5, none⟩ = some (.int .i64 x.r.vo) := by rw [Nat.add_assoc]; exact (hBB.cell (p := ⟨B, O + (j * 9 + 5), none⟩) hBl).trans (hcell _ _ (rowM_at hx 5 (by omega)))
          have a6 : wr.cell? ⟨B, O + j * 9 + 6, none⟩ = some (.slice x.A x.r.val.length x.c) := by rw [Nat.add_assoc]; exact (hBB.cell (p := ⟨B, O + (j * 9 + 6), none⟩) hBl).trans (hcell _ _ (rowM_at hx 6 (by omega)))
          have a7 : wr.cell? ⟨B, O + j * 9 + 7, none⟩ = some (.bool x.r.gone) := by rw [Nat.add_assoc]; exact (hBB.cell (p := ⟨B, O + (j * 9 + 7), none⟩) hBl).trans (hcell _ _ (rowM_at hx 7 (by omega)))
          have a8 : wr.cell? ⟨B, O + j * 9 + 8, none⟩ = some (.int .i64 x.r.tt) := by rw [Nat.add_assoc]; exact (hBB.cell (p := ⟨B, O + (j * 9 + 8), none⟩) hBl).trans (hcell _ _ (rowM_at hx 8 (by omega)))
          have HKA := Lib.hid (hBB.alloc hBB.size (recO x.r.o x.r.s (strB x.r.key) x.r.ml x.r.ct x.r.vo x.A x.r.val.length x.c x.r.gone x.r.tt))
          have e2 : IntKind.i64.wrap (F + (j : Int)) = F + (j : Int) := IntWalk.i64_in _ (by omega)
          have HNX : Hid (x.r.s = F + (j : Int) → ∀ (i : Nat) (m : Mr), i < j + 1 → L[i]? = some m → m.r.s = F + (i : Int)) := Lib.hid (fun q i m hi hm => by
            by_cases hij : i = j
            · subst hij
              rw [hx] at hm
              injection hm with hm
              subst hm
              exact q
            · exact hO.out i m (by omega) hm)
          have HBAD : Hid (¬ x.r.s = F + (j : Int) → sendC f a s (L.map Mr.r) = 12) := Lib.hid (fun q => send_gap HL.out.1 HALL.out (by simpa using H8.out) HNF.out (by
            rw [HF.out]
            cases hb : rowB f F (L.map Mr.r)
            · rfl
            · exact absurd (rowB_at' hb j x.r (by rw [List.getElem?_map, hx]; rfl)).2.2 q))
          clear hx hcell hBl hBB hlt hO
          by_cases hs : x.r.s = F + (j : Int)
          · have t2 : (x.r.s != F + (j : Int)) = false := by simpa using hs
            have HNY := Lib.hid (HNX.out hs)
            clear hs HNX HBAD
            go_wp2
            go_roundw
            case rel => exact ⟨j + 1, by omega, by go_num, HKA.out, Lib.hid HNY.out⟩
            case measure => simp [intOf]; omega
          · have t2 : (x.r.s != F + (j : Int)) = true := by simpa using hs
            have HE := Lib.hid (HBAD.out hs)
            clear hs HNX HBAD
            go_wp2
            go_ret2
            exact send_no HE.out (by decide) HKA.out
        · obtain rfl : j = L.length := by omega
          have HROW : Hid (rowB f F (L.map Mr.r) = true) := Lib.hid (rowB_of' (fun i r hr => by
            rw [List.getElem?_map] at hr
            cases hm : L[i]? with
            | none => rw [hm] at hr; cases hr
            | some m =>
              rw [hm] at hr
              injection hr with hr
              subst hr
              have hi : i < L.length := by rw [List.getElem?_eq_some_iff] at hm; exact hm.1
              have q := HALL.out m.r (List.mem_map_of_mem (List.mem_of_getElem? hm))
              exact ⟨q.1, q.2, hO.out i m hi hm⟩))
          have HOKW : Hid (okW ⟨1, f, F, 0, 0, 0, 0, L.map Mr.r⟩ = true) := Lib.hid (by
            have h1 := hfb.out
            have h2 := HROW.out
            have h3 := H8.out
            simp [okW, headW, bareW, h1.1, h1.2, h2]
            omega)
          have HBD := Lib.hid (encW_bd HOKW.out)
          have HEC : Hid (sendC f a s (L.map Mr.r) = 0) := Lib.hid (send_yes HL.out.1 HALL.out (by simpa using H8.out) HNF.out (by rw [HF.out]; exact HROW.out))
          have HE := Lib.hid (HENC.out HOKW.out wr hBB)
          obtain ⟨m, hm⟩ : ∃ m, 12 + (encW ⟨1, f, F, 0, 0, 0, 0, L.map Mr.r⟩).length = m := ⟨_, rfl⟩
          have HM : Hid (m ≤ 1000000) := Lib.hid (by have := HBD.out; omega)
          rw [hm] at HE
          obtain ⟨D, hD⟩ : ∃ D, recE f (L.map Mr.r) = D := ⟨_, rfl⟩
          have HDE := Lib.hid hD
          rw [hD] at HE
          clear hD
          have X1 := HX.out.below hBB
          have c0 := X1.c 0 _ rfl
          have lt := X1.lt
          have HB := Lib.hid hBB
          clear hlt hO hm HENC X1 hBB
          go_wp2_with fail
          refine HE.out.mono ?_; rintro e w2 ⟨⟨g, cap, rfl, hr⟩, k2⟩
          have HB2 := Lib.hid (HB.out.trans (k2.mono HB.out.size))
          have HR2 : Hid (Row8 w.heap.size w2 g cap m D) := Lib.hid (hr.base HB.out.size)
          have X2 := HX.out.below HB2.out
          clear hr k2 HE c0 lt HB
          have c0 := X2.c 0 _ rfl
          have c1 := X2.c 1 _ rfl
          have c2 := X2.c 2 _ rfl
          have c3 := X2.c 3 _ rfl
          have c4 := X2.c 4 _ rfl
          have f3 := X2.fz 3
          have f4 := X2.fz 4
          have lt := X2.lt
          have e5 : IntKind.i64.wrap (F + (L.length : Int)) = F + (L.length : Int) := IntWalk.i64_in _ (by omega)
          have e6 : IntKind.i64.wrap (F + (L.length : Int) - 1) = F + (L.length : Int) - 1 := IntWalk.i64_in _ (by omega)
          obtain ⟨z, hz⟩ : ∃ z, max s (F + (L.length : Int) - 1) = z := ⟨_, rfl⟩
          have HZ := Lib.hid hz
          clear hz
          have HX2 := Lib.hid X2
          clear X2
          go_upto_region 25 with fail
          rw [HZ.out]
          obtain ⟨W3, hW3⟩ : ∃ W3, (w2.setCell ⟨b, 3, none⟩ (.int .i64 z)).setCell ⟨b, 4, none⟩ (.int .i64 0) = W3 := ⟨_, rfl⟩
          have HX3 : Hid (XB W3 b (outC f t a z 0)) := Lib.hid (by rw [← hW3]; exact (HX2.out.set 3 (by simp) (.int .i64 z)).set 4 (by simp) (.int .i64 0))
          have HO3 : Hid (Only b w2 W3) := Lib.hid (by rw [← hW3]; (repeat' (first | (with_reducible exact Only.refl _ _) | (with_reducible assumption) | (with_reducible refine Only.alloc ?_ _) | (with_reducible refine Only.setB ?_ _) | (refine Only.setCell ?_ (Or.inr ?_) _) | (with_reducible refine Only.drewN ?_ _) | (with_reducible refine Only.drew ?_) | (with_reducible refine Only.trans ?_ (by with_reducible assumption)) | (with_reducible refine Only.trans ?_ (Only.of_below (by with_reducible assumption))) | go_size)))
          rw [hW3]
          clear hW3 c0 c1 c2 c3 c4 f3 f4 lt
          have FIN : Hid (∀ V, Below W3.heap.size W3 V → XB V W3.heap.size [.int .i64 f, .int .i64 t, .slice (some ⟨g, 0, none⟩) m cap] → SendRes b f t a s n (L.map Mr.r) w V (.returned (.tuple #[.slice (some ⟨W3.heap.size, 0, none⟩) 1 1, .int .i64 0]))) := Lib.hid (fun V k hB =>
            send_fin HEC.out HDE.out (((Only.of_below HB2.out).trans HO3.out).trans (Only.of_below k)) (by rw [HF.out, List.length_map, HZ.out]; exact HX3.out.below k) HR2.out HM.out (But.of_only (HO3.out.trans (Only.of_below k)) rfl) HX.out.lt (Nat.le_trans HB2.out.size HO3.out.size) hB)
          have c0 := HX3.out.c 0 _ rfl
          have c1 := HX3.out.c 1 _ rfl
          have lt := HX3.out.lt
          go_region
          go_wp2
          go_ret2
          exact FIN.out _ (by (repeat' (first | (with_reducible exact Below.refl _ _) | (with_reducible assumption) | (with_reducible refine Below.trans ?_ (Below.mono (by with_reducible assumption) ?_)) | (with_reducible refine Below.alloc ?_ ?_ _) | (with_reducible refine Below.setCell ?_ ?_ _) | (with_reducible refine below_drewN ?_ _) | (with_reducible refine Below.drew ?_) | go_size))) ((XB.new W3 #[.int .i64 f, .int .i64 t, .slice (some ⟨g, 0, none⟩) m cap] 84).below (by (repeat' (first | (with_reducible exact Below.refl _ _) | (with_reducible assumption) | (with_reducible refine Below.trans ?_ (Below.mono (by with_reducible assumption) ?_)) | (with_reducible refine Below.alloc ?_ ?_ _) | (with_reducible refine Below.setCell ?_ ?_ _) | (with_reducible refine below_drewN ?_ _) | (with_reducible refine Below.drew ?_) | go_size))))
end Go.Proofs.YtdffldlcbihjmaaDoor

/- The reference's Decode of a word (written by gen/refwddec.py). -/
namespace Go.Proofs.YtdffldlcbihjmaaDoor
open Go.RowKit Go.Sort

abbrev zwR : Obj := .cells (wdC 0 0 0 0 0 0 0 (.slice none 0 0)) 34
theorem numsR3 (p : List Int) : numsR 3 (some p) = ([(rNum (some p)).1, (rNum (rNum (some p)).2).1, (rNum (rNum (rNum (some p)).2).2).1], (rNum (rNum (rNum (some p)).2).2).2) := rfl
theorem rRaw_all (bs : List Int) : rRaw (rLeft (some bs)) (some bs) = (bs, some []) := by
  show rRaw bs.length (some bs) = _
  rw [rRaw_yes (Nat.le_refl _)]
  simp
/-- Of a reader that erred there is no word. -/
theorem decW_bad {p : List Int} (h : (rNum (rNum (rNum (some p)).2).2).2 = none) : decW p = none := by
  have h3 : (numsR 3 (some p)).2 = none := h
  unfold decW
  simp only [h3]
  split
  · cases rdL (rRaw (rLeft none) none).1 with
    | none => rfl
    | some rs => simp [chkW, rRaw_none]
  · split
    · have : (numsR 4 none).2 = none := rfl
      simp [chkW, this]
    · simp [chkW]
/-- What the reference tells of a frame. -/
def RDec (l : List Int) (w w' : World) (e : Ending) : Prop := (frO l ≠ 0 ∧ NoW (frO l) e) ∨ (frO l = 0 ∧ ((decW (frP l) = none ∧ NoW 3 e) ∨ WdTold (frP l) w w' e))
theorem rdec_no {l : List Int} {w w' : World} {e : Ending} (hC : frC l = 0) (h : frO l ≠ 0 ∨ decW (frP l) = none) (he : NoW 3 e) : RDec l w w' e := by
  by_cases h0 : frO l = 0
  · rcases h with q | q
    · exact absurd h0 q
    · exact .inr ⟨h0, .inl ⟨q, he⟩⟩
  · refine .inl ⟨h0, ?_⟩
    have : frO l = 3 := by
      unfold frO at h0 ⊢
      rw [if_pos hC] at h0 ⊢
      split
      · rename_i q; rw [if_pos q] at h0; exact absurd rfl h0
      · rfl
    rw [this]
    exact he
theorem Rd.emptied {Q : Nat → Prop} {W : World} {b : Nat} {bs : List Int} (h : Rd Q W b (some bs)) : Rd Q (W.setCell ⟨b, 0, none⟩ (.slice none 0 0)) b (some []) := by
  obtain ⟨A, c, h0, h1, _⟩ := h.yes bs rfl
  refine ⟨h.nq, by simpa using h.lt, by simpa using h.f0, by simpa using h.f1, (fun e => by cases e), fun bs' e => ?_⟩
  injection e with e
  subst e
  exact ⟨none, 0, World.cell?_setCell_same _ _ _ h0, by rw [World.cell?_setCell_other _ _ _ _ (by simp)]; exact h1, by simp, by simp, ByL.nil _ _, (fun _ h => by cases h), isBy_nil, fun _ => ⟨rfl, rfl⟩⟩
theorem told_far {l : List Int} {p : List Int} {k o s : Int} {L : List Mr} {A : Option Addr} {c bw : Nat} {w W9 V : World} (hO : frO l = 0) (hP : frP l = p) (hD : decW p = some (wdOf k o s 0 0 0 0 L)) (h : W9.ownsRow bw 89 9 (.slice A L.length c) L.length (rowM L) ∧ (∀ m ∈ L, m.At (fun i => bw < i) W9)) (h64 : L.length ≤ 64) (hby : ∀ m ∈ L, isBy m.r.key ∧ isBy m.r.val) (hw : w.heap.size < bw) (k9 : But (fun i => i < bw) W9 V) :
    RDec l w V (.returned (.tuple #[wdV k o s 0 0 0 0 (.slice A L.length c), .int .i64 0])) := by
  refine .inr ⟨hO, .inr ⟨k, o, s, 0, 0, 0, 0, L, A, c, by rw [hP]; exact hD, rfl, row_mono (k9.row h.1 (fun i hi e => by have := (World.ownsRow.lt h.1 i hi).1; omega)) (by omega), h64, fun m hm => ?_, hby⟩⟩
  exact ((h.2 m hm).but k9 (fun i hi hq => by omega)).mono (fun i _ hq => by omega)
set_option maxRecDepth 100000 in
set_option maxHeartbeats 8000000 in
theorem rwd_dec_fr (A : Option Addr) (l : List Int) (c : Nat) (w : World) (hby : ByL w A l) (hb : isBy l) (hl : l.length ≤ 1000000) (hc : l.length ≤ c) (hcm : c ≤ maxLen) (hf : frC l ≠ 0) :
    Calls Tryd.prog 20 #[.slice A l.length c] w fun e w' => NoW (frC l) e ∧ Below w.heap.size w w' := by
  have hb0 : Below w.heap.size w (w.alloc zwR) := by (repeat' (first | (with_reducible exact Below.refl _ _) | (with_reducible assumption) | (with_reducible refine Below.trans ?_ (Below.mono (by with_reducible assumption) ?_)) | (with_reducible refine Below.alloc ?_ ?_ _) | (with_reducible refine Below.setCell ?_ ?_ _) | (with_reducible refine below_drewN ?_ _) | (with_reducible refine Below.drew ?_) | go_size))
  have HO := Lib.hid (rfr_decode A l c (w.alloc zwR) (hby.below hb0) hb hl hc hcm)
  have HB0 := Lib.hid hb0
  have HRB : Hid (XB (w.alloc zwR) w.heap.size zeroW) := Lib.hid (XB.new w _ _)
  have HNE := Lib.hid hf
  have t1 : (frC l != 0) = true := by simpa using hf
  clear hby hb hl hc hcm hb0 hf
  go_enter Tryd.func20, Tryd.ntmps20
  go_wp2_with fail
  refine HO.out.mono ?_; rintro e w1 ⟨hr, k1⟩
  have HB1 := Lib.hid (HB0.out.trans (k1.mono HB0.out.size))
  have RB1 := HRB.out.below k1
  have HRB1 := Lib.hid RB1
  rcases hr with ⟨_, rfl⟩ | ⟨h0, _⟩
  rotate_left
  · exact absurd h0 HNE.out
  have r0 := RB1.c 0 _ rfl
  have r1 := RB1.c 1 _ rfl
  have r2 := RB1.c 2 _ rfl
  have r3 := RB1.c 3 _ rfl
  have r4 := RB1.c 4 _ rfl
  have r5 := RB1.c 5 _ rfl
  have r6 := RB1.c 6 _ rfl
  have r7 := RB1.c 7 _ rfl
  have rf := RB1.fz
  have rl := RB1.lt
  clear k1 HO HB0 HRB RB1
  obtain ⟨x, hx⟩ : ∃ x, frC l = x := ⟨_, rfl⟩
  rw [hx] at t1
  have HX := Lib.hid hx
  rw [hx]
  clear hx
  go_wp2
  have RBf := ((((((((HRB1.out.set 0 (by simp [zeroW]) (.int .i64 0)).set 1 (by simp [zeroW]) (.int .i64 0)).set 2 (by simp [zeroW]) (.int .i64 0)).set 3 (by simp [zeroW]) (.int .i64 0)).set 4 (by simp [zeroW]) (.int .i64 0)).set 5 (by simp [zeroW]) (.int .i64 0)).set 6 (by simp [zeroW]) (.int .i64 0)).set 7 (by simp [zeroW]) (.slice none 0 0))
  have z0 := RBf.c 0 _ rfl
  have z1 := RBf.c 1 _ rfl
  have z2 := RBf.c 2 _ rfl
  have z3 := RBf.c 3 _ rfl
  have z4 := RBf.c 4 _ rfl
  have z5 := RBf.c 5 _ rfl
  have z6 := RBf.c 6 _ rfl
  have z7 := RBf.c 7 _ rfl
  have HF : Hid (Below w.heap.size w _) := Lib.hid ((((((((HB1.out.setCell (p := ⟨w.heap.size, 0, none⟩) (Nat.le_refl _) (.int .i64 0)).setCell (p := ⟨w.heap.size, 1, none⟩) (Nat.le_refl _) (.int .i64 0)).setCell (p := ⟨w.heap.size, 2, none⟩) (Nat.le_refl _) (.int .i64 0)).setCell (p := ⟨w.heap.size, 3, none⟩) (Nat.le_refl _) (.int .i64 0)).setCell (p := ⟨w.heap.size, 4, none⟩) (Nat.le_refl _) (.int .i64 0)).setCell (p := ⟨w.heap.size, 5, none⟩) (Nat.le_refl _) (.int .i64 0)).setCell (p := ⟨w.heap.size, 6, none⟩) (Nat.le_refl _) (.int .i64 0)).setCell (p := ⟨w.heap.size, 7, none⟩) (Nat.le_refl _) (.slice none 0 0))
  refine bodyPost_ret (v := .tuple #[wdV 0 0 0 0 0 0 0 (.slice none 0 0), .int .i64 x]) (by simp [results, Tryd.results20, go_sem, z0, z1, z2, z3, z4, z5, z6, z7]) rfl ⟨by rw [HX.out]; rfl, HF.out⟩
set_option maxRecDepth 100000 in
set_option maxHeartbeats 8000000 in
theorem rwd_dec_ok (A : Option Addr) (l : List Int) (c : Nat) (w : World) (hby : ByL w A l) (hb : isBy l) (hl : l.length ≤ 1000000) (hc : l.length ≤ c) (hcm : c ≤ maxLen) (hf : frC l = 0) (hp : (frP l).length ≤ 100000) :
    Calls Tryd.prog 20 #[.slice A l.length c] w fun e w' => RDec l w w' e ∧ Below w.heap.size w w' := by
  have hb0 : Below w.heap.size w (w.alloc zwR) := by (repeat' (first | (with_reducible exact Below.refl _ _) | (with_reducible assumption) | (with_reducible refine Below.trans ?_ (Below.mono (by with_reducible assumption) ?_)) | (with_reducible refine Below.alloc ?_ ?_ _) | (with_reducible refine Below.setCell ?_ ?_ _) | (with_reducible refine below_drewN ?_ _) | (with_reducible refine Below.drew ?_) | go_size))
  have HO := Lib.hid (rfr_decode A l c (w.alloc zwR) (hby.below hb0) hb hl hc hcm)
  have HB0 := Lib.hid hb0
  have HRB : Hid (XB (w.alloc zwR) w.heap.size zeroW) := Lib.hid (XB.new w _ _)
  have HF0 := Lib.hid hf
  have HPB := Lib.hid (And.intro (fr_inv hb hf).2.2.1 hp)
  have HOF : Hid (frO l = if 12 + dec4 l = l.length then 0 else 3) := Lib.hid (by unfold frO; rw [if_pos hf])
  obtain ⟨N, hN⟩ : ∃ N, 12 + dec4 l = N := ⟨_, rfl⟩
  have HNN := Lib.hid hN
  rw [hN] at HOF
  have hli : (l.length : Int) ≤ 1000000 := by omega
  clear hby hb hl hc hcm hb0 hf hp hN
  go_enter Tryd.func20, Tryd.ntmps20
  go_wp2_with fail
  refine HO.out.mono ?_; rintro e W0 ⟨hr, k1⟩
  rcases hr with ⟨h0, _⟩ | ⟨_, g0, cap0, rfl, hown⟩
  · exact absurd HF0.out h0
  rw [HNN.out]
  obtain ⟨p, hpp⟩ : ∃ p, frP l = p := ⟨_, rfl⟩
  rw [hpp] at hown HPB
  have HPP := Lib.hid hpp
  rw [hpp]
  have hb1 := HB0.out.trans (k1.mono HB0.out.size)
  have RB0 := HRB.out.below k1
  obtain ⟨A5, c5, e5, hy5, hb5, hc5⟩ := Own8.bytes hown
  obtain ⟨rfl, rfl⟩ : some (⟨g0, 0, none⟩ : Addr) = A5 ∧ cap0 = c5 := by injection e5 with q1 q2 q3; exact ⟨q1, q3⟩
  have hcm0 : cap0 ≤ maxLen := by
    rcases hown.2 with ⟨h, _⟩ | ⟨g', cap', cur, h, _, _, _, h2, _⟩
    · cases h
    · injection h with _ _ h3; omega
  have hg0 : g0 < W0.heap.size := (World.ownsRow.lt hown g0 rfl).2
  have kZ : Below W0.heap.size W0 (W0.alloc (.cells #[.slice (some ⟨g0, 0, none⟩) p.length cap0, .bool false] 118)) := (Below.refl _ _).alloc (Nat.le_refl _) _
  have HBZ := Lib.hid (hb1.trans (kZ.mono hb1.size))
  have HRBZ := Lib.hid (RB0.below kZ)
  have HR0 : Hid (Rd (fun i => i < W0.heap.size) (W0.alloc (.cells #[.slice (some ⟨g0, 0, none⟩) p.length cap0, .bool false] 118)) W0.heap.size (some p)) := Lib.hid
    ⟨by omega, by simp, by simp, by simp, (fun e => by cases e), fun bs e => by
      injection e with e
      subst e
      exact ⟨some ⟨g0, 0, none⟩, cap0, by simp, by simp, hc5, hcm0, hy5.below kZ, (fun ad had _ => by injection had with had; subst had; exact ⟨hg0, rfl⟩), HPB.out.1, fun e => by cases e⟩⟩
  have hw0 : w.heap.size < W0.heap.size := RB0.lt
  have hzz : W0.heap.size < (W0.alloc (.cells #[.slice (some ⟨g0, 0, none⟩) p.length cap0, .bool false] 118)).heap.size := by simp
  have hl0 : rLeft (some p) ≤ 100000 := HPB.out.2
  clear hown k1 hb1 RB0 hy5 kZ HO HB0 HRB e5 hb5 hc5 hcm0 hpp
  go_wp2_with fail
  generalize W0.alloc (.cells #[.slice (some ⟨g0, 0, none⟩) p.length cap0, .bool false] 118) = Z at *
  obtain ⟨br, hbr⟩ : ∃ br, W0.heap.size = br := ⟨_, rfl⟩
  rw [hbr] at HR0 hw0 hzz hg0 ⊢
  clear hbr
  refine (rr_num br (some p) Z HR0.out (by omega)).mono ?_; rintro e W1 ⟨rfl, p1⟩
  have hl1 : rLeft (rNum ((some p))).2 ≤ 100000 := Nat.le_trans (rNum_left _) hl0
  have HRB1 := Lib.hid (HRBZ.out.only p1.only (by omega))
  have HB1 := Lib.hid (HBZ.out.trans (p1.only.below (by omega) HBZ.out.size))
  have HR1 := Lib.hid p1.rd
  have z1 := p1.only.size
  clear p1 HR0 HRBZ HBZ
  go_wp2_with fail
  refine (rr_num br (rNum (some p)).2 W1 HR1.out (by omega)).mono ?_; rintro e W2 ⟨rfl, p2⟩
  have hl2 : rLeft (rNum ((rNum (some p)).2)).2 ≤ 100000 := Nat.le_trans (rNum_left _) hl1
  have HRB2 := Lib.hid (HRB1.out.only p2.only (by omega))
  have HB2 := Lib.hid (HB1.out.trans (p2.only.below (by omega) HB1.out.size))
  have HR2 := Lib.hid p2.rd
  have z2 := p2.only.size
  clear p2 HR1 HRB1 HB1
  go_wp2_with fail
  refine (rr_num br (rNum (rNum (some p)).2).2 W2 HR2.out (by omega)).mono ?_; rintro e W3 ⟨rfl, p3⟩
  have hl3 : rLeft (rNum ((rNum (rNum (some p)).2).2)).2 ≤ 100000 := Nat.le_trans (rNum_left _) hl2
  have HRB3 := Lib.hid (HRB2.out.only p3.only (by omega))
  have HB3 := Lib.hid (HB2.out.trans (p3.only.below (by omega) HB2.out.size))
  have HR3 := Lib.hid p3.rd
  have z3 := p3.only.size
  clear p3 HR2 HRB2 HB2
  have HBAD : Hid ((rNum (rNum (rNum (some p)).2).2).2 = none → decW p = none) := Lib.hid decW_bad
  have HPL : Hid (((rNum (some p)).1 : Int) ≠ 1 → ((rNum (some p)).1 : Int) ≠ 3 → decW p = chkW ⟨((rNum (some p)).1 : Nat), ((rNum (rNum (some p)).2).1 : Nat), ((rNum (rNum (rNum (some p)).2).2).1 : Nat), 0, 0, 0, 0, []⟩ (rNum (rNum (rNum (some p)).2).2).2) := Lib.hid (fun h1 h3 => decW_plain h1 h3)
  have HBT : Hid (((rNum (some p)).1 : Int) = 3 → decW p = chkW ⟨((rNum (some p)).1 : Nat), ((rNum (rNum (some p)).2).1 : Nat), ((rNum (rNum (rNum (some p)).2).2).1 : Nat), ((rNum (rNum (rNum (rNum (some p)).2).2).2).1 : Nat), ((rNum (rNum (rNum (rNum (rNum (some p)).2).2).2).2).1 : Nat), ((rNum (rNum (rNum (rNum (rNum (rNum (some p)).2).2).2).2).2).1 : Nat), ((rNum (rNum (rNum (rNum (rNum (rNum (rNum (some p)).2).2).2).2).2).2).1 : Nat), []⟩ (rNum (rNum (rNum (rNum (rNum (rNum (rNum (some p)).2).2).2).2).2).2).2) := Lib.hid (fun h3 => decW_beat h3)
  have HRC : Hid (((rNum (some p)).1 : Int) = 1 → ∀ bs, (rNum (rNum (rNum (some p)).2).2).2 = some bs → decW p = match rdL bs with | none => none | some rs => chkW ⟨((rNum (some p)).1 : Nat), ((rNum (rNum (some p)).2).1 : Nat), ((rNum (rNum (rNum (some p)).2).2).1 : Nat), 0, 0, 0, 0, rs⟩ (some [])) := Lib.hid (fun h1 bs hbs => by
    have h := decW_recs h1
    rw [show (numsR 3 (some p)).2 = some bs from hbs, rRaw_all] at h
    exact h)
  generalize ((rNum (some p)).1 : Nat) = k at *
  generalize ((rNum (rNum (some p)).2).1 : Nat) = o at *
  generalize ((rNum (rNum (rNum (some p)).2).2).1 : Nat) = s at *
  generalize (rNum (rNum (rNum (some p)).2).2).2 = st at *
  have kW : Below W3.heap.size W3 (W3.alloc (.cells (wdC k o s 0 0 0 0 (.slice none 0 0)) 34)) := (Below.refl _ _).alloc (Nat.le_refl _) _
  have HX4 : Hid (XB (W3.alloc (.cells (wdC k o s 0 0 0 0 (.slice none 0 0)) 34)) W3.heap.size [.int .i64 k, .int .i64 o, .int .i64 s, .int .i64 0, .int .i64 0, .int .i64 0, .int .i64 0, .slice none 0 0]) := Lib.hid (XB.new W3 _ _)
  have HR4 := Lib.hid (HR3.out.below kW)
  have HRB4 := Lib.hid (HRB3.out.below kW)
  have HB4 := Lib.hid (HB3.out.trans (kW.mono HB3.out.size))
  have hbw : br < W3.heap.size := by omega
  have hl4 := hl3
  clear kW HR3 HRB3 HB3 hl1 hl2
  go_upto_region 6 with fail
  generalize W3.alloc (.cells (wdC k o s 0 0 0 0 (.slice none 0 0)) 34) = W4 at *
  obtain ⟨bw, hbwe⟩ : ∃ bw, W3.heap.size = bw := ⟨_, rfl⟩
  rw [hbwe] at HX4 hbw ⊢
  have hww : w.heap.size < bw := by omega
  have hwb : w.heap.size ≠ bw := by omega
  have hwr : w.heap.size ≠ br := by omega
  clear hbwe z1 z2 z3
  have RB4 := HRB4.out
  have r0 := RB4.c 0 _ rfl
  have r1 := RB4.c 1 _ rfl
  have r2 := RB4.c 2 _ rfl
  have r3 := RB4.c 3 _ rfl
  have r4 := RB4.c 4 _ rfl
  have r5 := RB4.c 5 _ rfl
  have r6 := RB4.c 6 _ rfl
  have r7 := RB4.c 7 _ rfl
  have rf := RB4.fz
  have rl := RB4.lt
  clear RB4
  cases st with
  | none =>
    obtain ⟨d0, d1⟩ := HR4.out.no rfl
    have dl := HR4.out.lt
    have HD := Lib.hid (HBAD.out rfl)
    go_wp2
    have RBf := ((((((((HRB4.out.set 0 (by simp [zeroW]) (.int .i64 0)).set 1 (by simp [zeroW]) (.int .i64 0)).set 2 (by simp [zeroW]) (.int .i64 0)).set 3 (by simp [zeroW]) (.int .i64 0)).set 4 (by simp [zeroW]) (.int .i64 0)).set 5 (by simp [zeroW]) (.int .i64 0)).set 6 (by simp [zeroW]) (.int .i64 0)).set 7 (by simp [zeroW]) (.slice none 0 0))
    have z0 := RBf.c 0 _ rfl
    have z1 := RBf.c 1 _ rfl
    have z2 := RBf.c 2 _ rfl
    have z3 := RBf.c 3 _ rfl
    have z4 := RBf.c 4 _ rfl
    have z5 := RBf.c 5 _ rfl
    have z6 := RBf.c 6 _ rfl
    have z7 := RBf.c 7 _ rfl
    have HF : Hid (Below w.heap.size w _) := Lib.hid ((((((((HB4.out.setCell (p := ⟨w.heap.size, 0, none⟩) (Nat.le_refl _) (.int .i64 0)).setCell (p := ⟨w.heap.size, 1, none⟩) (Nat.le_refl _) (.int .i64 0)).setCell (p := ⟨w.heap.size, 2, none⟩) (Nat.le_refl _) (.int .i64 0)).setCell (p := ⟨w.heap.size, 3, none⟩) (Nat.le_refl _) (.int .i64 0)).setCell (p := ⟨w.heap.size, 4, none⟩) (Nat.le_refl _) (.int .i64 0)).setCell (p := ⟨w.heap.size, 5, none⟩) (Nat.le_refl _) (.int .i64 0)).setCell (p := ⟨w.heap.size, 6, none⟩) (Nat.le_refl _) (.int .i64 0)).setCell (p := ⟨w.heap.size, 7, none⟩) (Nat.le_refl _) (.slice none 0 0))
    refine bodyPost_ret (v := .tuple #[wdV 0 0 0 0 0 0 0 (.slice none 0 0), .int .i64 3]) (by simp [results, Tryd.results20, go_sem, z0, z1, z2, z3, z4, z5, z6, z7]) rfl ⟨rdec_no HF0.out (.inr (by rw [HPP.out]; exact HD.out)) rfl, HF.out⟩
  | some bs =>
  obtain ⟨Ab, cb, d0, d1, hcb, hcbm, hyb, hqb, hbyb, hnb⟩ := HR4.out.yes bs rfl
  have dl := HR4.out.lt
  by_cases hNl : N = l.length
  rotate_left
  · have t5 : ((N : Int) != (l.length : Int)) = true := by rw [bne_iff_ne]; omega
    have t5' : (N != l.length) = true := by rw [bne_iff_ne]; exact hNl
    have HD : Hid (frO l ≠ 0) := Lib.hid (by rw [HOF.out, if_neg hNl]; decide)
    clear hNl
    go_wp2
    have RBf := ((((((((HRB4.out.set 0 (by simp [zeroW]) (.int .i64 0)).set 1 (by simp [zeroW]) (.int .i64 0)).set 2 (by simp [zeroW]) (.int .i64 0)).set 3 (by simp [zeroW]) (.int .i64 0)).set 4 (by simp [zeroW]) (.int .i64 0)).set 5 (by simp [zeroW]) (.int .i64 0)).set 6 (by simp [zeroW]) (.int .i64 0)).set 7 (by simp [zeroW]) (.slice none 0 0))
    have z0 := RBf.c 0 _ rfl
    have z1 := RBf.c 1 _ rfl
    have z2 := RBf.c 2 _ rfl
    have z3 := RBf.c 3 _ rfl
    have z4 := RBf.c 4 _ rfl
    have z5 := RBf.c 5 _ rfl
    have z6 := RBf.c 6 _ rfl
    have z7 := RBf.c 7 _ rfl
    have HF : Hid (Below w.heap.size w _) := Lib.hid ((((((((HB4.out.setCell (p := ⟨w.heap.size, 0, none⟩) (Nat.le_refl _) (.int .i64 0)).setCell (p := ⟨w.heap.size, 1, none⟩) (Nat.le_refl _) (.int .i64 0)).setCell (p := ⟨w.heap.size, 2, none⟩) (Nat.le_refl _) (.int .i64 0)).setCell (p := ⟨w.heap.size, 3, none⟩) (Nat.le_refl _) (.int .i64 0)).setCell (p := ⟨w.heap.size, 4, none⟩) (Nat.le_refl _) (.int .i64 0)).setCell (p := ⟨w.heap.size, 5, none⟩) (Nat.le_refl _) (.int .i64 0)).setCell (p := ⟨w.heap.size, 6, none⟩) (Nat.le_refl _) (.int .i64 0)).setCell (p := ⟨w.heap.size, 7, none⟩) (Nat.le_refl _) (.slice none 0 0))
    refine bodyPost_ret (v := .tuple #[wdV 0 0 0 0 0 0 0 (.slice none 0 0), .int .i64 3]) (by simp [results, Tryd.results20, go_sem, z0, z1, z2, z3, z4, z5, z6, z7]) rfl ⟨rdec_no HF0.out (.inl HD.out) rfl, HF.out⟩
  have HO0 : Hid (frO l = 0) := Lib.hid (by rw [HOF.out, if_pos hNl])
  have t5 : ((N : Int) != (l.length : Int)) = false := by rw [hNl]; simp
  have t5' : (N != l.length) = false := by rw [hNl]; simp
  clear hNl
  by_cases hk1 : (k : Int) = 1
  · have q1 : ((k : Int) == 1) = true := by simpa using hk1
    have HDP := Lib.hid (HRC.out hk1 bs rfl)
    have HRL := Lib.hid (ref_rdl Ab bs cb W4 hyb hbyb hnb hl4 hcb hcbm (fun A l c w q1 q2 q3 q4 q5 q6 => ref_dec A l c w q1 q2 q3 q4 q5 q6 (fun o s key ml ct vo A n c gone tt w => ref_is o s key ml ct vo A n c gone tt w)))
    have HBSY := Lib.hid hbyb
    have x0 := HX4.out.c 0 _ rfl
    have xl0 := HX4.out.lt
    clear hk1 HPL HBT HRC HBAD hyb hqb hbyb hnb hcb hcbm
    go_wp2_with fail
    refine HRL.out.mono ?_; rintro e W5 ⟨hres, k5⟩
    have HRB5 := Lib.hid (HRB4.out.below k5)
    have HB5 := Lib.hid (HB4.out.trans (k5.mono HB4.out.size))
    have HX5 := Lib.hid (HX4.out.below k5)
    have HR5 := Lib.hid (HR4.out.below k5)
    have hz45 : W4.heap.size ≤ W5.heap.size := k5.size
    have hbwl : bw < W4.heap.size := HX4.out.lt
    clear x0 xl0 HRB4 HB4 HX4 HR4 k5 HRL d0 d1 dl r0 r1 r2 r3 r4 r5 r6 r7 rf rl
    obtain ⟨A6, c6, d0, d1, _⟩ := HR5.out.yes bs rfl
    have df := HR5.out.f0
    have dl := HR5.out.lt
    have x7 := HX5.out.c 7 _ rfl
    have xf7 := HX5.out.fz 7
    have xl := HX5.out.lt
    rcases hres with ⟨hno, rfl⟩ | ⟨L, v, hyes, rfl, hown, hl64, hats⟩
    · have HD : Hid (decW p = none) := Lib.hid (by rw [HDP.out, hno])
      clear hno
      go_upto_region 15 with fail
      obtain ⟨W7, hWW⟩ : ∃ W7, (W5.setCell ⟨bw, 7, none⟩ (.slice none 0 0)).setCell ⟨br, 0, none⟩ (.slice none 0 0) = W7 := ⟨_, rfl⟩
      have HX7 : Hid (XB W7 bw [.int .i64 (k : Int), .int .i64 (o : Int), .int .i64 (s : Int), .int .i64 0, .int .i64 0, .int .i64 0, .int .i64 0, .slice none 0 0]) := Lib.hid (by rw [← hWW]; exact (HX5.out.set 7 (by simp) _).other (by show br ≠ bw; omega) _)
      have O7a : Only bw W5 (W5.setCell ⟨bw, 7, none⟩ (.slice none 0 0)) := (Only.refl _ _).setB _
      have HR7 : Hid (Rd (fun i => i < br) W7 br (some [])) := Lib.hid (by rw [← hWW]; exact (HR5.out.but (S := fun i => i = bw) (But.of_only O7a rfl) (by omega) (fun i e => by subst e; omega)).emptied)
      have B7 : But (fun i => i = bw ∨ i = br) W5 W7 := by rw [← hWW]; exact ((But.refl _ _).setCell (fun _ => .inl rfl) _).setCell (fun _ => .inr rfl) _
      have HRB7 := Lib.hid (HRB5.out.but B7 (by omega))
      have HB7 := Lib.hid (HB5.out.trans (B7.below (by rintro i (rfl | rfl) <;> omega) HB5.out.size))
      have HBT7 := Lib.hid B7
      rw [hWW]
      clear hWW O7a B7 d0 d1 df dl x7 xf7 xl HX5 HR5 HRB5 HB5
      have r0 := HRB7.out.c 0 _ rfl
      have r1 := HRB7.out.c 1 _ rfl
      have r2 := HRB7.out.c 2 _ rfl
      have r3 := HRB7.out.c 3 _ rfl
      have r4 := HRB7.out.c 4 _ rfl
      have r5 := HRB7.out.c 5 _ rfl
      have r6 := HRB7.out.c 6 _ rfl
      have r7 := HRB7.out.c 7 _ rfl
      have rf := HRB7.out.fz
      have rl := HRB7.out.lt
      go_wp2
      have RBf := ((((((((HRB7.out.set 0 (by simp [zeroW]) (.int .i64 0)).set 1 (by simp [zeroW]) (.int .i64 0)).set 2 (by simp [zeroW]) (.int .i64 0)).set 3 (by simp [zeroW]) (.int .i64 0)).set 4 (by simp [zeroW]) (.int .i64 0)).set 5 (by simp [zeroW]) (.int .i64 0)).set 6 (by simp [zeroW]) (.int .i64 0)).set 7 (by simp [zeroW]) (.slice none 0 0))
      have z0 := RBf.c 0 _ rfl
      have z1 := RBf.c 1 _ rfl
      have z2 := RBf.c 2 _ rfl
      have z3 := RBf.c 3 _ rfl
      have z4 := RBf.c 4 _ rfl
      have z5 := RBf.c 5 _ rfl
      have z6 := RBf.c 6 _ rfl
      have z7 := RBf.c 7 _ rfl
      have HF : Hid (Below w.heap.size w _) := Lib.hid ((((((((HB7.out.setCell (p := ⟨w.heap.size, 0, none⟩) (Nat.le_refl _) (.int .i64 0)).setCell (p := ⟨w.heap.size, 1, none⟩) (Nat.le_refl _) (.int .i64 0)).setCell (p := ⟨w.heap.size, 2, none⟩) (Nat.le_refl _) (.int .i64 0)).setCell (p := ⟨w.heap.size, 3, none⟩) (Nat.le_refl _) (.int .i64 0)).setCell (p := ⟨w.heap.size, 4, none⟩) (Nat.le_refl _) (.int .i64 0)).setCell (p := ⟨w.heap.size, 5, none⟩) (Nat.le_refl _) (.int .i64 0)).setCell (p := ⟨w.heap.size, 6, none⟩) (Nat.le_refl _) (.int .i64 0)).setCell (p := ⟨w.heap.size, 7, none⟩) (Nat.le_refl _) (.slice none 0 0))
      refine bodyPost_ret (v := .tuple #[wdV 0 0 0 0 0 0 0 (.slice none 0 0), .int .i64 3]) (by simp [results, Tryd.results20, go_sem, z0, z1, z2, z3, z4, z5, z6, z7]) rfl ⟨rdec_no HF0.out (.inr (by rw [HPP.out]; exact HD.out)) rfl, HF.out⟩
    · obtain ⟨A7, c7, rfl⟩ : ∃ A7 c7, v = .slice A7 L.length c7 := by
        rcases hown.2 with ⟨e, h0⟩ | ⟨g, cap, cur, e, _⟩
        · exact ⟨none, 0, by rw [e, h0]⟩
        · exact ⟨_, _, e⟩
      have HLB : Hid (∀ m ∈ L, isBy m.r.key ∧ isBy m.r.val) := Lib.hid (fun m hm => rdL_by HBSY.out hyes m.r (List.mem_map_of_mem hm))
      have HDC : Hid (decW p = chkW ⟨(k : Int), (o : Int), (s : Int), 0, 0, 0, 0, L.map Mr.r⟩ (some [])) := Lib.hid (by rw [HDP.out, hyes])
      have HOWN := Lib.hid hown
      have HATS := Lib.hid hats
      have HL64 := Lib.hid hl64
      clear hown hats hl64 hyes
      go_upto_region 15 with fail
      obtain ⟨W7, hWW⟩ : ∃ W7, (W5.setCell ⟨bw, 7, none⟩ (.slice A7 L.length c7)).setCell ⟨br, 0, none⟩ (.slice none 0 0) = W7 := ⟨_, rfl⟩
      have HX7 : Hid (XB W7 bw [.int .i64 (k : Int), .int .i64 (o : Int), .int .i64 (s : Int), .int .i64 0, .int .i64 0, .int .i64 0, .int .i64 0, .slice A7 L.length c7]) := Lib.hid (by rw [← hWW]; exact (HX5.out.set 7 (by simp) _).other (by show br ≠ bw; omega) _)
      have O7a : Only bw W5 (W5.setCell ⟨bw, 7, none⟩ (.slice A7 L.length c7)) := (Only.refl _ _).setB _
      have HR7 : Hid (Rd (fun i => i < br) W7 br (some [])) := Lib.hid (by rw [← hWW]; exact (HR5.out.but (S := fun i => i = bw) (But.of_only O7a rfl) (by omega) (fun i e => by subst e; omega)).emptied)
      have B7 : But (fun i => i = bw ∨ i = br) W5 W7 := by rw [← hWW]; exact ((But.refl _ _).setCell (fun _ => .inl rfl) _).setCell (fun _ => .inr rfl) _
      have HRB7 := Lib.hid (HRB5.out.but B7 (by omega))
      have HB7 := Lib.hid (HB5.out.trans (B7.below (by rintro i (rfl | rfl) <;> omega) HB5.out.size))
      have HBT7 := Lib.hid B7
      rw [hWW]
      clear hWW O7a B7 d0 d1 df dl x7 xf7 xl HX5 HR5 HRB5 HB5
      have HOWK : Hid (∀ W, Below W7.heap.size W7 W → W.ownsRow bw 89 9 (.slice A7 L.length c7) L.length (rowM L) ∧ (∀ m ∈ L, m.At (fun i => bw < i) W)) := Lib.hid (fun W k => by
        have hne : ∀ i, (Value.slice A7 L.length c7).ownBlock = some i → ¬ (i = bw ∨ i = br) := fun i hi => by
          have := (World.ownsRow.lt HOWN.out i hi).1
          omega
        refine ⟨row_mono ((But.of_below (S := fun _ => False) k).row (HBT7.out.row HOWN.out hne) (fun _ _ hf => hf)) (by omega), fun m hm => ?_⟩
        exact ((((HATS.out m hm).mono (Q' := fun i => bw < i) (fun i _ hq => by omega)).but HBT7.out (fun i hi hq => by omega)).below k))
      have HISK : Hid (Calls Tryd.prog 53 #[wdV (k : Int) (o : Int) (s : Int) 0 0 0 0 (.slice A7 L.length c7)] W7 fun e w' => e = .returned (.bool (okW (wdOf (k : Int) (o : Int) (s : Int) 0 0 0 0 L))) ∧ Below W7.heap.size W7 w') := Lib.hid (ref17_is (k : Int) (o : Int) (s : Int) 0 0 0 0 A7 c7 L W7 (RowAt.of (HOWK.out W7 (Below.refl _ _)).1) (fun m hm => (HLB.out m hm).1) (by have := HL64.out; omega))
      have r0 := HRB7.out.c 0 _ rfl
      have r1 := HRB7.out.c 1 _ rfl
      have r2 := HRB7.out.c 2 _ rfl
      have r3 := HRB7.out.c 3 _ rfl
      have r4 := HRB7.out.c 4 _ rfl
      have r5 := HRB7.out.c 5 _ rfl
      have r6 := HRB7.out.c 6 _ rfl
      have r7 := HRB7.out.c 7 _ rfl
      have rf := HRB7.out.fz
      have rl := HRB7.out.lt
      have HWH := Lib.hid (rr_whole br (some []) W7 HR7.out)
      have x0 := HX7.out.c 0 _ rfl
      have x1 := HX7.out.c 1 _ rfl
      have x2 := HX7.out.c 2 _ rfl
      have x3 := HX7.out.c 3 _ rfl
      have x4 := HX7.out.c 4 _ rfl
      have x5 := HX7.out.c 5 _ rfl
      have x6 := HX7.out.c 6 _ rfl
      have x7 := HX7.out.c 7 _ rfl
      have xl := HX7.out.lt
      have hwh : (some [] : RSt) = some [] := rfl
      have t0 : decide ((some [] : RSt) = some []) = true := by simp
      rw [t0] at HWH
      have HCK : Hid (∀ bb, okW (wdOf (k : Int) (o : Int) (s : Int) 0 0 0 0 L) = bb → decW p = if bb then some (wdOf (k : Int) (o : Int) (s : Int) 0 0 0 0 L) else none) := Lib.hid (fun bb hbb => by
        rw [HDC.out]
        unfold chkW
        have hbb' : okW ⟨(k : Int), (o : Int), (s : Int), 0, 0, 0, 0, L.map Mr.r⟩ = bb := hbb
        cases bb
        · rw [if_neg (fun h => by have q := h.2; rw [show okW _ = false from hbb'] at q; cases q)]; rfl
        · rw [if_pos ⟨hwh, hbb'⟩]; rfl)
      clear t0 hwh
      have HIS := HISK
      cases hok : okW (wdOf (k : Int) (o : Int) (s : Int) 0 0 0 0 L)
      · have HD : Hid (decW p = none) := Lib.hid (HCK.out false hok)
        rw [hok] at HIS
        clear hok HCK
        go_wp2_with (first | (go_at_call 68; refine HWH.out.mono ?_; rintro e W7 ⟨rfl, rfl⟩) | (go_at_call 53; refine HIS.out.mono ?_; rintro e W9 ⟨rfl, k9⟩; have RB9 := HRB7.out.below k9; have HRB9 := Lib.hid RB9; have HB9 := Lib.hid (HB7.out.trans (k9.mono HB7.out.size)); clear k9 r0 r1 r2 r3 r4 r5 r6 r7 rf rl x0 x1 x2 x3 x4 x5 x6 x7 xl; have r0 := RB9.c 0 _ rfl; have r1 := RB9.c 1 _ rfl; have r2 := RB9.c 2 _ rfl; have r3 := RB9.c 3 _ rfl; have r4 := RB9.c 4 _ rfl; have r5 := RB9.c 5 _ rfl; have r6 := RB9.c 6 _ rfl; have r7 := RB9.c 7 _ rfl; have rf := RB9.fz; have rl := RB9.lt; clear RB9))
        have RBf := ((((((((HRB9.out.set 0 (by simp [zeroW]) (.int .i64 0)).set 1 (by simp [zeroW]) (.int .i64 0)).set 2 (by simp [zeroW]) (.int .i64 0)).set 3 (by simp [zeroW]) (.int .i64 0)).set 4 (by simp [zeroW]) (.int .i64 0)).set 5 (by simp [zeroW]) (.int .i64 0)).set 6 (by simp [zeroW]) (.int .i64 0)).set 7 (by simp [zeroW]) (.slice none 0 0))
        have z0 := RBf.c 0 _ rfl
        have z1 := RBf.c 1 _ rfl
        have z2 := RBf.c 2 _ rfl
        have z3 := RBf.c 3 _ rfl
        have z4 := RBf.c 4 _ rfl
        have z5 := RBf.c 5 _ rfl
        have z6 := RBf.c 6 _ rfl
        have z7 := RBf.c 7 _ rfl
        have HF : Hid (Below w.heap.size w _) := Lib.hid ((((((((HB9.out.setCell (p := ⟨w.heap.size, 0, none⟩) (Nat.le_refl _) (.int .i64 0)).setCell (p := ⟨w.heap.size, 1, none⟩) (Nat.le_refl _) (.int .i64 0)).setCell (p := ⟨w.heap.size, 2, none⟩) (Nat.le_refl _) (.int .i64 0)).setCell (p := ⟨w.heap.size, 3, none⟩) (Nat.le_refl _) (.int .i64 0)).setCell (p := ⟨w.heap.size, 4, none⟩) (Nat.le_refl _) (.int .i64 0)).setCell (p := ⟨w.heap.size, 5, none⟩) (Nat.le_refl _) (.int .i64 0)).setCell (p := ⟨w.heap.size, 6, none⟩) (Nat.le_refl _) (.int .i64 0)).setCell (p := ⟨w.heap.size, 7, none⟩) (Nat.le_refl _) (.slice none 0 0))
        refine bodyPost_ret (v := .tuple #[wdV 0 0 0 0 0 0 0 (.slice none 0 0), .int .i64 3]) (by simp [results, Tryd.results20, go_sem, z0, z1, z2, z3, z4, z5, z6, z7]) rfl ⟨rdec_no HF0.out (.inr (by rw [HPP.out]; exact HD.out)) rfl, HF.out⟩
      · have HD : Hid (decW p = some (wdOf (k : Int) (o : Int) (s : Int) 0 0 0 0 L)) := Lib.hid (HCK.out true hok)
        rw [hok] at HIS
        clear hok HCK
        go_wp2_with (first | (go_at_call 68; refine HWH.out.mono ?_; rintro e W7 ⟨rfl, rfl⟩) | (go_at_call 53; refine HIS.out.mono ?_; rintro e W9 ⟨rfl, k9⟩; have RB9 := HRB7.out.below k9; have HRB9 := Lib.hid RB9; have HB9 := Lib.hid (HB7.out.trans (k9.mono HB7.out.size)); have X9 := HX7.out.below k9; have HOW9 := HOWK.out _ k9; clear k9 r0 r1 r2 r3 r4 r5 r6 r7 rf rl x0 x1 x2 x3 x4 x5 x6 x7 xl; have r0 := RB9.c 0 _ rfl; have r1 := RB9.c 1 _ rfl; have r2 := RB9.c 2 _ rfl; have r3 := RB9.c 3 _ rfl; have r4 := RB9.c 4 _ rfl; have r5 := RB9.c 5 _ rfl; have r6 := RB9.c 6 _ rfl; have r7 := RB9.c 7 _ rfl; have rf := RB9.fz; have rl := RB9.lt; have x0 := X9.c 0 _ rfl; have x1 := X9.c 1 _ rfl; have x2 := X9.c 2 _ rfl; have x3 := X9.c 3 _ rfl; have x4 := X9.c 4 _ rfl; have x5 := X9.c 5 _ rfl; have x6 := X9.c 6 _ rfl; have x7 := X9.c 7 _ rfl; have xl := X9.lt; clear RB9 X9))
        have RBf := ((((((((HRB9.out.set 0 (by simp [zeroW]) (.int .i64 (k : Int))).set 1 (by simp [zeroW]) (.int .i64 (o : Int))).set 2 (by simp [zeroW]) (.int .i64 (s : Int))).set 3 (by simp [zeroW]) (.int .i64 0)).set 4 (by simp [zeroW]) (.int .i64 0)).set 5 (by simp [zeroW]) (.int .i64 0)).set 6 (by simp [zeroW]) (.int .i64 0)).set 7 (by simp [zeroW]) (.slice A7 L.length c7))
        have z0 := RBf.c 0 _ rfl
        have z1 := RBf.c 1 _ rfl
        have z2 := RBf.c 2 _ rfl
        have z3 := RBf.c 3 _ rfl
        have z4 := RBf.c 4 _ rfl
        have z5 := RBf.c 5 _ rfl
        have z6 := RBf.c 6 _ rfl
        have z7 := RBf.c 7 _ rfl
        have HF : Hid (Below w.heap.size w _) := Lib.hid ((((((((HB9.out.setCell (p := ⟨w.heap.size, 0, none⟩) (Nat.le_refl _) (.int .i64 (k : Int))).setCell (p := ⟨w.heap.size, 1, none⟩) (Nat.le_refl _) (.int .i64 (o : Int))).setCell (p := ⟨w.heap.size, 2, none⟩) (Nat.le_refl _) (.int .i64 (s : Int))).setCell (p := ⟨w.heap.size, 3, none⟩) (Nat.le_refl _) (.int .i64 0)).setCell (p := ⟨w.heap.size, 4, none⟩) (Nat.le_refl _) (.int .i64 0)).setCell (p := ⟨w.heap.size, 5, none⟩) (Nat.le_refl _) (.int .i64 0)).setCell (p := ⟨w.heap.size, 6, none⟩) (Nat.le_refl _) (.int .i64 0)).setCell (p := ⟨w.heap.size, 7, none⟩) (Nat.le_refl _) (.slice A7 L.length c7))
        refine bodyPost_ret (v := .tuple #[wdV (k : Int) (o : Int) (s : Int) 0 0 0 0 (.slice A7 L.length c7), .int .i64 0]) (by simp [results, Tryd.results20, go_sem, z0, z1, z2, z3, z4, z5, z6, z7]) rfl ⟨told_far HO0.out HPP.out HD.out HOW9 HL64.out HLB.out hww ((by (repeat' (first | (with_reducible exact But.refl _ _) | (with_reducible assumption) | (with_reducible refine But.setCell ?_ (fun _ => ?_) _) | (with_reducible refine But.alloc ?_ _) | (with_reducible refine But.drewN ?_ _) | (with_reducible refine But.drew ?_) | (show _ < _; simp only [World.size_alloc, World.size_setCell, World.heap_drewN]; omega) | go_size))) : But (fun i => i < bw) W9 _), HF.out⟩

  have q1 : ((k : Int) == 1) = false := by simpa using hk1
  by_cases hk3 : (k : Int) = 3
  · have q3 : ((k : Int) == 3) = true := by simpa using hk3
    have HDP := Lib.hid (HBT.out hk3)
    clear hk1 hk3 HPL HBT HRC HBAD hyb hqb hbyb hnb hcb hcbm r0 r1 r2 r3 r4 r5 r6 r7 rf rl
    have x0 := HX4.out.c 0 _ rfl
    have xl0 := HX4.out.lt
    go_wp2_with fail
    refine (rr_num br (some bs) W4 HR4.out (by omega)).mono ?_; rintro e W5 ⟨rfl, p5⟩
    have hl5 : rLeft (rNum (some bs)).2 ≤ 100000 := Nat.le_trans (rNum_left _) hl4
    have HRB5 := Lib.hid (HRB4.out.only p5.only hwr)
    have HB5 := Lib.hid (HB4.out.trans (p5.only.below (by omega) HB4.out.size))
    have HX5 := Lib.hid (HX4.out.only p5.only (by omega))
    have HR5 := Lib.hid p5.rd
    clear p5 HR4 HRB4 HB4 HX4
    clear x0 xl0
    go_wp2_with fail
    refine (rr_num br ((rNum (some bs)).2) W5 HR5.out (by omega)).mono ?_; rintro e W6 ⟨rfl, p6⟩
    have hl6 : rLeft (rNum ((rNum (some bs)).2)).2 ≤ 100000 := Nat.le_trans (rNum_left _) hl5
    have HRB6 := Lib.hid (HRB5.out.only p6.only hwr)
    have HB6 := Lib.hid (HB5.out.trans (p6.only.below (by omega) HB5.out.size))
    have HX6 := Lib.hid (HX5.out.only p6.only (by omega))
    have HR6 := Lib.hid p6.rd
    clear p6 HR5 HRB5 HB5 HX5
    generalize ((rNum (some bs)).1 : Nat) = n0 at *
    generalize ((rNum (rNum (some bs)).2).1 : Nat) = n1 at *
    generalize (rNum (rNum (some bs)).2).2 = sa at *
    have x3 := HX6.out.c 3 _ rfl
    have x4 := HX6.out.c 4 _ rfl
    have xf3 := HX6.out.fz 3
    have xf4 := HX6.out.fz 4
    have xl := HX6.out.lt
    go_upto_region 14 with fail
    obtain ⟨W7, hWW⟩ : ∃ W7, (W6.setCell ⟨bw, 3, none⟩ (.int .i64 (n0 : Int))).setCell ⟨bw, 4, none⟩ (.int .i64 (n1 : Int)) = W7 := ⟨_, rfl⟩
    have HX7 : Hid (XB W7 bw [.int .i64 (k : Int), .int .i64 (o : Int), .int .i64 (s : Int), .int .i64 (n0 : Int), .int .i64 (n1 : Int), .int .i64 0, .int .i64 0, .slice none 0 0]) := Lib.hid (by rw [← hWW]; exact (HX6.out.set 3 (by simp) _).set 4 (by simp) _)
    have HOO : Hid (Only bw W6 W7) := Lib.hid (by rw [← hWW]; (repeat' (first | (with_reducible exact Only.refl _ _) | (with_reducible assumption) | (with_reducible refine Only.alloc ?_ _) | (with_reducible refine Only.setB ?_ _) | (refine Only.setCell ?_ (Or.inr ?_) _) | (with_reducible refine Only.drewN ?_ _) | (with_reducible refine Only.drew ?_) | (with_reducible refine Only.trans ?_ (by with_reducible assumption)) | (with_reducible refine Only.trans ?_ (Only.of_below (by with_reducible assumption))) | go_size)))
    have HRB7 := Lib.hid (HRB6.out.only HOO.out hwb)
    have HB7 := Lib.hid (HB6.out.trans (HOO.out.below (by omega) HB6.out.size))
    have HR7 := Lib.hid (HR6.out.but (S := fun i => i = bw) (But.of_only HOO.out rfl) (by omega) (fun i e => by subst e; omega))
    have hl7 := hl6
    rw [hWW]
    clear hWW x3 x4 xf3 xf4 xl HX6 HRB6 HB6 HR6 HOO
    go_wp2_with fail
    refine (rr_num br (sa) W7 HR7.out (by omega)).mono ?_; rintro e W8 ⟨rfl, p8⟩
    have hl8 : rLeft (rNum (sa)).2 ≤ 100000 := Nat.le_trans (rNum_left _) hl7
    have HRB8 := Lib.hid (HRB7.out.only p8.only hwr)
    have HB8 := Lib.hid (HB7.out.trans (p8.only.below (by omega) HB7.out.size))
    have HX8 := Lib.hid (HX7.out.only p8.only (by omega))
    have HR8 := Lib.hid p8.rd
    clear p8 HR7 HRB7 HB7 HX7
    go_wp2_with fail
    refine (rr_num br ((rNum sa).2) W8 HR8.out (by omega)).mono ?_; rintro e W9a ⟨rfl, p9⟩
    have hl9 : rLeft (rNum ((rNum sa).2)).2 ≤ 100000 := Nat.le_trans (rNum_left _) hl8
    have HRB9 := Lib.hid (HRB8.out.only p9.only hwr)
    have HB9 := Lib.hid (HB8.out.trans (p9.only.below (by omega) HB8.out.size))
    have HX9 := Lib.hid (HX8.out.only p9.only (by omega))
    have HR9 := Lib.hid p9.rd
    clear p9 HR8 HRB8 HB8 HX8
    generalize ((rNum sa).1 : Nat) = n2 at *
    generalize ((rNum (rNum sa).2).1 : Nat) = n3 at *
    generalize (rNum (rNum sa).2).2 = sb at *
    have x5 := HX9.out.c 5 _ rfl
    have x6 := HX9.out.c 6 _ rfl
    have xf5 := HX9.out.fz 5
    have xf6 := HX9.out.fz 6
    have xl := HX9.out.lt
    go_upto_region 15 with fail
    obtain ⟨W10, hWW⟩ : ∃ W10, (W9a.setCell ⟨bw, 5, none⟩ (.int .i64 (n2 : Int))).setCell ⟨bw, 6, none⟩ (.int .i64 (n3 : Int)) = W10 := ⟨_, rfl⟩
    have HX10 : Hid (XB W10 bw [.int .i64 (k : Int), .int .i64 (o : Int), .int .i64 (s : Int), .int .i64 (n0 : Int), .int .i64 (n1 : Int), .int .i64 (n2 : Int), .int .i64 (n3 : Int), .slice none 0 0]) := Lib.hid (by rw [← hWW]; exact (HX9.out.set 5 (by simp) _).set 6 (by simp) _)
    have HOO : Hid (Only bw W9a W10) := Lib.hid (by rw [← hWW]; (repeat' (first | (with_reducible exact Only.refl _ _) | (with_reducible assumption) | (with_reducible refine Only.alloc ?_ _) | (with_reducible refine Only.setB ?_ _) | (refine Only.setCell ?_ (Or.inr ?_) _) | (with_reducible refine Only.drewN ?_ _) | (with_reducible refine Only.drew ?_) | (with_reducible refine Only.trans ?_ (by with_reducible assumption)) | (with_reducible refine Only.trans ?_ (Only.of_below (by with_reducible assumption))) | go_size)))
    have HRB10 := Lib.hid (HRB9.out.only HOO.out hwb)
    have HB10 := Lib.hid (HB9.out.trans (HOO.out.below (by omega) HB9.out.size))
    have HR10 := Lib.hid (HR9.out.but (S := fun i => i = bw) (But.of_only HOO.out rfl) (by omega) (fun i e => by subst e; omega))
    have hl10 := hl9
    rw [hWW]
    clear hWW x5 x6 xf5 xf6 xl HX9 HRB9 HB9 HR9 HOO
    have r0 := HRB10.out.c 0 _ rfl
    have r1 := HRB10.out.c 1 _ rfl
    have r2 := HRB10.out.c 2 _ rfl
    have r3 := HRB10.out.c 3 _ rfl
    have r4 := HRB10.out.c 4 _ rfl
    have r5 := HRB10.out.c 5 _ rfl
    have r6 := HRB10.out.c 6 _ rfl
    have r7 := HRB10.out.c 7 _ rfl
    have rf := HRB10.out.fz
    have rl := HRB10.out.lt
    have HWH := Lib.hid (rr_whole br (sb) _ HR10.out)
    have x0 := HX10.out.c 0 _ rfl
    have x1 := HX10.out.c 1 _ rfl
    have x2 := HX10.out.c 2 _ rfl
    have x3 := HX10.out.c 3 _ rfl
    have x4 := HX10.out.c 4 _ rfl
    have x5 := HX10.out.c 5 _ rfl
    have x6 := HX10.out.c 6 _ rfl
    have x7 := HX10.out.c 7 _ rfl
    have xl := HX10.out.lt
    by_cases hwh : (sb) = some []
    rotate_left
    · have t0 : decide ((sb) = some []) = false := by simpa using hwh
      rw [t0] at HWH
      have HD : Hid (decW p = none) := Lib.hid (by rw [HDP.out]; unfold chkW; rw [if_neg (fun h => hwh h.1)])
      clear t0 hwh
      go_wp2_with (go_at_call 68; refine HWH.out.mono ?_; rintro e W7 ⟨rfl, rfl⟩)
      have RBf := ((((((((HRB10.out.set 0 (by simp [zeroW]) (.int .i64 0)).set 1 (by simp [zeroW]) (.int .i64 0)).set 2 (by simp [zeroW]) (.int .i64 0)).set 3 (by simp [zeroW]) (.int .i64 0)).set 4 (by simp [zeroW]) (.int .i64 0)).set 5 (by simp [zeroW]) (.int .i64 0)).set 6 (by simp [zeroW]) (.int .i64 0)).set 7 (by simp [zeroW]) (.slice none 0 0))
      have z0 := RBf.c 0 _ rfl
      have z1 := RBf.c 1 _ rfl
      have z2 := RBf.c 2 _ rfl
      have z3 := RBf.c 3 _ rfl
      have z4 := RBf.c 4 _ rfl
      have z5 := RBf.c 5 _ rfl
      have z6 := RBf.c 6 _ rfl
      have z7 := RBf.c 7 _ rfl
      have HF : Hid (Below w.heap.size w _) := Lib.hid ((((((((HB10.out.setCell (p := ⟨w.heap.size, 0, none⟩) (Nat.le_refl _) (.int .i64 0)).setCell (p := ⟨w.heap.size, 1, none⟩) (Nat.le_refl _) (.int .i64 0)).setCell (p := ⟨w.heap.size, 2, none⟩) (Nat.le_refl _) (.int .i64 0)).setCell (p := ⟨w.heap.size, 3, none⟩) (Nat.le_refl _) (.int .i64 0)).setCell (p := ⟨w.heap.size, 4, none⟩) (Nat.le_refl _) (.int .i64 0)).setCell (p := ⟨w.heap.size, 5, none⟩) (Nat.le_refl _) (.int .i64 0)).setCell (p := ⟨w.heap.size, 6, none⟩) (Nat.le_refl _) (.int .i64 0)).setCell (p := ⟨w.heap.size, 7, none⟩) (Nat.le_refl _) (.slice none 0 0))
      refine bodyPost_ret (v := .tuple #[wdV 0 0 0 0 0 0 0 (.slice none 0 0), .int .i64 3]) (by simp [results, Tryd.results20, go_sem, z0, z1, z2, z3, z4, z5, z6, z7]) rfl ⟨rdec_no HF0.out (.inr (by rw [HPP.out]; exact HD.out)) rfl, HF.out⟩
    have t0 : decide ((sb) = some []) = true := by simpa using hwh
    rw [t0] at HWH
    have HCK : Hid (∀ bb, okW (wdOf (k : Int) (o : Int) (s : Int) (n0 : Int) (n1 : Int) (n2 : Int) (n3 : Int) []) = bb → decW p = if bb then some (wdOf (k : Int) (o : Int) (s : Int) (n0 : Int) (n1 : Int) (n2 : Int) (n3 : Int) []) else none) := Lib.hid (fun bb hbb => by
      rw [HDP.out]
      unfold chkW
      have hbb' : okW ⟨(k : Int), (o : Int), (s : Int), (n0 : Int), (n1 : Int), (n2 : Int), (n3 : Int), []⟩ = bb := hbb
      cases bb
      · rw [if_neg (fun h => by have q := h.2; rw [show okW _ = false from hbb'] at q; cases q)]; rfl
      · rw [if_pos ⟨hwh, hbb'⟩]; rfl)
    clear t0 hwh
    have HIS := Lib.hid (ref17_is (k : Int) (o : Int) (s : Int) (n0 : Int) (n1 : Int) (n2 : Int) (n3 : Int) none 0 [] W10 (rowAt_nil _) (fun m hm => by cases hm) (by simp))
    cases hok : okW (wdOf (k : Int) (o : Int) (s : Int) (n0 : Int) (n1 : Int) (n2 : Int) (n3 : Int) [])
    · have HD : Hid (decW p = none) := Lib.hid (HCK.out false hok)
      rw [hok] at HIS
      clear hok HCK
      go_wp2_with (first | (go_at_call 68; refine HWH.out.mono ?_; rintro e W7 ⟨rfl, rfl⟩) | (go_at_call 53; refine HIS.out.mono ?_; rintro e W9 ⟨rfl, k9⟩; have RB9 := HRB10.out.below k9; have HRB9 := Lib.hid RB9; have HB9 := Lib.hid (HB10.out.trans (k9.mono HB10.out.size)); clear k9 r0 r1 r2 r3 r4 r5 r6 r7 rf rl x0 x1 x2 x3 x4 x5 x6 x7 xl; have r0 := RB9.c 0 _ rfl; have r1 := RB9.c 1 _ rfl; have r2 := RB9.c 2 _ rfl; have r3 := RB9.c 3 _ rfl; have r4 := RB9.c 4 _ rfl; have r5 := RB9.c 5 _ rfl; have r6 := RB9.c 6 _ rfl; have r7 := RB9.c 7 _ rfl; have rf := RB9.fz; have rl := RB9.lt; clear RB9))
      have RBf := ((((((((HRB9.out.set 0 (by simp [zeroW]) (.int .i64 0)).set 1 (by simp [zeroW]) (.int .i64 0)).set 2 (by simp [zeroW]) (.int .i64 0)).set 3 (by simp [zeroW]) (.int .i64 0)).set 4 (by simp [zeroW]) (.int .i64 0)).set 5 (by simp [zeroW]) (.int .i64 0)).set 6 (by simp [zeroW]) (.int .i64 0)).set 7 (by simp [zeroW]) (.slice none 0 0))
      have z0 := RBf.c 0 _ rfl
      have z1 := RBf.c 1 _ rfl
      have z2 := RBf.c 2 _ rfl
      have z3 := RBf.c 3 _ rfl
      have z4 := RBf.c 4 _ rfl
      have z5 := RBf.c 5 _ rfl
      have z6 := RBf.c 6 _ rfl
      have z7 := RBf.c 7 _ rfl
      have HF : Hid (Below w.heap.size w _) := Lib.hid ((((((((HB9.out.setCell (p := ⟨w.heap.size, 0, none⟩) (Nat.le_refl _) (.int .i64 0)).setCell (p := ⟨w.heap.size, 1, none⟩) (Nat.le_refl _) (.int .i64 0)).setCell (p := ⟨w.heap.size, 2, none⟩) (Nat.le_refl _) (.int .i64 0)).setCell (p := ⟨w.heap.size, 3, none⟩) (Nat.le_refl _) (.int .i64 0)).setCell (p := ⟨w.heap.size, 4, none⟩) (Nat.le_refl _) (.int .i64 0)).setCell (p := ⟨w.heap.size, 5, none⟩) (Nat.le_refl _) (.int .i64 0)).setCell (p := ⟨w.heap.size, 6, none⟩) (Nat.le_refl _) (.int .i64 0)).setCell (p := ⟨w.heap.size, 7, none⟩) (Nat.le_refl _) (.slice none 0 0))
      refine bodyPost_ret (v := .tuple #[wdV 0 0 0 0 0 0 0 (.slice none 0 0), .int .i64 3]) (by simp [results, Tryd.results20, go_sem, z0, z1, z2, z3, z4, z5, z6, z7]) rfl ⟨rdec_no HF0.out (.inr (by rw [HPP.out]; exact HD.out)) rfl, HF.out⟩
    · have HD : Hid (decW p = some (wdOf (k : Int) (o : Int) (s : Int) (n0 : Int) (n1 : Int) (n2 : Int) (n3 : Int) [])) := Lib.hid (HCK.out true hok)
      rw [hok] at HIS
      clear hok HCK
      go_wp2_with (first | (go_at_call 68; refine HWH.out.mono ?_; rintro e W7 ⟨rfl, rfl⟩) | (go_at_call 53; refine HIS.out.mono ?_; rintro e W9 ⟨rfl, k9⟩; have RB9 := HRB10.out.below k9; have HRB9 := Lib.hid RB9; have HB9 := Lib.hid (HB10.out.trans (k9.mono HB10.out.size)); have X9 := HX10.out.below k9; clear k9 r0 r1 r2 r3 r4 r5 r6 r7 rf rl x0 x1 x2 x3 x4 x5 x6 x7 xl; have r0 := RB9.c 0 _ rfl; have r1 := RB9.c 1 _ rfl; have r2 := RB9.c 2 _ rfl; have r3 := RB9.c 3 _ rfl; have r4 := RB9.c 4 _ rfl; have r5 := RB9.c 5 _ rfl; have r6 := RB9.c 6 _ rfl; have r7 := RB9.c 7 _ rfl; have rf := RB9.fz; have rl := RB9.lt; have x0 := X9.c 0 _ rfl; have x1 := X9.c 1 _ rfl; have x2 := X9.c 2 _ rfl; have x3 := X9.c 3 _ rfl; have x4 := X9.c 4 _ rfl; have x5 := X9.c 5 _ rfl; have x6 := X9.c 6 _ rfl; have x7 := X9.c 7 _ rfl; have xl := X9.lt; clear RB9 X9))
      have RBf := ((((((((HRB9.out.set 0 (by simp [zeroW]) (.int .i64 (k : Int))).set 1 (by simp [zeroW]) (.int .i64 (o : Int))).set 2 (by simp [zeroW]) (.int .i64 (s : Int))).set 3 (by simp [zeroW]) (.int .i64 (n0 : Int))).set 4 (by simp [zeroW]) (.int .i64 (n1 : Int))).set 5 (by simp [zeroW]) (.int .i64 (n2 : Int))).set 6 (by simp [zeroW]) (.int .i64 (n3 : Int))).set 7 (by simp [zeroW]) (.slice none 0 0))
      have z0 := RBf.c 0 _ rfl
      have z1 := RBf.c 1 _ rfl
      have z2 := RBf.c 2 _ rfl
      have z3 := RBf.c 3 _ rfl
      have z4 := RBf.c 4 _ rfl
      have z5 := RBf.c 5 _ rfl
      have z6 := RBf.c 6 _ rfl
      have z7 := RBf.c 7 _ rfl
      have HF : Hid (Below w.heap.size w _) := Lib.hid ((((((((HB9.out.setCell (p := ⟨w.heap.size, 0, none⟩) (Nat.le_refl _) (.int .i64 (k : Int))).setCell (p := ⟨w.heap.size, 1, none⟩) (Nat.le_refl _) (.int .i64 (o : Int))).setCell (p := ⟨w.heap.size, 2, none⟩) (Nat.le_refl _) (.int .i64 (s : Int))).setCell (p := ⟨w.heap.size, 3, none⟩) (Nat.le_refl _) (.int .i64 (n0 : Int))).setCell (p := ⟨w.heap.size, 4, none⟩) (Nat.le_refl _) (.int .i64 (n1 : Int))).setCell (p := ⟨w.heap.size, 5, none⟩) (Nat.le_refl _) (.int .i64 (n2 : Int))).setCell (p := ⟨w.heap.size, 6, none⟩) (Nat.le_refl _) (.int .i64 (n3 : Int))).setCell (p := ⟨w.heap.size, 7, none⟩) (Nat.le_refl _) (.slice none 0 0))
      refine bodyPost_ret (v := .tuple #[wdV (k : Int) (o : Int) (s : Int) (n0 : Int) (n1 : Int) (n2 : Int) (n3 : Int) (.slice none 0 0), .int .i64 0]) (by simp [results, Tryd.results20, go_sem, z0, z1, z2, z3, z4, z5, z6, z7]) rfl ⟨.inr ⟨HO0.out, .inr (by rw [HPP.out]; exact told_none HD.out rfl)⟩, HF.out⟩

  have q3 : ((k : Int) == 3) = false := by simpa using hk3
  have HDP := Lib.hid (HPL.out hk1 hk3)
  clear hk1 hk3 HPL HBT HRC HBAD hyb hqb hbyb hnb hcb hcbm
  have HWH := Lib.hid (rr_whole br (some bs) _ HR4.out)
  have x0 := HX4.out.c 0 _ rfl
  have x1 := HX4.out.c 1 _ rfl
  have x2 := HX4.out.c 2 _ rfl
  have x3 := HX4.out.c 3 _ rfl
  have x4 := HX4.out.c 4 _ rfl
  have x5 := HX4.out.c 5 _ rfl
  have x6 := HX4.out.c 6 _ rfl
  have x7 := HX4.out.c 7 _ rfl
  have xl := HX4.out.lt
  by_cases hwh : (some bs) = some []
  rotate_left
  · have t0 : decide ((some bs) = some []) = false := by simpa using hwh
    rw [t0] at HWH
    have HD : Hid (decW p = none) := Lib.hid (by rw [HDP.out]; unfold chkW; rw [if_neg (fun h => hwh h.1)])
    clear t0 hwh
    go_wp2_with (go_at_call 68; refine HWH.out.mono ?_; rintro e W7 ⟨rfl, rfl⟩)
    have RBf := ((((((((HRB4.out.set 0 (by simp [zeroW]) (.int .i64 0)).set 1 (by simp [zeroW]) (.int .i64 0)).set 2 (by simp [zeroW]) (.int .i64 0)).set 3 (by simp [zeroW]) (.int .i64 0)).set 4 (by simp [zeroW]) (.int .i64 0)).set 5 (by simp [zeroW]) (.int .i64 0)).set 6 (by simp [zeroW]) (.int .i64 0)).set 7 (by simp [zeroW]) (.slice none 0 0))
    have z0 := RBf.c 0 _ rfl
    have z1 := RBf.c 1 _ rfl
    have z2 := RBf.c 2 _ rfl
    have z3 := RBf.c 3 _ rfl
    have z4 := RBf.c 4 _ rfl
    have z5 := RBf.c 5 _ rfl
    have z6 := RBf.c 6 _ rfl
    have z7 := RBf.c 7 _ rfl
    have HF : Hid (Below w.heap.size w _) := Lib.hid ((((((((HB4.out.setCell (p := ⟨w.heap.size, 0, none⟩) (Nat.le_refl _) (.int .i64 0)).setCell (p := ⟨w.heap.size, 1, none⟩) (Nat.le_refl _) (.int .i64 0)).setCell (p := ⟨w.heap.size, 2, none⟩) (Nat.le_refl _) (.int .i64 0)).setCell (p := ⟨w.heap.size, 3, none⟩) (Nat.le_refl _) (.int .i64 0)).setCell (p := ⟨w.heap.size, 4, none⟩) (Nat.le_refl _) (.int .i64 0)).setCell (p := ⟨w.heap.size, 5, none⟩) (Nat.le_refl _) (.int .i64 0)).setCell (p := ⟨w.heap.size, 6, none⟩) (Nat.le_refl _) (.int .i64 0)).setCell (p := ⟨w.heap.size, 7, none⟩) (Nat.le_refl _) (.slice none 0 0))
    refine bodyPost_ret (v := .tuple #[wdV 0 0 0 0 0 0 0 (.slice none 0 0), .int .i64 3]) (by simp [results, Tryd.results20, go_sem, z0, z1, z2, z3, z4, z5, z6, z7]) rfl ⟨rdec_no HF0.out (.inr (by rw [HPP.out]; exact HD.out)) rfl, HF.out⟩
  have t0 : decide ((some bs) = some []) = true := by simpa using hwh
  rw [t0] at HWH
  have HCK : Hid (∀ bb, okW (wdOf (k : Int) (o : Int) (s : Int) 0 0 0 0 []) = bb → decW p = if bb then some (wdOf (k : Int) (o : Int) (s : Int) 0 0 0 0 []) else none) := Lib.hid (fun bb hbb => by
    rw [HDP.out]
    unfold chkW
    have hbb' : okW ⟨(k : Int), (o : Int), (s : Int), 0, 0, 0, 0, []⟩ = bb := hbb
    cases bb
    · rw [if_neg (fun h => by have q := h.2; rw [show okW _ = false from hbb'] at q; cases q)]; rfl
    · rw [if_pos ⟨hwh, hbb'⟩]; rfl)
  clear t0 hwh
  have HIS := Lib.hid (ref17_is (k : Int) (o : Int) (s : Int) 0 0 0 0 none 0 [] W4 (rowAt_nil _) (fun m hm => by cases hm) (by simp))
  cases hok : okW (wdOf (k : Int) (o : Int) (s : Int) 0 0 0 0 [])
  · have HD : Hid (decW p = none) := Lib.hid (HCK.out false hok)
    rw [hok] at HIS
    clear hok HCK
    go_wp2_with (first | (go_at_call 68; refine HWH.out.mono ?_; rintro e W7 ⟨rfl, rfl⟩) | (go_at_call 53; refine HIS.out.mono ?_; rintro e W9 ⟨rfl, k9⟩; have RB9 := HRB4.out.below k9; have HRB9 := Lib.hid RB9; have HB9 := Lib.hid (HB4.out.trans (k9.mono HB4.out.size)); clear k9 r0 r1 r2 r3 r4 r5 r6 r7 rf rl x0 x1 x2 x3 x4 x5 x6 x7 xl; have r0 := RB9.c 0 _ rfl; have r1 := RB9.c 1 _ rfl; have r2 := RB9.c 2 _ rfl; have r3 := RB9.c 3 _ rfl; have r4 := RB9.c 4 _ rfl; have r5 := RB9.c 5 _ rfl; have r6 := RB9.c 6 _ rfl; have r7 := RB9.c 7 _ rfl; have rf := RB9.fz; have rl := RB9.lt; clear RB9))
    have RBf := ((((((((HRB9.out.set 0 (by simp [zeroW]) (.int .i64 0)).set 1 (by simp [zeroW]) (.int .i64 0)).set 2 (by simp [zeroW]) (.int .i64 0)).set 3 (by simp [zeroW]) (.int .i64 0)).set 4 (by simp [zeroW]) (.int .i64 0)).set 5 (by simp [zeroW]) (.int .i64 0)).set 6 (by simp [zeroW]) (.int .i64 0)).set 7 (by simp [zeroW]) (.slice none 0 0))
    have z0 := RBf.c 0 _ rfl
    have z1 := RBf.c 1 _ rfl
    have z2 := RBf.c 2 _ rfl
    have z3 := RBf.c 3 _ rfl
    have z4 := RBf.c 4 _ rfl
    have z5 := RBf.c 5 _ rfl
    have z6 := RBf.c 6 _ rfl
    have z7 := RBf.c 7 _ rfl
    have HF : Hid (Below w.heap.size w _) := Lib.hid ((((((((HB9.out.setCell (p := ⟨w.heap.size, 0, none⟩) (Nat.le_refl _) (.int .i64 0)).setCell (p := ⟨w.heap.size, 1, none⟩) (Nat.le_refl _) (.int .i64 0)).setCell (p := ⟨w.heap.size, 2, none⟩) (Nat.le_refl _) (.int .i64 0)).setCell (p := ⟨w.heap.size, 3, none⟩) (Nat.le_refl _) (.int .i64 0)).setCell (p := ⟨w.heap.size, 4, none⟩) (Nat.le_refl _) (.int .i64 0)).setCell (p := ⟨w.heap.size, 5, none⟩) (Nat.le_refl _) (.int .i64 0)).setCell (p := ⟨w.heap.size, 6, none⟩) (Nat.le_refl _) (.int .i64 0)).setCell (p := ⟨w.heap.size, 7, none⟩) (Nat.le_refl _) (.slice none 0 0))
    refine bodyPost_ret (v := .tuple #[wdV 0 0 0 0 0 0 0 (.slice none 0 0), .int .i64 3]) (by simp [results, Tryd.results20, go_sem, z0, z1, z2, z3, z4, z5, z6, z7]) rfl ⟨rdec_no HF0.out (.inr (by rw [HPP.out]; exact HD.out)) rfl, HF.out⟩
  · have HD : Hid (decW p = some (wdOf (k : Int) (o : Int) (s : Int) 0 0 0 0 [])) := Lib.hid (HCK.out true hok)
    rw [hok] at HIS
    clear hok HCK
    go_wp2_with (first | (go_at_call 68; refine HWH.out.mono ?_; rintro e W7 ⟨rfl, rfl⟩) | (go_at_call 53; refine HIS.out.mono ?_; rintro e W9 ⟨rfl, k9⟩; have RB9 := HRB4.out.below k9; have HRB9 := Lib.hid RB9; have HB9 := Lib.hid (HB4.out.trans (k9.mono HB4.out.size)); have X9 := HX4.out.below k9; clear k9 r0 r1 r2 r3 r4 r5 r6 r7 rf rl x0 x1 x2 x3 x4 x5 x6 x7 xl; have r0 := RB9.c 0 _ rfl; have r1 := RB9.c 1 _ rfl; have r2 := RB9.c 2 _ rfl; have r3 := RB9.c 3 _ rfl; have r4 := RB9.c 4 _ rfl; have r5 := RB9.c 5 _ rfl; have r6 := RB9.c 6 _ rfl; have r7 := RB9.c 7 _ rfl; have rf := RB9.fz; have rl := RB9.lt; have x0 := X9.c 0 _ rfl; have x1 := X9.c 1 _ rfl; have x2 := X9.c 2 _ rfl; have x3 := X9.c 3 _ rfl; have x4 := X9.c 4 _ rfl; have x5 := X9.c 5 _ rfl; have x6 := X9.c 6 _ rfl; have x7 := X9.c 7 _ rfl; have xl := X9.lt; clear RB9 X9))
    have RBf := ((((((((HRB9.out.set 0 (by simp [zeroW]) (.int .i64 (k : Int))).set 1 (by simp [zeroW]) (.int .i64 (o : Int))).set 2 (by simp [zeroW]) (.int .i64 (s : Int))).set 3 (by simp [zeroW]) (.int .i64 0)).set 4 (by simp [zeroW]) (.int .i64 0)).set 5 (by simp [zeroW]) (.int .i64 0)).set 6 (by simp [zeroW]) (.int .i64 0)).set 7 (by simp [zeroW]) (.slice none 0 0))
    have z0 := RBf.c 0 _ rfl
    have z1 := RBf.c 1 _ rfl
    have z2 := RBf.c 2 _ rfl
    have z3 := RBf.c 3 _ rfl
    have z4 := RBf.c 4 _ rfl
    have z5 := RBf.c 5 _ rfl
    have z6 := RBf.c 6 _ rfl
    have z7 := RBf.c 7 _ rfl
    have HF : Hid (Below w.heap.size w _) := Lib.hid ((((((((HB9.out.setCell (p := ⟨w.heap.size, 0, none⟩) (Nat.le_refl _) (.int .i64 (k : Int))).setCell (p := ⟨w.heap.size, 1, none⟩) (Nat.le_refl _) (.int .i64 (o : Int))).setCell (p := ⟨w.heap.size, 2, none⟩) (Nat.le_refl _) (.int .i64 (s : Int))).setCell (p := ⟨w.heap.size, 3, none⟩) (Nat.le_refl _) (.int .i64 0)).setCell (p := ⟨w.heap.size, 4, none⟩) (Nat.le_refl _) (.int .i64 0)).setCell (p := ⟨w.heap.size, 5, none⟩) (Nat.le_refl _) (.int .i64 0)).setCell (p := ⟨w.heap.size, 6, none⟩) (Nat.le_refl _) (.int .i64 0)).setCell (p := ⟨w.heap.size, 7, none⟩) (Nat.le_refl _) (.slice none 0 0))
    refine bodyPost_ret (v := .tuple #[wdV (k : Int) (o : Int) (s : Int) 0 0 0 0 (.slice none 0 0), .int .i64 0]) (by simp [results, Tryd.results20, go_sem, z0, z1, z2, z3, z4, z5, z6, z7]) rfl ⟨.inr ⟨HO0.out, .inr (by rw [HPP.out]; exact told_none HD.out rfl)⟩, HF.out⟩
theorem rwd_dec (A : Option Addr) (l : List Int) (c : Nat) (w : World) (hby : ByL w A l) (hb : isBy l) (hl : l.length ≤ 100000) (hc : l.length ≤ c) (hcm : c ≤ maxLen) :
    Calls Tryd.prog 20 #[.slice A l.length c] w fun e w' => RDec l w w' e ∧ Below w.heap.size w w' := by
  by_cases hf : frC l = 0
  · exact rwd_dec_ok A l c w hby hb (by omega) hc hcm hf (by unfold frP; rw [List.length_take, List.length_drop]; omega)
  · refine (rwd_dec_fr A l c w hby hb (by omega) hc hcm hf).mono ?_
    rintro e w' ⟨he, k⟩
    have hO : frO l = frC l := by unfold frO; rw [if_neg hf]
    exact ⟨.inl ⟨by rw [hO]; exact hf, by rw [hO]; exact he⟩, k⟩
end Go.Proofs.YtdffldlcbihjmaaDoor

