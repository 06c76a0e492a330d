/- The reference's Leases: drop, Close, Expire, Floor (written by gen/lr3.py). -/
import Derived.Test.YtacchkokbibeaaaLr2
import Derived.BigQuiet
import Derived.Lib.QuietBelow
set_option linter.unusedSimpArgs false
set_option linter.unusedVariables false
namespace Go.Proofs.Ytacchkokbibeaaa
open Go.RowKit Go.Sort

theorem own_base4 {w : World} {base base' : Nat} {e : TypeId} {size n : Nat} {v : Value} {xs : List Value} (hb : base' ≤ base) (h : w.ownsRow base e size v n xs) : w.ownsRow base' e size v n xs :=
  ⟨h.1, h.2.imp id (fun ⟨g, cap, cur, e, hb', r⟩ => ⟨g, cap, cur, e, Nat.le_trans hb hb', r⟩)⟩
theorem row_shape4 {w : World} {base n size : Nat} {e : TypeId} {v : Value} {xs : List Value} (h : w.ownsRow base e size v n xs) : ∃ A c, v = .slice A n c := by
  rcases h.2 with ⟨e, h0⟩ | ⟨g, cap, cur, e, _⟩
  · exact ⟨none, 0, by rw [e, h0]⟩
  · exact ⟨_, _, e⟩
theorem drop_fin {w V : World} {b : Nat} {v v9 : Value} {L M : List Le} {nx : Int} (h : Lr w b v L nx) (hb : Below w.heap.size w V) (hr : V.ownsRow w.heap.size 67 4 v9 M.length (flat M)) : StR b v M nx w (V.setCell ⟨b, 0, none⟩ v9) := by
  have H := h.below hb
  have hlt := fun k (hk : v9.ownBlock = some k) => hr.lt k hk
  have hz := hb.size
  refine ⟨v9, ⟨World.cell?_setCell_same _ _ _ H.c0, (World.cell?_setCell_other _ _ _ _ (by simp)).trans H.c1, by simpa using H.f0, by simpa using H.f1, by simpa [World.setCell] using H.lt, ?_, fun e => by have := (hlt _ e).1; have := h.lt; omega⟩, (But.of_below hb).setCell (fun _ => .inl rfl) _, fun k hk => .inr (hlt k hk).1⟩
  exact (But.of_only (S := fun k => k = b) ((Only.refl b V).setB _) rfl).row (own_base4 (Nat.zero_le _) hr) (fun i hi e => by have := (hlt i hi).1; have := h.lt; omega)
set_option maxRecDepth 100000 in
set_option maxHeartbeats 8000000 in
theorem lr_drop (b g c : Nat) (L : List Le) (nx : Int) (i : Nat) (w : World) (h : Lr w b (.slice (some ⟨g, 0, none⟩) L.length c) L nx) (hl : L.length ≤ 1000) (hi : i < L.length) :
    Calls Try.prog 31 #[.pointer (some ⟨b, 0, none⟩), .int .i64 i] w fun e w' => e = .returned (.tuple #[]) ∧ StR b (.slice (some ⟨g, 0, none⟩) L.length c) (L.eraseIdx i) nx w w' := by
  obtain ⟨i0, hi0, hz0, hz1, hz2⟩ := info_parts lr_info
  obtain ⟨hcn, hcm⟩ : L.length ≤ c ∧ c ≤ maxLen := by
    rcases h.row.2 with ⟨e, _⟩ | ⟨g', cap, cur, e, _, _, q1, q2, _⟩
    · cases e
    · injection e with e1 e2 e3; subst e3; exact ⟨q1, q2⟩
  have HTL : Hid ((flat (L.take i)).length = i * 4) := Lib.hid (by rw [flat_len, List.length_take, show min i L.length = i from by omega])
  have HDL : Hid ((flat (L.drop (i + 1))).length = (L.length - (i + 1)) * 4) := Lib.hid (by rw [flat_len, List.length_drop])
  have HTK : Hid (∀ W, Below w.heap.size w W → ∀ j u, (flat (L.take i))[j]? = some u → W.cell? ((⟨g, 0, none⟩ : Addr).add j) = some u) := Lib.hid (fun W hW j u hu => by
    rw [at_add, Nat.zero_add]
    rw [← flat_take, List.getElem?_take] at hu
    split at hu
    · exact row_cell (h.below hW).row hu
    · cases hu)
  have HDR : Hid (∀ W, Below w.heap.size w W → ∀ j u, (flat (L.drop (i + 1)))[j]? = some u → W.cell? ((⟨g, (i + 1) * 4, none⟩ : Addr).add j) = some u) := Lib.hid (fun W hW j u hu => by
    rw [at_add]
    rw [← flat_drop, List.getElem?_drop] at hu
    exact row_cell (h.below hW).row hu)
  obtain ⟨AD, hAD, hsrc9⟩ : ∃ AD : Addr, (if c = i + 1 then (⟨g, 0, none⟩ : Addr) else ⟨g, (i + 1) * 4, none⟩) = AD ∧ Hid (∀ W, Below w.heap.size w W → ∀ j u, (flat (L.drop (i + 1)))[j]? = some u → W.cell? (AD.add j) = some u) := by
    by_cases hc : c = i + 1
    · refine ⟨_, if_pos hc, Lib.hid (fun W hW j u hu => ?_)⟩
      have := (List.getElem?_eq_some_iff.1 hu).1
      have h9 := HDL.out
      omega
    · exact ⟨_, if_neg hc, HDR⟩
  have HH := Lib.hid h
  have c0 := h.c0
  have lb := h.lt
  have hii : (i : Int) ≤ 1000 := by omega
  have hci : (i : Int) ≤ (c : Int) := by omega
  have hni : ((i : Int) + 1) ≤ (L.length : Int) := by omega
  have hnc : (L.length : Int) ≤ (c : Int) := by omega
  have h0i : (0 : Int) ≤ (i : Int) + 1 := by omega
  have wi : IntKind.i64.wrap ((i : Int) + 1) = (i : Int) + 1 := IntWalk.i64_in _ (by omega)
  have HBA : Hid (Below w.heap.size w (w.alloc (.cells #[] 67)).drew) := Lib.hid ((Below.refl _ _).alloc (Nat.le_refl _) _).drew
  have RW : Hid ((w.alloc (.cells #[] 67)).drew.ownsRow w.heap.size 67 4 (.slice (some ⟨w.heap.size, 0, none⟩) 0 0) 0 []) := Lib.hid (World.ownsRow_made (base := w.heap.size) (e := 67) (size := 4) w #[] 0 (Nat.le_refl _) (Nat.zero_le _) rfl)
  have hic : i ≤ c := by omega
  have HE9 : Hid (i + (L.length - (i + 1)) = (L.eraseIdx i).length) := Lib.hid (by rw [List.length_eraseIdx, if_pos hi]; omega)
  have HE8 : Hid (flat (L.take i) ++ flat (L.drop (i + 1)) = flat (L.eraseIdx i)) := Lib.hid (by rw [← flat_append, List.eraseIdx_eq_take_drop_succ])
  have HLL := Lib.hid (And.intro hl hi)
  have HCN := Lib.hid (And.intro hcn hcm)
  clear h HDR hl hi hcn hcm
  have c1 := (HH.out.below HBA.out).c0
  by_cases hcc : c = i + 1
  · rw [if_pos hcc] at hAD
    subst hAD
    have hx1 : (i : Int) ≤ (i : Int) + 1 := by omega
    have hx2 : (L.length : Int) ≤ (i : Int) + 1 := by omega
    go_enter Try.func31, Try.ntmps31
    go_wp2_with fail
    go_region_law
      (first
        | (rw [if_pos (by rfl)]; refine wp_append_own _ _ _ _ (by rfl) w.heap.size 67 i0 _ 4 32 Try.underlying26 hi0 hz0 hz1 hz2 rfl (by decide) (.slice (some ⟨w.heap.size, 0, none⟩) 0 0) 0 [] (by rfl) RW.out ⟨g, 0, none⟩ i _ (flat (L.take i)) rfl HTL.out (HTK.out _ HBA.out) (flat_cell1 _) (by unfold maxLen; omega) (by omega) (by simp) ?_; intro v7 V7 hv7 hg7 _; have RV : Hid (V7.ownsRow w.heap.size 67 4 v7 i (flat (L.take i))) := Lib.hid (by simpa using hv7); have HB7 : Hid (Below w.heap.size w V7) := Lib.hid (HBA.out.grown hg7 HBA.out.size (fun k hk => (World.ownsRow.lt RW.out k hk).1)); have c7 := (HH.out.below HB7.out).c0; obtain ⟨A7, k7, rfl⟩ := row_shape4 RV.out; clear hv7 hg7)
        | (rw [if_pos (by rfl)]; refine wp_append_own _ _ _ _ (by rfl) w.heap.size 67 i0 _ 4 32 Try.underlying26 hi0 hz0 hz1 hz2 rfl (by decide) (.slice A7 i k7) i (flat (L.take i)) (by rfl) RV.out ⟨g, 0, none⟩ (L.length - (i + 1)) _ (flat (L.drop (i + 1))) rfl HDL.out (hsrc9.out _ HB7.out) (flat_cell1 _) (by have := HLL.out; unfold maxLen; omega) (by have := HLL.out; omega) HB7.out.size ?_; intro v9 V9 hv9 hg9 _; have HB9 : Hid (Below w.heap.size w V9) := Lib.hid (HB7.out.grown hg9 HB7.out.size (fun k hk => (World.ownsRow.lt RV.out k hk).1)); rw [HE9.out, HE8.out] at hv9; have HFIN := Lib.hid (drop_fin HH.out HB9.out hv9); have c9 := (HH.out.below HB9.out).c0; have f9 := (HH.out.below HB9.out).f0; obtain ⟨A9, k9, rfl⟩ := row_shape4 hv9; clear hv9 hg9))
    all_goals go_wp2
    all_goals exact bodyPost_end (by simp [results, Try.results31, go_sem]) rfl ⟨rfl, HFIN.out⟩
  · rw [if_neg hcc] at hAD
    subst hAD
    go_enter Try.func31, Try.ntmps31
    go_wp2_with fail
    go_region_law
      (first
        | (rw [if_pos (by rfl)]; refine wp_append_own _ _ _ _ (by rfl) w.heap.size 67 i0 _ 4 32 Try.underlying26 hi0 hz0 hz1 hz2 rfl (by decide) (.slice (some ⟨w.heap.size, 0, none⟩) 0 0) 0 [] (by rfl) RW.out ⟨g, 0, none⟩ i _ (flat (L.take i)) rfl HTL.out (HTK.out _ HBA.out) (flat_cell1 _) (by unfold maxLen; omega) (by omega) (by simp) ?_; intro v7 V7 hv7 hg7 _; have RV : Hid (V7.ownsRow w.heap.size 67 4 v7 i (flat (L.take i))) := Lib.hid (by simpa using hv7); have HB7 : Hid (Below w.heap.size w V7) := Lib.hid (HBA.out.grown hg7 HBA.out.size (fun k hk => (World.ownsRow.lt RW.out k hk).1)); have c7 := (HH.out.below HB7.out).c0; obtain ⟨A7, k7, rfl⟩ := row_shape4 RV.out; clear hv7 hg7)
        | (rw [if_pos (by rfl)]; refine wp_append_own _ _ _ _ (by rfl) w.heap.size 67 i0 _ 4 32 Try.underlying26 hi0 hz0 hz1 hz2 rfl (by decide) (.slice A7 i k7) i (flat (L.take i)) (by rfl) RV.out ⟨g, (i + 1) * 4, none⟩ (L.length - (i + 1)) _ (flat (L.drop (i + 1))) rfl HDL.out (hsrc9.out _ HB7.out) (flat_cell1 _) (by have := HLL.out; unfold maxLen; omega) (by have := HLL.out; omega) HB7.out.size ?_; intro v9 V9 hv9 hg9 _; have HB9 : Hid (Below w.heap.size w V9) := Lib.hid (HB7.out.grown hg9 HB7.out.size (fun k hk => (World.ownsRow.lt RV.out k hk).1)); rw [HE9.out, HE8.out] at hv9; have HFIN := Lib.hid (drop_fin HH.out HB9.out hv9); have c9 := (HH.out.below HB9.out).c0; have f9 := (HH.out.below HB9.out).f0; obtain ⟨A9, k9, rfl⟩ := row_shape4 hv9; clear hv9 hg9))
    all_goals go_wp2
    all_goals exact bodyPost_end (by simp [results, Try.results31, go_sem]) rfl ⟨rfl, HFIN.out⟩
theorem StR.trans {b : Nat} {v : Value} {L1 L2 : List Le} {n1 n2 : Int} {w w1 w2 : World} (h : StR b v L1 n1 w w1) (k : ∀ v1, Lr w1 b v1 L1 n1 → StR b v1 L2 n2 w1 w2) : StR b v L2 n2 w w2 := by
  obtain ⟨v1, h1, h2, h3⟩ := h
  obtain ⟨v2, k1, k2, k3⟩ := k v1 h1
  refine ⟨v2, k1, h2.trans k2 (fun i hi hf => ?_), fun i hi => ?_⟩
  · rcases hf with hf | hf
    · exact .inl hf
    · rcases h3 i hf with q | q
      · exact .inr q
      · omega
  · rcases k3 i hi with q | q
    · exact h3 i q
    · exact .inr (Nat.le_trans h2.size q)
set_option maxRecDepth 100000 in
set_option maxHeartbeats 4000000 in
theorem lr_close (b B cb : Nat) (v : Value) (L : List Le) (nx : Int) (ids : List Int) (w : World) (h : Lr w b v L nx) (hr : Rise L) (hl : L.length ≤ 1000) (hi : ids.length ≤ 1000) (hc : ∀ j i, ids[j]? = some i → w.cell? ⟨B, j, none⟩ = some (.int .i64 i)) (hB : ¬ Foot b v B) (lB : B < w.heap.size) :
    Calls Try.prog 16 #[.pointer (some ⟨b, 0, none⟩), .slice (some ⟨B, 0, none⟩) ids.length cb] w fun e w' => e = .returned (.int .i64 ((L.length : Int) - ((closeL L ids).length : Int))) ∧ StR b v (closeL L ids) nx w w' := by
  have HFT := Lib.hid (show closeL L (ids.take ids.length) = closeL L ids by rw [List.take_length])
  have HC := Lib.hid hc
  have HR := Lib.hid hr
  have HL := Lib.hid hl
  have h0 : Hid (StR b v (closeL L (ids.take 0)) nx w w) := Lib.hid (StR.of_below (L := L) h (Below.refl _ _))
  have HNI : Hid (ids.length ≤ 1000) := Lib.hid hi
  generalize hn : ids.length = n at *
  have HN := Lib.hid hn
  clear h hr hl hc hn
  go_enter Try.func16, Try.ntmps16
  go_wp2
  go_loopw [5, 6] (fun s i wr => ∃ k : Nat, k ≤ n ∧ i = .int .i64 k ∧ s = .int .i64 ((L.length : Int) - ((closeL L (ids.take k)).length : Int)) ∧ StR b v (closeL L (ids.take k)) nx w wr) (fun _ i _ => n - (intOf i).toNat)
  case atStart => exact ⟨0, Nat.zero_le _, rfl, by simp [closeL], h0.out⟩
  case round =>
    obtain ⟨k, hk, rfl, rfl, hst⟩ := hrel
    clear h0
    have HST := Lib.hid hst
    obtain ⟨v', H', hbt, hvo⟩ := hst
    have hlen := (closeL_sub (ids.take k) L).length_le
    have wk : IntKind.i64.wrap ((k : Int) + 1) = (k : Int) + 1 := IntWalk.i64_in _ (by have := HNI.out; omega)
    by_cases hlt : k < n
    · obtain ⟨id, hid⟩ : ∃ id, ids[k]? = some id := ⟨ids[k]'(by rw [HN.out]; exact hlt), List.getElem?_eq_getElem _⟩
      have ci := (hbt.cell B k lB hB).trans (HC.out k id hid)
      have htk : ids.take (k + 1) = ids.take k ++ [id] := by
        have hkk : k < ids.length := by rw [HN.out]; exact hlt
        rw [List.take_succ_eq_append_getElem hkk]
        rw [List.getElem?_eq_getElem hkk] at hid
        injection hid with hid
        rw [hid]
      have hcs : closeL L (ids.take (k + 1)) = rm (closeL L (ids.take k)) id := by rw [htk, closeL_snoc]
      have HCS := Lib.hid hcs
      have hrise := HR.out.sub (closeL_sub (ids.take k) L)
      obtain ⟨at', bb, hfa⟩ := find_ex hrise id
      have HRI := Lib.hid hrise
      have HFA := Lib.hid hfa
      have hl1 : (closeL L (ids.take k)).length ≤ 1000 := by have := HL.out; omega
      have HF := Lib.hid (lr_find b v' _ nx id at' bb wr H' hl1 hfa hrise)
      have HS := Lib.hid H'
      clear hid htk hcs hrise hfa H' hbt hvo
      generalize hM : closeL L (ids.take k) = M at *
      clear hM
      cases bb with
      | false =>
        have HE : Hid (closeL L (ids.take (k + 1)) = M) := Lib.hid (HCS.out.trans (rm_none (find_none HFA.out HRI.out)))
        go_wp2_with fail
        refine HF.out.mono ?_; rintro e w1 ⟨rfl, rfl⟩
        simp only [whereR]
        clear ci
        go_wp2
        go_roundw
        case rel => exact ⟨k + 1, by omega, by go_num, by rw [HE.out], by rw [HE.out]; exact HST.out⟩
        case measure => simp [intOf]; omega
      | true =>
        obtain ⟨he, hat, hlm⟩ := find_some HFA.out HRI.out
        obtain ⟨g, c, rfl, _⟩ : ∃ g c, v' = .slice (some ⟨g, 0, none⟩) M.length c ∧ M.length ≤ c := by
          rcases lr_nil_len HS.out with h | ⟨_, hM0⟩
          · exact h
          · rw [hM0] at hat; simp at hat
        have HDR := Lib.hid (lr_drop b g c M nx at' wr HS.out hl1 hat)
        have hat0 : decide ((0 : Int) ≤ (at' : Int)) = true := by simp
        have hw2 : IntKind.i64.wrap ((L.length : Int) - (M.length : Int) + 1) = (L.length : Int) - ((closeL L (ids.take (k + 1))).length : Int) := by
          rw [HCS.out]
          refine (IntWalk.i64_in _ (by have := HL.out; omega)).trans ?_
          omega
        have HE := Lib.hid he
        have HW2 := Lib.hid hw2
        clear he hlm hw2
        go_wp2_with fail
        refine HF.out.mono ?_; rintro e w1 ⟨rfl, rfl⟩
        simp only [whereR]
        clear ci
        go_wp2_with fail
        refine HDR.out.mono ?_; rintro e w2 ⟨rfl, hst2⟩
        rw [HE.out] at hst2
        have HREL : Hid (StR b v (closeL L (ids.take (k + 1))) nx w w2) := Lib.hid (HST.out.trans (fun v1 h1 => by
          rw [HCS.out]
          have e1 : v1 = .slice (some ⟨g, 0, none⟩) M.length c := by
            have a1 := h1.c0
            have a2 := HS.out.c0
            rw [a1] at a2
            injection a2
          rw [e1]
          exact hst2))
        clear hst2
        have hw2 := HW2.out
        go_wp2
        go_roundw
        case rel => exact ⟨k + 1, by omega, by go_num, by first | rfl | rw [hw2], HREL.out⟩
        case measure => simp [intOf]; omega
    · obtain rfl : k = n := by omega
      have HX : Hid (StR b v (closeL L ids) nx w wr) := Lib.hid (by rw [← HFT.out]; exact HST.out)
      clear H' hbt hvo
      go_wp2
      go_ret
      go_light
      exact ⟨ret_int (by rw [HFT.out]), HX.out⟩
/-- What the reference's Expire holds when all behind j leases is done. -/
def expM (L : List Le) (now : Int) (j : Nat) : List Le := L.take j ++ keep now (L.drop j)
theorem expM_len (L : List Le) (now : Int) (j : Nat) : (expM L now j).length ≤ L.length := by
  unfold expM
  rw [List.length_append]
  have h1 := (keep_sub now (L.drop j)).length_le
  rw [List.length_take]
  rw [List.length_drop] at h1
  omega
theorem keep_cons (now : Int) (x : Le) (t : List Le) : keep now (x :: t) = if now < x.u then x :: keep now t else keep now t := by
  unfold keep
  rw [List.filter_cons]
  by_cases h : now < x.u <;> simp [h]
theorem exp_drop {L : List Le} {q : Nat} {x : Le} (h : L[q]? = some x) : L.drop q = x :: L.drop (q + 1) := by
  have hk := (List.getElem?_eq_some_iff.1 h).1
  rw [List.drop_eq_getElem_cons hk]
  rw [List.getElem?_eq_getElem hk] at h
  injection h with h
  rw [h]
theorem exp_at {L : List Le} {now : Int} {q : Nat} {x : Le} (h : L[q]? = some x) : (expM L now (q + 1))[q]? = some x := by
  have hk := (List.getElem?_eq_some_iff.1 h).1
  unfold expM
  rw [List.getElem?_append_left (by rw [List.length_take]; omega), List.getElem?_take_of_lt (by omega), h]
theorem exp_no {L : List Le} {now : Int} {q : Nat} {x : Le} (h : L[q]? = some x) (hx : now < x.u) : expM L now (q + 1) = expM L now q := by
  unfold expM
  rw [exp_drop h, keep_cons, if_pos hx, take_snoc h, List.append_assoc]
  rfl
theorem exp_yes {L : List Le} {now : Int} {q : Nat} {x : Le} (h : L[q]? = some x) (hx : ¬ now < x.u) : (expM L now (q + 1)).eraseIdx q = expM L now q := by
  have hk := (List.getElem?_eq_some_iff.1 h).1
  have hl : (L.take q).length = q := by rw [List.length_take]; omega
  unfold expM
  rw [exp_drop h, keep_cons, if_neg hx, take_snoc h, List.append_assoc, List.eraseIdx_append_of_length_le (by omega), hl, Nat.sub_self]
  rfl
theorem exp_yes_len {L : List Le} {now : Int} {q : Nat} {x : Le} (h : L[q]? = some x) (hx : ¬ now < x.u) : (expM L now (q + 1)).length = (expM L now q).length + 1 := by
  have h1 := (List.getElem?_eq_some_iff.1 (exp_at (now := now) h)).1
  rw [← exp_yes h hx, List.length_eraseIdx, if_pos h1]
  omega
set_option maxRecDepth 100000 in
set_option maxHeartbeats 4000000 in
theorem lr_expire (b : Nat) (v : Value) (L : List Le) (nx now : Int) (w : World) (h : Lr w b v L nx) (hl : L.length ≤ 1000) :
    Calls Try.prog 18 #[.pointer (some ⟨b, 0, none⟩), .int .i64 now] w fun e w' => e = .returned (.int .i64 ((L.length : Int) - ((keep now L).length : Int))) ∧ StR b v (keep now L) nx w w' := by
  have c0 := h.c0
  obtain ⟨A, cp, rfl⟩ := h.shape
  have h0 : Hid (StR b (.slice A L.length cp) (expM L now L.length) nx w w) := Lib.hid (by
    have e : expM L now L.length = L := by unfold expM; rw [List.take_length, List.drop_length]; simp [keep]
    rw [e]
    exact StR.of_below h (Below.refl _ _))
  have HL := Lib.hid hl
  have wl : IntKind.i64.wrap ((L.length : Int) - 1) = (L.length : Int) - 1 := IntWalk.i64_in _ (by omega)
  clear h
  go_enter Try.func18, Try.ntmps18
  go_wp2
  clear c0
  go_loopw [5, 6] (fun s i wr => ∃ j : Nat, j ≤ L.length ∧ i = .int .i64 ((j : Int) - 1) ∧ s = .int .i64 ((L.length : Int) - ((expM L now j).length : Int)) ∧ StR b (.slice A L.length cp) (expM L now j) nx w wr) (fun _ i _ => (intOf i + 1).toNat)
  case atStart => exact ⟨L.length, Nat.le_refl _, rfl, by unfold expM; rw [List.take_length, List.drop_length]; simp [keep], h0.out⟩
  case round =>
    obtain ⟨j, hj, rfl, rfl, hst⟩ := hrel
    clear h0
    have HST := Lib.hid hst
    obtain ⟨v', H', hbt, hvo⟩ := hst
    by_cases hj0 : j = 0
    · subst hj0
      have t1 : decide ((0 : Int) ≤ ((0 : Nat) : Int) - 1) = false := by simp
      have HFE : Hid (expM L now 0 = keep now L) := Lib.hid (by unfold expM; simp)
      clear H' hbt hvo
      go_wp2
      go_ret
      go_light
      exact ⟨ret_int (by rw [HFE.out]), by rw [← HFE.out]; exact HST.out⟩
    · obtain ⟨q, rfl⟩ : ∃ q, j = q + 1 := ⟨j - 1, by omega⟩
      have ej : ((q + 1 : Nat) : Int) - 1 = (q : Int) := by omega
      rw [ej]
      obtain ⟨x, hx⟩ : ∃ x, L[q]? = some x := ⟨L[q]'(by omega), List.getElem?_eq_getElem _⟩
      have hxm := exp_at (now := now) hx
      obtain ⟨g, c, hv, hcp, hkl, r0, r1, r2, r3⟩ := lr_at_shape H' hxm
      have cc0 := H'.c0
      rw [hv] at cc0
      have HME := Lib.hid (expM_len L now (q + 1))
      have hLl : (L.length : Int) ≤ 1000 := by have := HL.out; omega
      have hqi : (q : Int) < ((expM L now (q + 1)).length : Int) := by omega
      have hmi : ((expM L now (q + 1)).length : Int) ≤ 1000 := by have := HME.out; omega
      have wq : IntKind.i64.wrap ((q : Int) - 1) = (q : Int) - 1 := IntWalk.i64_in _ (by have := HME.out; omega)
      have t1 : decide ((0 : Int) ≤ (q : Int)) = true := by simp
      have HNX := Lib.hid (And.intro hx hkl)
      have HS := Lib.hid H'
      have HV := Lib.hid hv
      obtain ⟨xi, xm, xc, xu⟩ := x
      have r3 : wr.cell? ⟨g, q * 4 + 3, none⟩ = some (.int .i64 xu) := r3
      by_cases hu : xu ≤ now
      · have tu : decide (xu ≤ now) = true := decide_eq_true hu
        have HDR := Lib.hid (lr_drop b g c (expM L now (q + 1)) nx q wr (hv ▸ H') (by have := HME.out; omega) hkl)
        have HE := Lib.hid (exp_yes (now := now) hx (by show ¬ now < xu; omega))
        have HE2 := Lib.hid (exp_yes_len (now := now) hx (by show ¬ now < xu; omega))
        have HW2 : Hid (IntKind.i64.wrap ((L.length : Int) - ((expM L now (q + 1)).length : Int) + 1) = (L.length : Int) - ((expM L now q).length : Int)) := Lib.hid ((IntWalk.i64_in _ (by omega)).trans (by have := HE2.out; omega))
        clear hx hxm hkl hcp hv r0 r1 r2 H' hbt hvo hu ej
        generalize hMM : expM L now (q + 1) = MM at *
        clear hMM
        go_wp2_with fail
        refine HDR.out.mono ?_; rintro e w2 ⟨rfl, hst2⟩
        rw [HE.out] at hst2
        have HREL : Hid (StR b (.slice A L.length cp) (expM L now q) nx w w2) := Lib.hid (HST.out.trans (fun v1 h1 => by
          have e1 : v1 = .slice (some ⟨g, 0, none⟩) MM.length c := by
            have a1 := h1.c0
            have a2 := HS.out.c0
            rw [a1] at a2
            injection a2 with a2
            rw [a2, HV.out]
          rw [e1]
          exact hst2))
        have hw2 := HW2.out
        clear hst2 cc0 r3
        go_wp2
        go_roundw
        case rel => exact ⟨q, by have := HNX.out.2; have := HME.out; omega, by first | rfl | rw [wq], by first | rfl | rw [hw2], HREL.out⟩
        case measure => simp [intOf] <;> omega
      · have tu : decide (xu ≤ now) = false := decide_eq_false hu
        have HE := Lib.hid (exp_no (now := now) hx (by show now < xu; omega))
        have HREL : Hid (StR b (.slice A L.length cp) (expM L now q) nx w wr) := Lib.hid (by rw [← HE.out]; exact HST.out)
        have HEL : Hid ((expM L now (q + 1)).length = (expM L now q).length) := Lib.hid (by rw [HE.out])
        clear hx hxm hkl hcp hv r0 r1 r2 H' hbt hvo hu ej
        generalize hMM : expM L now (q + 1) = MM at *
        clear hMM
        go_wp2
        go_roundw
        case rel => exact ⟨q, by have := HNX.out.2; have := HME.out; omega, by first | rfl | rw [wq], by rw [HEL.out], HREL.out⟩
        case measure => simp [intOf] <;> omega
set_option maxRecDepth 100000 in
set_option maxHeartbeats 4000000 in
theorem lr_floor (b : Nat) (v : Value) (L : List Le) (nx p q : Int) (w : World) (h : Lr w b v L nx) (hl : L.length ≤ 1000) :
    Calls Try.prog 22 #[.pointer (some ⟨b, 0, none⟩), .agg #[.int .i64 p, .int .i64 q]] w fun e w' => e = .returned (.agg #[.int .i64 (flo L (p, q)).1, .int .i64 (flo L (p, q)).2]) ∧ Below w.heap.size w w' := by
  have HB0 : Below w.heap.size w ((w.alloc (.cells #[.int .i64 p, .int .i64 q] 30)).alloc (.cells #[.int .i64 0, .int .i64 0] 30)) := by (repeat' (first | (with_reducible exact Below.refl _ _) | (with_reducible assumption) | (with_reducible refine Below.trans ?_ (Below.mono (by with_reducible assumption) ?_)) | (with_reducible refine Below.alloc ?_ ?_ _) | (with_reducible refine Below.setCell ?_ ?_ _) | (with_reducible refine below_drewN ?_ _) | (with_reducible refine Below.drew ?_) | go_size))
  have J0 := (Ints2.new w p q 30).alloc (.cells #[.int .i64 0, .int .i64 0] 30)
  have J1 := Ints2.new1 w (.cells #[.int .i64 p, .int .i64 q] 30) 0 0 30
  obtain ⟨A, cp, rfl⟩ := h.shape
  have HH := Lib.hid h
  have hN : (L.length : Int) ≤ 1000 := by omega
  generalize hn : L.length = n at *
  have HN := Lib.hid hn
  have hsh := Lib.hid fun (k : Nat) (x : Le) (hk : L[k]? = some x) (w' : World) (hb : Below w.heap.size w w') => lr_at_shape (HH.out.below hb) hk
  have hfin : flo (L.take n) (p, q) = flo L (p, q) := by rw [← HN.out, List.take_length]
  have HF := Lib.hid hfin
  have HJ0 := Lib.hid J0
  have HJ1 := Lib.hid J1
  have HBB := Lib.hid HB0
  clear h hn J0 J1 hfin hl HB0
  go_enter Try.func22, Try.ntmps22
  go_wp2
  go_loopw [5] (fun i wr => ∃ k : Nat, k ≤ n ∧ i = .int .i64 k ∧ FloRel L (p, q) w.heap.size k wr ∧ Ints2 wr (w.heap.size + 1) 0 0 ∧ Below w.heap.size w wr) (fun i _ => n - (intOf i).toNat)
  case atStart => exact ⟨0, Nat.zero_le _, rfl, ⟨p, q, rfl, HJ0.out⟩, HJ1.out, HBB.out⟩
  case round =>
    obtain ⟨k, hk, rfl, ⟨m, c, hf, K0⟩, K1, HB⟩ := hrel
    clear HBB HJ0 HJ1
    have c0 := (HH.out.below HB).c0
    have wk : IntKind.i64.wrap ((k : Int) + 1) = (k : Int) + 1 := IntWalk.i64_in _ (by omega)
    by_cases hlt : k < n
    · have tk : decide ((k : Int) < (n : Int)) = true := by simpa using hlt
      have lk : (k : Int) < (n : Int) := by omega
      obtain ⟨x, hx⟩ : ∃ x, L[k]? = some x := ⟨L[k]'(by rw [HN.out]; exact hlt), List.getElem?_eq_getElem _⟩
      obtain ⟨g, cp', hv, hcp, _, r0, r1, r2, r3⟩ := hsh.out k x hx wr HB
      have hft := flo_take hx (p, q)
      rw [hf] at hft
      simp only at hft
      injection hv with hv1 hv2 hv3
      subst hv1
      subst hv3
      obtain ⟨xi, xm, xc, xu⟩ := x
      have r1 : wr.cell? ⟨g, k * 4 + 1, none⟩ = some (.int .i64 xm) := r1
      have r2 : wr.cell? ⟨g, k * 4 + 1 + 1, none⟩ = some (.int .i64 xc) := r2
      have HR := Lib.hid (And.intro r1 r2)
      have HFT : Hid (flo (L.take (k + 1)) (p, q) = if cmp2 xm xc m c < 0 then (xm, xc) else (m, c)) := Lib.hid hft
      have HK0 := Lib.hid K0
      have HK1 := Lib.hid K1
      have HBR := Lib.hid HB
      have HC0 := Lib.hid c0
      have hcon := fun W => ref10_compare xm xc m c W
      have kc := fun d os => cell_regrown c0 d os
      have k1 := fun d os => cell_regrown r1 d os
      have k2 := fun d os => cell_regrown r2 d os
      have k3 := fun d os => cell_regrown K0.c0 d os
      have k4 := fun d os => cell_regrown K0.c1 d os
      by_cases hc : cmp2 xm xc m c < 0
      · have t1 : decide (cmp2 xm xc m c < 0) = true := decide_eq_true hc
        rw [if_pos hc] at HFT
        generalize cmp2 xm xc m c = Q at *
        have AC := Lib.hid fun (d' : Nat) (os : Array Obj) => Calls.regrown_of (hcon (grow (redrawn wr d') os))
        clear hcon hc hx hk r0 r1 r2 r3 hft hf hv2 K0 K1 HB
        go_wp2_with fail
        clear c0
        refine wp_region_quiet_below (by kernel_rfl) (by kernel_rfl) ?_
        repeat (go_big_quiet_step ((go_at_call 25; exact AC.out _ _)))
        refine wpQuiet_nil ?_
        intro _ hw'
        obtain ⟨⟨dq, osq⟩, hw''⟩ := hw'
        subst hw''
        have hq := below_regrown wr dq osq
        have HB9 := Lib.hid (HBR.out.trans (hq.mono HBR.out.size))
        have c0 := kc dq osq
        have r1 := k1 dq osq
        have r2 := k2 dq osq
        have K0 := HK0.out.below hq HK0.out.lt
        have K1 := Lib.hid (HK1.out.below hq HK1.out.lt)
        clear hq kc k1 k2 k3 k4 AC
        generalize hgw : grow (redrawn wr dq) osq = W9 at *
        clear hgw
        have HR : Hid (FloRel L (p, q) w.heap.size (k + 1) ((W9.setCell ⟨w.heap.size, 0, none⟩ (.int .i64 xm)).setCell ⟨w.heap.size, 1, none⟩ (.int .i64 xc))) := ⟨xm, xc, HFT.out, (K0.set0 xm).set1 xc⟩
        have HK1' := Lib.hid ((K1.out.other (p := ⟨w.heap.size, 0, none⟩) (by simp) (.int .i64 xm)).other (p := ⟨w.heap.size, 1, none⟩) (by simp) (.int .i64 xc))
        have HBx := Lib.hid ((HB9.out.setCell (p := ⟨w.heap.size, 0, none⟩) (by simp) (.int .i64 xm)).setCell (p := ⟨w.heap.size, 1, none⟩) (by simp) (.int .i64 xc))
        obtain ⟨u0, u1, f0, f1, _⟩ := K0
        go_wp2
        go_roundw
        case rel => exact ⟨k + 1, by omega, by go_num, HR.out, HK1'.out, HBx.out⟩
        case measure => simp [intOf]; omega
      · have t1 : decide (cmp2 xm xc m c < 0) = false := decide_eq_false hc
        rw [if_neg hc] at HFT
        generalize cmp2 xm xc m c = Q at *
        have AC := Lib.hid fun (d' : Nat) (os : Array Obj) => Calls.regrown_of (hcon (grow (redrawn wr d') os))
        clear hcon hc hx hk r0 r1 r2 r3 hft hf hv2 K0 K1 HB
        go_wp2_with fail
        clear c0
        refine wp_region_quiet_below (by kernel_rfl) (by kernel_rfl) ?_
        repeat (go_big_quiet_step ((go_at_call 25; exact AC.out _ _)))
        refine wpQuiet_nil ?_
        intro _ hw'
        obtain ⟨⟨dq, osq⟩, hw''⟩ := hw'
        subst hw''
        have hq := below_regrown wr dq osq
        have HB9 := Lib.hid (HBR.out.trans (hq.mono HBR.out.size))
        have HK0' := Lib.hid (HK0.out.below hq HK0.out.lt)
        have HK1' := Lib.hid (HK1.out.below hq HK1.out.lt)
        clear hq kc k1 k2 k3 k4 AC
        generalize hgw : grow (redrawn wr dq) osq = W9 at *
        clear hgw
        go_wp2
        go_roundw
        case rel => exact ⟨k + 1, by omega, by go_num, ⟨m, c, HFT.out, HK0'.out⟩, HK1'.out, HB9.out⟩
        case measure => simp [intOf]; omega
    · obtain rfl : k = n := by omega
      have tk : decide ((k : Int) < (k : Int)) = false := by simp
      rw [HF.out] at hf
      have hQ : (flo L (p, q)).1 = m ∧ (flo L (p, q)).2 = c := by rw [hf]; exact ⟨rfl, rfl⟩
      have HQ := Lib.hid hQ
      have R0 := (K1.set0 m).c0
      have R1 := ((K1.set0 m).set1 c).c1
      obtain ⟨x0, x1, e0, e1, lt0⟩ := K0
      obtain ⟨u0, u1, f0, f1, lt1⟩ := K1
      clear hf hQ
      go_wp2
      refine bodyPost_ret (v := .agg #[.int .i64 m, .int .i64 c]) (by simp [results, Try.results22, go_sem, R0, R1]) rfl ⟨?_, ?_⟩
      · rw [HQ.out.1, HQ.out.2]
      · go_light
        (repeat' (first | (with_reducible exact Below.refl _ _) | (with_reducible assumption) | (with_reducible refine Below.trans ?_ (Below.mono (by with_reducible assumption) ?_)) | (with_reducible refine Below.alloc ?_ ?_ _) | (with_reducible refine Below.setCell ?_ ?_ _) | (with_reducible refine below_drewN ?_ _) | (with_reducible refine Below.drew ?_) | go_size))
end Go.Proofs.Ytacchkokbibeaaa
