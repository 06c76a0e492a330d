/- slices.DeleteFunc of leases whose time is over; Expire. -/
import Derived.Test.YtacchkokbibeaaaLsExp
set_option linter.unusedSimpArgs false
set_option linter.unusedVariables false
namespace Go.Proofs.Ytacchkokbibeaaa
open Go.RowKit

/-- Cells written into a row: another row. -/
theorem row_write {w : World} {g cap n m : Nat} {L Mw : List Le} {us : List Value} {o : Nat} (h : w.ownsRow 0 65 4 (.slice (some ⟨g, 0, none⟩) n cap) n (flat L)) (hM : (flat Mw).length = m * 4) (hm : m ≤ n) (hus : o + us.length ≤ n * 4)
    (hin : ∀ j, j < m * 4 → o ≤ j → j < o + us.length → (flat Mw)[j]? = us[j - o]?) (hout : ∀ j, j < m * 4 → (j < o ∨ o + us.length ≤ j) → (flat Mw)[j]? = (flat L)[j]?) :
    (w.setCells g o us).ownsRow 0 65 4 (.slice (some ⟨g, 0, none⟩) m cap) m (flat Mw) := by
  obtain ⟨cur, hg, hcs, hn, hmx, hxs⟩ := row_block h
  obtain ⟨cur2, hg2, hc2⟩ := heap_setCells us o w cur hg
  refine row_of_cells hg2 (by rw [hc2, hcs]) (by omega) hmx hM (fun j u hu => ?_)
  have hj : j < m * 4 := by rw [← hM]; exact (List.getElem?_eq_some_iff.1 hu).1
  have hle : n * 4 ≤ cap * 4 := Nat.mul_le_mul_right _ hn
  by_cases hr : o ≤ j ∧ j < o + us.length
  · have := World.cell?_setCells_in g us o w (fun t ht => (row_there hg hcs (by omega)).1) (j - o) (by omega)
    rw [show o + (j - o) = j from by omega] at this
    rw [this]
    have h1 := hin j hj hr.1 hr.2
    rw [hu, List.getElem?_eq_getElem (by omega)] at h1
    exact h1.symm
  · rw [World.cell?_setCells_out g us o w ⟨g, j, none⟩ (fun _ _ => by simp only; omega)]
    have h1 := hout j hj (by omega)
    rw [hu] at h1
    exact row_cell h h1.symm
theorem set_flat (L : List Le) (i : Nat) (x : Le) (hi : i < L.length) : L.set i x = L.take i ++ [x] ++ L.drop (i + 1) := by
  rw [List.set_eq_take_append_cons_drop, if_pos hi]; simp
theorem row_set {w : World} {g cap : Nat} {L : List Le} {i : Nat} {x : Le} (h : w.ownsRow 0 65 4 (.slice (some ⟨g, 0, none⟩) L.length cap) L.length (flat L)) (hi : i < L.length) :
    (w.setCells g (i * 4) x.cs).ownsRow 0 65 4 (.slice (some ⟨g, 0, none⟩) L.length cap) L.length (flat (L.set i x)) := by
  have e := set_flat L i x hi
  have ht : (flat (L.take i)).length = i * 4 := by rw [flat_len, List.length_take]; omega
  have hc : x.cs.length = 4 := rfl
  refine row_write h (by rw [flat_len, List.length_set]) (Nat.le_refl _) (by rw [hc]; omega) (fun j _ h1 h2 => ?_) (fun j _ h1 => ?_)
  · rw [hc] at h2
    rw [e, flat_append, flat_append, flat_one, List.append_assoc, List.getElem?_append_right (by omega), ht, List.getElem?_append_left (by rw [hc]; omega)]
  · rw [hc] at h1
    rw [e, flat_append, flat_append, flat_one, List.append_assoc]
    by_cases hj : j < i * 4
    · rw [List.getElem?_append_left (by omega), ← flat_take, List.getElem?_take_of_lt hj]
    · rw [List.getElem?_append_right (by omega), ht, List.getElem?_append_right (by rw [hc]; omega), hc, ← flat_drop, List.getElem?_drop]
      congr 1
      omega
theorem row_cut {w : World} {g cap n : Nat} {L : List Le} {i : Nat} (us : List Value) (h : w.ownsRow 0 65 4 (.slice (some ⟨g, 0, none⟩) n cap) n (flat L)) (hl : L.length = n) (hi : i ≤ n) (hus : i * 4 + us.length ≤ n * 4) :
    (w.setCells g (i * 4) us).ownsRow 0 65 4 (.slice (some ⟨g, 0, none⟩) i cap) i (flat (L.take i)) := by
  refine row_write h (by rw [flat_len, List.length_take]; omega) hi hus (fun j h0 h1 h2 => by omega) (fun j h0 h1 => ?_)
  rw [← flat_take, List.getElem?_take_of_lt h0]
/-- What the loop of DeleteFunc keeps: the row, as it is written over. -/
structure DelRel (L : List Le) (now : Int) (g cap : Nat) (j i : Nat) (w wr : World) : Prop where
  ex : ∃ Mw : List Le, Mw.length = L.length ∧ wr.ownsRow 0 65 4 (.slice (some ⟨g, 0, none⟩) L.length cap) L.length (flat Mw) ∧ Mw.take i = keep now (L.take j) ∧ Mw.drop j = L.drop j
  ij : i < j
  only : Only g w wr
def DelPost (L : List Le) (now : Int) (v : Value) (w : World) (e : Ending) (w' : World) : Prop :=
  ∃ v', e = .returned v' ∧ v'.ownBlock = v.ownBlock ∧ w'.ownsRow 0 65 4 v' (keep now L).length (flat (keep now L)) ∧ But (fun k => v.ownBlock = some k) w w'
theorem clear_run (g cap n i : Nat) (w : World) (hi : i < n) (hn : n ≤ cap) {xs : List Value} (h : w.ownsRow 0 65 4 (.slice (some ⟨g, 0, none⟩) n cap) n xs) :
    ∃ us : List Value, us.length = (n - i) * 4 ∧ ∀ ty, (Builtin.clear_ #[58] ty #[.slice (some ⟨g, i * 4, none⟩) (n - i) (cap - i)]).run Try.prog w = .ok (.tuple #[]) (w.setCells g (i * 4) us) := by
  obtain ⟨cur, hg, hcs, _, _, _⟩ := row_block h
  have hle : n * 4 ≤ cap * 4 := Nat.mul_le_mul_right _ hn
  have hul : (Builtin.zeroCells (Value.agg #[.int .i64 0, .int .i64 0, .int .i64 0, .int .i64 0]).cells (n - i)).toList.length = (n - i) * 4 := by rw [Array.length_toList, size_zeroCells]; rfl
  refine ⟨_, hul, fun ty => ?_⟩
  have hv : (zeroValue 65).run Try.prog w = .ok (.agg #[.int .i64 0, .int .i64 0, .int .i64 0, .int .i64 0]) w := by kernel_rfl
  have hst := run_storeCells_cells (P := Try.prog) g (i * 4) (Builtin.zeroCells (Value.agg #[.int .i64 0, .int .i64 0, .int .i64 0, .int .i64 0]).cells (n - i)).toList 0 w (fun j hj => (row_there hg hcs (by rw [hul] at hj; omega)).1) (fun j hj => (row_there hg hcs (by rw [hul] at hj; omega)).2) (by
    intro v hv'
    simp only [Builtin.zeroCells, Array.toList_map, List.mem_map] at hv'
    obtain ⟨a, _, rfl⟩ := hv'
    show Value.oneCell' ((#[.int .i64 0, .int .i64 0, .int .i64 0, .int .i64 0] : Array Value)[a % 4]!) = true
    rcases (show a % 4 = 0 ∨ a % 4 = 1 ∨ a % 4 = 2 ∨ a % 4 = 3 from by omega) with e | e | e | e <;> rw [e] <;> rfl)
  simp only [Nat.add_zero] at hst
  obtain ⟨q, hq⟩ : ∃ q, n - i = q + 1 := ⟨n - i - 1, by omega⟩
  rw [hq] at hst ⊢
  simp [Builtin.clear_, run_underlying Try.underlying58, hv, hst]
set_option maxRecDepth 100000 in
set_option maxHeartbeats 8000000 in
theorem delete_f (L : List Le) (v : Value) (now : Int) (nb : Nat) (w : World) (h : w.ownsRow 0 65 4 v L.length (flat L)) (hl : L.length ≤ 1000) (hc : w.cell? ⟨nb, 0, none⟩ = some (.int .i64 now)) (lt : nb < w.heap.size) (hnb : v.ownBlock ≠ some nb) :
    Calls Try.prog 32 #[v, .func (.func 33) #[] #[.pointer (some ⟨nb, 0, none⟩)]] w (DelPost L now v w) := by
  have HI := Lib.hid (index_f L v now nb w h hl hc lt)
  have HH := Lib.hid h
  have HC := Lib.hid hc
  have HNB := Lib.hid hnb
  clear h hc hnb
  go_enter Try.func32, Try.ntmps32
  go_wp2_with fail
  refine HI.out.mono ?_; rintro e w1 ⟨r, rfl, ha, hb1⟩
  have HB1 := hb1
  have HH1 := Lib.hid ((But.of_below (S := fun _ => False) hb1).row HH.out (fun _ _ hf => hf))
  have hc1 := (hb1.cell (p := ⟨nb, 0, none⟩) lt).trans HC.out
  rcases ha with ⟨rfl, hall⟩ | ⟨k0, rfl, hk0, hlo, hat⟩
  · have hk := Lib.hid (keep_all hall)
    clear hall hb1 hc1
    go_wp2
    go_ret
    go_light
    exact ⟨v, rfl, rfl, by rw [hk.out]; exact HH1.out, But.of_below HB1⟩
  · obtain ⟨g, cap, rfl, hnc, hcm, hgl⟩ := row_shape HH1.out (by omega)
    have hne : nb ≠ g := fun e => HNB.out (by simp [Value.ownBlock, e])
    have hkt : keep now (L.take k0) = L.take k0 := keep_all (fun j x hx => by
      rw [List.getElem?_take] at hx
      split at hx
      · exact hlo j x (by assumption) hx
      · cases hx)
    obtain ⟨x0, hx0⟩ : ∃ x, L[k0]? = some x := ⟨L[k0]'hk0, List.getElem?_eq_getElem _⟩
    have hk1 : keep now (L.take (k0 + 1)) = L.take k0 := by rw [keep_no hx0 (by have := hat x0 hx0; omega), hkt]
    have R0 : Hid (DelRel L now g cap (k0 + 1) k0 w1 w1) := ⟨⟨L, rfl, HH1.out, hk1.symm, rfl⟩, by omega, Only.refl _ _⟩
    have q1 : ((k0 : Int) == -1) = false := by simp; try omega
    have hl' : (L.length : Int) ≤ 1000 := by omega
    have HL := Lib.hid hl
    have hkc : (L.length : Int) ≤ (cap : Int) := by omega
    have HNC := Lib.hid hnc
    have H1 := Lib.hid HB1
    have lt1 := Nat.lt_of_lt_of_le lt HB1.size
    have HCC := Lib.hid hc1
    clear hlo hat hkt hk1 hx0 hb1 hc1 hl HB1
    generalize hn : L.length = n at *
    have HN := Lib.hid hn
    clear hn
    go_wp2_with fail
    go_loopw [5, 6] (fun i j wr => ∃ ki kj : Nat, i = .int .i64 ki ∧ j = .int .i64 kj ∧ kj ≤ n ∧ DelRel L now g cap kj ki w1 wr) (fun _ j _ => n - (intOf j).toNat)
    case atStart => exact ⟨k0, k0 + 1, rfl, by go_num, by omega, R0.out⟩
    case round =>
      obtain ⟨ki, kj, rfl, rfl, hkj, ⟨Mw, hMl, hrow, hMt, hMd⟩, hij, ho⟩ := hrel
      clear R0
      have HO := Lib.hid ho
      rw [HN.out] at hMl
      have HRow := Lib.hid hrow
      have HML := Lib.hid hMl
      have HMT := Lib.hid hMt
      have HMD := Lib.hid hMd
      have hcw := (ho.cell nb 0 lt1 hne).trans HCC.out
      have ltw := Nat.lt_of_lt_of_le lt1 ho.size
      have hgw : g < wr.heap.size := (hrow.lt g rfl).2
      by_cases hlt : kj < n
      · obtain ⟨x, hx⟩ : ∃ x, L[kj]? = some x := ⟨L[kj]'(by rw [HN.out]; exact hlt), List.getElem?_eq_getElem _⟩
        have hMx : Mw[kj]? = some x := by
          have h1 : (Mw.drop kj)[0]? = (L.drop kj)[0]? := by rw [hMd]
          simpa [List.getElem?_drop, hx] using h1
        have r0 := row_cell hrow (flat_at hMx 0 (by omega))
        have r1 := row_cell hrow (flat_at hMx 1 (by omega))
        have r2 := row_cell hrow (flat_at hMx 2 (by omega))
        have r3 := row_cell hrow (flat_at hMx 3 (by omega))
        have HX := Lib.hid hx
        have HMX := Lib.hid hMx
        clear hx hMx hrow hMl hMt hMd ho
        obtain ⟨xi, xm, xc, xu⟩ := x
        have r0 : wr.cell? ⟨g, kj * 4, none⟩ = some (.int .i64 xi) := r0
        have r1 : wr.cell? ⟨g, kj * 4 + 1, none⟩ = some (.int .i64 xm) := r1
        have r2 : wr.cell? ⟨g, kj * 4 + 2, none⟩ = some (.int .i64 xc) := r2
        have r3 : wr.cell? ⟨g, kj * 4 + 3, none⟩ = some (.int .i64 xu) := r3
        have BX : Below wr.heap.size wr (wr.alloc (.cells #[.int .i64 xi, .int .i64 xm, .int .i64 xc, .int .i64 xu] 65)) := by (repeat' (first | (with_reducible exact Below.refl _ _) | (with_reducible assumption) | (with_reducible refine Below.trans ?_ (Below.mono (by with_reducible assumption) ?_)) | (with_reducible refine Below.alloc ?_ ?_ _) | (with_reducible refine Below.setCell ?_ ?_ _) | (with_reducible refine below_drewN ?_ _) | (with_reducible refine Below.drew ?_) | go_size))
        have hcx := (BX.cell (p := ⟨nb, 0, none⟩) ltw).trans hcw
        by_cases hu : xu ≤ now
        · have HE := Lib.hid (expire_c xi xm xc xu now nb _ hcx (Nat.lt_of_lt_of_le ltw BX.size) true (decide_eq_true hu))
          clear hcw hcx
          go_wp2_with fail
          refine HE.out.mono ?_; rintro e w2 ⟨rfl, hb2⟩
          have HR2 : Hid (DelRel L now g cap (kj + 1) ki w1 w2) := ⟨⟨Mw, by rw [HML.out, HN.out], (But.of_below (S := fun _ => False) (BX.trans (hb2.mono BX.size))).row HRow.out (fun _ _ hf => hf), by rw [keep_no HX.out (by show ¬ now < xu; omega)]; exact HMT.out, by have := HMD.out; rw [← List.drop_drop, ← List.drop_drop, this]⟩, by omega, HO.out.trans (Only.of_below (BX.trans (hb2.mono BX.size)))⟩
          clear hb2 r0 r1 r2 r3 BX
          go_wp2
          go_roundw
          case rel => exact ⟨ki, kj + 1, rfl, by go_num, by omega, HR2.out⟩
          case measure => simp [intOf]; omega
        · have HE := Lib.hid (expire_c xi xm xc xu now nb _ hcx (Nat.lt_of_lt_of_le ltw BX.size) false (decide_eq_false hu))
          clear hcw hcx
          go_wp2_with fail
          refine HE.out.mono ?_; rintro e w2 ⟨rfl, hb2⟩
          have B2 := BX.trans (hb2.mono BX.size)
          have hr2 : w2.ownsRow 0 65 4 (.slice (some ⟨g, 0, none⟩) Mw.length cap) Mw.length (flat Mw) := (But.of_below (S := fun _ => False) B2).row (by rw [HML.out, ← HN.out]; exact HRow.out) (fun _ _ hf => hf)
          have y0 : w2.cell? ⟨wr.heap.size, 0, none⟩ = some (.int .i64 xi) := (hb2.cell (p := ⟨wr.heap.size, 0, none⟩) (by simp)).trans (by simp [go_sem])
          have y1 : w2.cell? ⟨wr.heap.size, 1, none⟩ = some (.int .i64 xm) := (hb2.cell (p := ⟨wr.heap.size, 1, none⟩) (by simp)).trans (by simp [go_sem])
          have y2 : w2.cell? ⟨wr.heap.size, 2, none⟩ = some (.int .i64 xc) := (hb2.cell (p := ⟨wr.heap.size, 2, none⟩) (by simp)).trans (by simp [go_sem])
          have y3 : w2.cell? ⟨wr.heap.size, 3, none⟩ = some (.int .i64 xu) := (hb2.cell (p := ⟨wr.heap.size, 3, none⟩) (by simp)).trans (by simp [go_sem])
          obtain ⟨z, hz⟩ : ∃ z, Mw[ki]? = some z := ⟨Mw[ki]'(by rw [HML.out]; omega), List.getElem?_eq_getElem _⟩
          have u0 := row_cell hr2 (flat_at hz 0 (by omega))
          have u1 := row_cell hr2 (flat_at hz 1 (by omega))
          have u2 := row_cell hr2 (flat_at hz 2 (by omega))
          have u3 := row_cell hr2 (flat_at hz 3 (by omega))
          have u0 : w2.cell? ⟨g, ki * 4, none⟩ = some (.int .i64 z.id) := u0
          have u1 : w2.cell? ⟨g, ki * 4 + 1, none⟩ = some (.int .i64 z.m) := u1
          have u2 : w2.cell? ⟨g, ki * 4 + 2, none⟩ = some (.int .i64 z.c) := u2
          have u3 : w2.cell? ⟨g, ki * 4 + 3, none⟩ = some (.int .i64 z.u) := u3
          have fz := row_frozen hr2
          have f0 := fz (ki * 4)
          have f1 := fz (ki * 4 + 1)
          have f2 := fz (ki * 4 + 2)
          have f3 := fz (ki * 4 + 3)
          have hki : ki < Mw.length := by rw [HML.out]; omega
          have HR2 : Hid (DelRel L now g cap (kj + 1) (ki + 1) w1 (w2.setCells g (ki * 4) (Le.cs ⟨xi, xm, xc, xu⟩))) := by
            refine ⟨⟨Mw.set ki ⟨xi, xm, xc, xu⟩, by rw [List.length_set, HML.out, HN.out], ?_, ?_, ?_⟩, by omega, only_setCells g _ _ _ (HO.out.trans (Only.of_below B2))⟩
            · have := row_set (x := ⟨xi, xm, xc, xu⟩) hr2 hki
              rw [HN.out, ← HML.out]; exact this
            · rw [keep_yes HX.out (by show now < xu; omega), ← HMT.out, set_flat Mw ki _ hki, List.take_append_of_le_length (by simp; omega), List.take_of_length_le (by simp; omega)]
            · rw [List.drop_set_of_lt (by omega)]
              have := HMD.out
              rw [← List.drop_drop, ← List.drop_drop, this]
          clear hb2 r0 r1 r2 r3 BX B2 hr2 fz hz
          go_wp2
          go_roundw
          case rel => exact ⟨ki + 1, kj + 1, by go_num, by go_num, by omega, HR2.out⟩
          case measure => simp [intOf]; omega
      · obtain rfl : kj = n := by omega
        have hki : ki < kj := hij
        rw [HN.out] at hrow
        obtain ⟨us, hul, hcl⟩ := clear_run g cap kj ki wr hki HNC.out hrow
        have hcut := row_cut (i := ki) us hrow hMl (by omega) (by rw [hul]; omega)
        have hlk : Mw.take ki = keep now L := by rw [hMt, show L.take kj = L from by rw [← HN.out, List.take_length]]
        have hki2 : (keep now L).length = ki := by rw [← hlk, List.length_take, hMl]; omega
        have HF : Hid (DelPost L now (.slice (some ⟨g, 0, none⟩) kj cap) w (.returned (.slice (some ⟨g, 0, none⟩) ki cap)) (wr.setCells g (ki * 4) us)) := by
          refine ⟨_, rfl, rfl, ?_, ?_⟩
          · rw [hki2, ← hlk]; exact hcut
          · exact ((But.of_below (S := fun k => (Value.slice (some ⟨g, 0, none⟩) kj cap).ownBlock = some k) H1.out).trans (But.of_only (S := fun k => (Value.slice (some ⟨g, 0, none⟩) kj cap).ownBlock = some k) ho rfl) (fun _ _ h => h)).trans (But.of_only (S := fun k => (Value.slice (some ⟨g, 0, none⟩) kj cap).ownBlock = some k) (only_setCells g us _ _ (Only.refl g wr)) rfl) (fun _ _ h => h)
        have q2 : (0 : Int) ≤ (ki : Int) := by omega
        have q3 : (ki : Int) ≤ (kj : Int) := by omega
        have q4 : ¬ cap = ki := by have := HNC.out; omega
        have HCL := Lib.hid hcl
        clear hcut hlk hki2 hul hMt hMd hrow ho hcl hMl
        have hcl := HCL.out
        go_wp2
        go_ret
        go_light
        exact HF.out
def ExpRel (b : Nat) (v : Value) (L : List Le) (nx now : Int) (w w' : World) : Prop := ∃ v', Ls w' b v' (keep now L) nx ∧ But (Foot b v) w w' ∧ v'.ownBlock = v.ownBlock
set_option maxRecDepth 100000 in
set_option maxHeartbeats 4000000 in
theorem ls_expire (b : Nat) (v : Value) (L : List Le) (nx now : Int) (w : World) (h : Ls w b v L nx) (hl : L.length ≤ 1000) :
    Calls Try.prog 17 #[.pointer (some ⟨b, 0, none⟩), .int .i64 now] w fun e w' => e = .returned (.int .i64 ((L.length : Int) - ((keep now L).length : Int))) ∧ ExpRel b v L nx now w w' := by
  have HB0 : Below w.heap.size w (w.alloc (.cells #[.int .i64 now] 3)) := by (repeat' (first | (with_reducible exact Below.refl _ _) | (with_reducible assumption) | (with_reducible refine Below.trans ?_ (Below.mono (by with_reducible assumption) ?_)) | (with_reducible refine Below.alloc ?_ ?_ _) | (with_reducible refine Below.setCell ?_ ?_ _) | (with_reducible refine below_drewN ?_ _) | (with_reducible refine Below.drew ?_) | go_size))
  have H1 := h.below HB0
  have hlt := fun k hk => (h.row.lt k hk).2
  have HD := Lib.hid (delete_f L v now w.heap.size _ H1.row hl (by simp) (by simp) (fun e => by have := hlt _ e; omega))
  have HH := Lib.hid h
  have HH1 := Lib.hid H1
  have hlen := (keep_sub now L).length_le
  obtain ⟨A, cp, rfl⟩ := h.shape
  have c0 := H1.c0
  have c0' := h.c0
  have lb := h.lt
  have lb1 : b < w.heap.size + 1 := by omega
  have w1' : IntKind.i64.wrap ((L.length : Int) - ((keep now L).length : Int)) = (L.length : Int) - ((keep now L).length : Int) := IntWalk.i64_in _ (by omega)
  clear h H1 hl hlt hlen
  go_enter Try.func17, Try.ntmps17
  go_wp2_with fail
  refine HD.out.mono ?_; rintro e w2 ⟨v', rfl, hvo, hrow, hbt⟩
  have hnb : ¬ (fun k => (Value.slice A L.length cp).ownBlock = some k) b := HH.out.ne
  have x0 := (hbt.cell b 0 HH1.out.lt hnb).trans HH1.out.c0
  have x1 := (hbt.cell b 1 HH1.out.lt hnb).trans HH1.out.c1
  have y0 := (hbt.frozen b 0 HH1.out.lt hnb).trans HH1.out.f0
  have y1 := (hbt.frozen b 1 HH1.out.lt hnb).trans HH1.out.f1
  have l2 := Nat.lt_of_lt_of_le HH1.out.lt hbt.size
  have z0 := World.cell?_setCell_same w2 ⟨b, 0, none⟩ v' x0
  have hnv : v'.ownBlock ≠ some b := fun e => HH.out.ne (by rw [← hvo]; exact e)
  have HR : Hid (ExpRel b (.slice A L.length cp) L nx now w (w2.setCell ⟨b, 0, none⟩ v')) := by
    refine ⟨v', ⟨z0, (World.cell?_setCell_other _ _ _ _ (by simp)).trans x1, by simpa using y0, by simpa using y1, by simpa [World.setCell] using l2, (But.of_only (S := fun k => k = b) ((Only.refl b w2).setB _) rfl).row hrow (fun i hi e => hnv (e ▸ hi)), hnv⟩, ?_, hvo⟩
    exact (((But.refl (Foot b (.slice A L.length cp)) w).alloc _).trans hbt (fun k _ hk => .inr hk)).setCell (fun _ => .inl rfl) _
  have hsh : ∃ A' c', v' = .slice A' (keep now L).length c' := by
    rcases hrow.2 with ⟨e, h0⟩ | ⟨g, cap, cur, e, _⟩
    · exact ⟨none, 0, by rw [e, h0]⟩
    · exact ⟨_, _, e⟩
  obtain ⟨A', c', rfl⟩ := hsh
  have Z0 := Lib.hid z0
  have W1 := Lib.hid w1'
  clear hvo hrow hbt x1 y1 hnv z0 w1' c0 c0'
  have z0 := Z0.out
  have w1' := W1.out
  go_wp2
  go_ret
  go_light
  exact ⟨rfl, HR.out⟩
end Go.Proofs.Ytacchkokbibeaaa
