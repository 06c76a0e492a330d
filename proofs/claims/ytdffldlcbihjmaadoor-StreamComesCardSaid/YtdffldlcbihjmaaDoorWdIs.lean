/- wire.isStamp, isRow, isWord: whether a word is one. -/
import Derived.Test.YtdffldlcbihjmaaDoorWdM
import Derived.Test.YtdffldlcbihjmaaDoorRecordsR
import Derived.Test.YtdffldlcbihjmaaDoorRecIs
import Derived.BigGuard
import Derived.BigGuardPart
import Derived.BigCall
set_option linter.unusedSimpArgs false
set_option linter.unusedVariables false
namespace Go.Proofs.YtdffldlcbihjmaaDoor
open Go.RowKit Go.Sort

abbrev wdV (k o s m1 c1 m2 c2 : Int) (v : Value) : Value := .agg #[.int .i64 k, .int .i64 o, .int .i64 s, .int .i64 m1, .int .i64 c1, .int .i64 m2, .int .i64 c2, v]
abbrev wdC (k o s m1 c1 m2 c2 : Int) (v : Value) : Array Value := #[.int .i64 k, .int .i64 o, .int .i64 s, .int .i64 m1, .int .i64 c1, .int .i64 m2, .int .i64 c2, v]
/-- A word in a block. -/
structure Wd8 (W : World) (B : Nat) (k o s m1 c1 m2 c2 : Int) (v : Value) : Prop where
  d0 : W.cell? ⟨B, 0, none⟩ = some (.int .i64 k)
  d1 : W.cell? ⟨B, 1, none⟩ = some (.int .i64 o)
  d2 : W.cell? ⟨B, 2, none⟩ = some (.int .i64 s)
  d3 : W.cell? ⟨B, 3, none⟩ = some (.int .i64 m1)
  d4 : W.cell? ⟨B, 4, none⟩ = some (.int .i64 c1)
  d5 : W.cell? ⟨B, 5, none⟩ = some (.int .i64 m2)
  d6 : W.cell? ⟨B, 6, none⟩ = some (.int .i64 c2)
  d7 : W.cell? ⟨B, 7, none⟩ = some v
  lt : B < W.heap.size
section
variable {W W' : World} {B : Nat} {k o s m1 c1 m2 c2 : Int} {v : Value}
theorem Wd8.but {S : Nat → Prop} (h : Wd8 W B k o s m1 c1 m2 c2 v) (q : But S W W') (hs : ¬ S B) : Wd8 W' B k o s m1 c1 m2 c2 v :=
  ⟨(q.cell B 0 h.lt hs).trans h.d0, (q.cell B 1 h.lt hs).trans h.d1, (q.cell B 2 h.lt hs).trans h.d2, (q.cell B 3 h.lt hs).trans h.d3, (q.cell B 4 h.lt hs).trans h.d4, (q.cell B 5 h.lt hs).trans h.d5, (q.cell B 6 h.lt hs).trans h.d6, (q.cell B 7 h.lt hs).trans h.d7, Nat.lt_of_lt_of_le h.lt q.size⟩
theorem Wd8.below (h : Wd8 W B k o s m1 c1 m2 c2 v) (q : Below W.heap.size W W') : Wd8 W' B k o s m1 c1 m2 c2 v := h.but (S := fun _ => False) (But.of_below q) (fun hf => hf)
theorem Wd8.new (W : World) (t : TypeId) (k o s m1 c1 m2 c2 : Int) (v : Value) : Wd8 (W.alloc (.cells (wdC k o s m1 c1 m2 c2 v) t)) W.heap.size k o s m1 c1 m2 c2 v := by constructor <;> simp
end
theorem wd_stamp (m c : Int) (w : World) : Calls Tryd.prog 79 #[.agg #[.int .i64 m, .int .i64 c]] w fun e w' => e = .returned (.bool (isStampB m c)) ∧ Below w.heap.size w w' := by
  have HB0 : Hid (Below w.heap.size w (w.alloc (.cells #[.int .i64 m, .int .i64 c] 23))) := Lib.hid (by (repeat' (first | (with_reducible exact Below.refl _ _) | (with_reducible assumption) | (with_reducible refine Below.trans ?_ (Below.mono (by with_reducible assumption) ?_)) | (with_reducible refine Below.alloc ?_ ?_ _) | (with_reducible refine Below.setCell ?_ ?_ _) | (with_reducible refine below_drewN ?_ _) | (with_reducible refine Below.drew ?_) | go_size)))
  cases h : isStampB m c
  · have HP := Lib.hid (hlc_pack_no m c (w.alloc (.cells #[.int .i64 m, .int .i64 c] 23)) h)
    clear h
    go_enter Tryd.func79, Tryd.ntmps79
    go_wp2_with fail
    refine HP.out.mono ?_; rintro e w1 ⟨rfl, k1⟩
    have HB1 := Lib.hid (HB0.out.trans (k1.mono HB0.out.size))
    clear k1 HP
    go_wp2
    go_ret
    exact ⟨rfl, HB1.out⟩
  · have HP := Lib.hid (hlc_pack_yes m c (w.alloc (.cells #[.int .i64 m, .int .i64 c] 23)) h)
    clear h
    go_enter Tryd.func79, Tryd.ntmps79
    go_wp2_with fail
    refine HP.out.mono ?_; rintro e w1 ⟨rfl, k1⟩
    have HB1 := Lib.hid (HB0.out.trans (k1.mono HB0.out.size))
    clear k1 HP
    go_wp2
    go_ret
    exact ⟨rfl, HB1.out⟩
theorem rowB_bad {o s : Int} {r : Rc} {t : List Rc} (h : ¬ (okR r = true ∧ r.o = o ∧ r.s = s)) : rowB o s (r :: t) = false := by
  rw [rowB, ← Bool.not_eq_true]
  simp only [Bool.and_eq_true, decide_eq_true_eq]
  exact fun q => h ⟨q.1, q.2.1, q.2.2.1⟩
theorem rowB_good {o s : Int} {r : Rc} {t : List Rc} (h : okR r = true) (ho : r.o = o) (hs : r.s = s) : rowB o s (r :: t) = rowB o (s + 1) t := by simp [rowB, h, ho, hs]
def isRowB (o s : Int) (rs : List Rc) : Bool := rowB o s rs && (decide (1 ≤ rs.length) && decide (rs.length ≤ 64))
set_option maxRecDepth 100000 in
set_option maxHeartbeats 4000000 in
theorem wd_row (k o s m1 c1 m2 c2 : Int) (v : Value) (L : List Mr) (w : World) (h : RowAt w v L) (hkb : ∀ m ∈ L, isBy m.r.key) (hl : L.length ≤ 100000) (hs0 : 0 ≤ s) (hs1 : s ≤ 1099511627776) :
    Calls Tryd.prog 78 #[wdV k o s m1 c1 m2 c2 v] w fun e w' => e = .returned (.bool (isRowB o s (L.map Mr.r))) ∧ Below w.heap.size w w' := by
  obtain ⟨A, c, rfl, hc⟩ := h.ex
  have hni : (L.length : Int) ≤ 100000 := by omega
  have HC := Lib.hid hc
  have HKB := Lib.hid hkb
  have X0 := Lib.hid (Wd8.new w 26 k o s m1 c1 m2 c2 (.slice A L.length c))
  have HB0 : Hid (Below w.heap.size w (w.alloc (.cells (wdC k o s m1 c1 m2 c2 (.slice A L.length c)) 26))) := Lib.hid (by (repeat' (first | (with_reducible exact Below.refl _ _) | (with_reducible assumption) | (with_reducible refine Below.trans ?_ (Below.mono (by with_reducible assumption) ?_)) | (with_reducible refine Below.alloc ?_ ?_ _) | (with_reducible refine Below.setCell ?_ ?_ _) | (with_reducible refine below_drewN ?_ _) | (with_reducible refine Below.drew ?_) | go_size)))
  have HE0 : Hid (isRowB o s (L.map Mr.r) = (rowB o (s + (0 : Nat)) ((L.map Mr.r).drop 0) && (decide (1 ≤ L.length) && decide (L.length ≤ 64)))) := Lib.hid (by unfold isRowB; simp)
  clear h hc hkb hl
  go_enter Tryd.func78, Tryd.ntmps78
  go_wp2
  go_loopw [8] (fun i wr => ∃ j : Nat, j ≤ L.length ∧ i = .int .i64 j ∧ Below (w.alloc (.cells (wdC k o s m1 c1 m2 c2 (.slice A L.length c)) 26)).heap.size (w.alloc (.cells (wdC k o s m1 c1 m2 c2 (.slice A L.length c)) 26)) wr ∧ Hid (isRowB o s (L.map Mr.r) = (rowB o (s + (j : Nat)) ((L.map Mr.r).drop j) && (decide (1 ≤ L.length) && decide (L.length ≤ 64))))) (fun i _ => L.length - (intOf i).toNat)
  case atStart => exact ⟨0, Nat.zero_le _, rfl, Below.refl _ _, Lib.hid HE0.out⟩
  case round =>
    obtain ⟨j, hj, rfl, hB, HE⟩ := hrel
    clear HE0
    have hBB := HB0.out.trans (hB.mono HB0.out.size)
    obtain ⟨y0, y1, y2, y3, y4, y5, y6, y7, ylt⟩ := X0.out.below hB
    by_cases hlt : j < L.length
    · have lk : (j : Int) < (L.length : Int) := by omega
      have hi1 : ((j : Int).toNat) = j := by simp
      obtain ⟨B, O, rfl, hBl, hcell⟩ := HC.out (by omega)
      have hx : L[j]? = some L[j] := List.getElem?_eq_getElem hlt
      have hkey := HKB.out L[j] (List.getElem_mem hlt)
      have hdr : (L.map Mr.r).drop j = L[j].r :: (L.map Mr.r).drop (j + 1) := by
        rw [List.drop_eq_getElem_cons (by simpa using hlt)]
        simp
      have hE := HE.out
      rw [hdr] at hE
      generalize L[j] = x at *
      have a0 : wr.cell? ⟨B, O + j * 9, none⟩ = some (.int .i64 x.r.o) := (hBB.cell (p := ⟨B, O + j * 9, none⟩) hBl).trans (hcell (j * 9) _ (by have := rowM_at hx 0 (by omega); rwa [Nat.add_zero] at this))
      have a1 : wr.cell? ⟨B, O + j * 9 + 1, none⟩ = some (.int .i64 x.r.s) := by rw [Nat.add_assoc]; exact (hBB.cell (p := ⟨B, O + (j * 9 + 1), none⟩) hBl).trans (hcell _ _ (rowM_at hx 1 (by omega)))
      have a2 : wr.cell? ⟨B, O + j * 9 + 2, none⟩ = some (.string (strB x.r.key)) := by rw [Nat.add_assoc]; exact (hBB.cell (p := ⟨B, O + (j * 9 + 2), none⟩) hBl).trans (hcell _ _ (rowM_at hx 2 (by omega)))
      have a3 : wr.cell? ⟨B, O + j * 9 + 3, none⟩ = some (.int .i64 x.r.ml) := by rw [Nat.add_assoc]; exact (hBB.cell (p := ⟨B, O + (j * 9 + 3), none⟩) hBl).trans (hcell _ _ (rowM_at hx 3 (by omega)))
      have a4 : wr.cell? ⟨B, O + j * 9 + 4, none⟩ = some (.int .i64 x.r.ct) := by rw [Nat.add_assoc]; exact (hBB.cell (p := ⟨B, O + (j * 9 + 4), none⟩) hBl).trans (hcell _ _ (rowM_at hx 4 (by omega)))
      have a5 : wr.cell? ⟨B, O + j * 9 + 5, none⟩ = some (.int .i64 x.r.vo) := by rw [Nat.add_assoc]; exact (hBB.cell (p := ⟨B, O + (j * 9 + 5), none⟩) hBl).trans (hcell _ _ (rowM_at hx 5 (by omega)))
      have a6 : wr.cell? ⟨B, O + j * 9 + 6, none⟩ = some (.slice x.A x.r.val.length x.c) := by rw [Nat.add_assoc]; exact (hBB.cell (p := ⟨B, O + (j * 9 + 6), none⟩) hBl).trans (hcell _ _ (rowM_at hx 6 (by omega)))
      have a7 : wr.cell? ⟨B, O + j * 9 + 7, none⟩ = some (.bool x.r.gone) := by rw [Nat.add_assoc]; exact (hBB.cell (p := ⟨B, O + (j * 9 + 7), none⟩) hBl).trans (hcell _ _ (rowM_at hx 7 (by omega)))
      have a8 : wr.cell? ⟨B, O + j * 9 + 8, none⟩ = some (.int .i64 x.r.tt) := by rw [Nat.add_assoc]; exact (hBB.cell (p := ⟨B, O + (j * 9 + 8), none⟩) hBl).trans (hcell _ _ (rowM_at hx 8 (by omega)))
      have HOK : Hid (okR x.r = okN x.r.o x.r.s (strB x.r.key).size x.r.ml x.r.ct x.r.vo x.r.val.length x.r.gone x.r.tt) := Lib.hid (by rw [okR_n, strB_size])
      have HBa := Lib.hid (hBB.alloc hBB.size (recO x.r.o x.r.s (strB x.r.key) x.r.ml x.r.ct x.r.vo x.A x.r.val.length x.c x.r.gone x.r.tt))
      have HBd := Lib.hid (hB.alloc hB.size (recO x.r.o x.r.s (strB x.r.key) x.r.ml x.r.ct x.r.vo x.A x.r.val.length x.c x.r.gone x.r.tt))
      have HIS := Lib.hid (rec_is x.r.o x.r.s (strB x.r.key) x.r.ml x.r.ct x.r.vo x.A x.r.val.length x.c x.r.gone x.r.tt (wr.alloc (recO x.r.o x.r.s (strB x.r.key) x.r.ml x.r.ct x.r.vo x.A x.r.val.length x.c x.r.gone x.r.tt)))
      rw [← HOK.out] at HIS
      have HRN := Lib.hid (Rec9.new wr x.r.o x.r.s (strB x.r.key) x.r.ml x.r.ct x.r.vo x.A x.r.val.length x.c x.r.gone x.r.tt)
      have HXX := Lib.hid (X0.out.below HBd.out)
      have HEE := Lib.hid hE
      have hwr : w.heap.size < wr.heap.size := ylt
      clear hkey hcell hx hdr hE HE HOK hB hBB
      cases hok : okR x.r
      · have HEF : Hid (isRowB o s (L.map Mr.r) = false) := Lib.hid (by rw [HEE.out, rowB_bad (fun q => by rw [hok] at q; exact absurd q.1 (by decide))]; rfl)
        rw [hok] at HIS
        clear hok HEE HRN HXX HBd
        go_wp2_with fail
        refine HIS.out.mono ?_; rintro e w2 ⟨rfl, k2⟩
        have HBF := Lib.hid (HBa.out.trans (k2.mono HBa.out.size))
        clear k2 HIS HBa a0 a1 a2 a3 a4 a5 a6 a7 a8 y0 y1 y2 y3 y4 y5 y6 y7
        go_wp2
        go_ret
        exact ⟨by rw [HEF.out]; rfl, HBF.out⟩
      · rw [hok] at HIS
        have HOKR := Lib.hid hok
        clear hok
        go_wp2_with fail
        refine HIS.out.mono ?_; rintro e w2 ⟨rfl, k2⟩
        have HBF := Lib.hid (HBa.out.trans (k2.mono HBa.out.size))
        have HBG := Lib.hid (HBd.out.trans (k2.mono HBd.out.size))
        obtain ⟨r0, r1, r2, r3, r4, r5, r6, r7, r8, rlt⟩ := HRN.out.below k2
        obtain ⟨z0, z1, z2, z3, z4, z5, z6, z7, zlt⟩ := HXX.out.below k2
        clear k2 HIS HBa a0 a1 a2 a3 a4 a5 a6 a7 a8 y0 y1 y2 y3 y4 y5 y6 y7 HRN HXX HBd
        by_cases ho : x.r.o = o
        · by_cases hs : x.r.s = s + (j : Int)
          · have HNX : Hid (isRowB o s (L.map Mr.r) = (rowB o (s + ((j + 1 : Nat) : Int)) ((L.map Mr.r).drop (j + 1)) && (decide (1 ≤ L.length) && decide (L.length ≤ 64)))) := Lib.hid (by rw [HEE.out, rowB_good HOKR.out ho hs, show s + (j : Int) + 1 = s + ((j + 1 : Nat) : Int) from by omega])
            have t1 : (x.r.o != o) = false := by simp [ho]
            have t2 : (x.r.s != s + (j : Int)) = false := by simp [hs]
            clear ho hs HEE
            go_wp2
            go_roundw
            case rel => exact ⟨j + 1, by omega, by go_num, HBG.out, HNX⟩
            case measure => simp [intOf]; omega
          · have HEF : Hid (isRowB o s (L.map Mr.r) = false) := Lib.hid (by rw [HEE.out, rowB_bad (fun q => hs q.2.2)]; rfl)
            have t1 : (x.r.o != o) = false := by simp [ho]
            have t2 : (x.r.s != s + (j : Int)) = true := by simpa using hs
            clear ho hs HEE
            go_wp2
            go_ret
            exact ⟨by rw [HEF.out]; rfl, HBF.out⟩
        · have HEF : Hid (isRowB o s (L.map Mr.r) = false) := Lib.hid (by rw [HEE.out, rowB_bad (fun q => ho q.2.1)]; rfl)
          have t1 : (x.r.o != o) = true := by simpa using ho
          clear ho HEE
          go_wp2
          go_ret
          exact ⟨by rw [HEF.out]; rfl, HBF.out⟩
    · obtain rfl : j = L.length := by omega
      have hE := HE.out
      rw [List.drop_of_length_le (by simp)] at hE
      have HEE : Hid (isRowB o s (L.map Mr.r) = (decide (1 ≤ L.length) && decide (L.length ≤ 64))) := Lib.hid (by rw [hE]; simp [rowB])
      have HBF := Lib.hid hBB
      clear hE HE hB hBB hlt HKB HC
      have HE1 := HEE.out
      by_cases h1 : 1 ≤ L.length
      · by_cases h64 : L.length ≤ 64
        · have t1 : decide ((1 : Int) ≤ (L.length : Int)) = true := by simp; omega
          have t2 : decide ((L.length : Int) ≤ 64) = true := by simp; omega
          have HEF : Hid (isRowB o s (L.map Mr.r) = true) := Lib.hid (by rw [HE1]; simp [h1, h64])
          clear HE1 HEE h1 h64
          go_wp2
          go_ret
          exact ⟨by rw [HEF.out]; rfl, HBF.out⟩
        · have t1 : decide ((1 : Int) ≤ (L.length : Int)) = true := by simp; omega
          have t2 : decide ((L.length : Int) ≤ 64) = false := by simp; omega
          have HEF : Hid (isRowB o s (L.map Mr.r) = false) := Lib.hid (by rw [HE1]; simp [h64])
          clear HE1 HEE h1 h64
          go_wp2
          go_ret
          exact ⟨by rw [HEF.out]; rfl, HBF.out⟩
      · have t1 : decide ((1 : Int) ≤ (L.length : Int)) = false := by simp; omega
        have HEF : Hid (isRowB o s (L.map Mr.r) = false) := Lib.hid (by rw [HE1]; simp [h1])
        clear HE1 HEE h1
        go_wp2
        go_ret
        exact ⟨by rw [HEF.out]; rfl, HBF.out⟩
end Go.Proofs.YtdffldlcbihjmaaDoor
