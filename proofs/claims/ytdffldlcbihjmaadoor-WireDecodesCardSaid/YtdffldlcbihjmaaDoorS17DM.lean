/- Stage 17: WireDecodes: any bytes as a word, or refused, as the document has it. (for all bytes) -/
import Derived.Test.YtdffldlcbihjmaaDoorG17a
import Derived.Test.YtdffldlcbihjmaaDoorG17b
import Derived.Test.YtdffldlcbihjmaaDoorRecs17
import Derived.Test.YtdffldlcbihjmaaDoorRef17
/- The reference's Decode of a word (written by gen/refwddec.py). -/
set_option linter.unusedSimpArgs false
set_option linter.unusedVariables false
namespace Go.Proofs.YtdffldlcbihjmaaDoor
open Go.RowKit Go.Sort

abbrev zwR : Obj := .cells (wdC 0 0 0 0 0 0 0 (.slice none 0 0)) 34
theorem numsR3 (p : List Int) : numsR 3 (some p) = ([(rNum (some p)).1, (rNum (rNum (some p)).2).1, (rNum (rNum (rNum (some p)).2).2).1], (rNum (rNum (rNum (some p)).2).2).2) := rfl
theorem rRaw_all (bs : List Int) : rRaw (rLeft (some bs)) (some bs) = (bs, some []) := by
  show rRaw bs.length (some bs) = _
  rw [rRaw_yes (Nat.le_refl _)]
  simp
/-- Of a reader that erred there is no word. -/
theorem decW_bad {p : List Int} (h : (rNum (rNum (rNum (some p)).2).2).2 = none) : decW p = none := by
  have h3 : (numsR 3 (some p)).2 = none := h
  unfold decW
  simp only [h3]
  split
  · cases rdL (rRaw (rLeft none) none).1 with
    | none => rfl
    | some rs => simp [chkW, rRaw_none]
  · split
    · have : (numsR 4 none).2 = none := rfl
      simp [chkW, this]
    · simp [chkW]
/-- What the reference tells of a frame. -/
def RDec (l : List Int) (w w' : World) (e : Ending) : Prop := (frO l ≠ 0 ∧ NoW (frO l) e) ∨ (frO l = 0 ∧ ((decW (frP l) = none ∧ NoW 3 e) ∨ WdTold (frP l) w w' e))
theorem rdec_no {l : List Int} {w w' : World} {e : Ending} (hC : frC l = 0) (h : frO l ≠ 0 ∨ decW (frP l) = none) (he : NoW 3 e) : RDec l w w' e := by
  by_cases h0 : frO l = 0
  · rcases h with q | q
    · exact absurd h0 q
    · exact .inr ⟨h0, .inl ⟨q, he⟩⟩
  · refine .inl ⟨h0, ?_⟩
    have : frO l = 3 := by
      unfold frO at h0 ⊢
      rw [if_pos hC] at h0 ⊢
      split
      · rename_i q; rw [if_pos q] at h0; exact absurd rfl h0
      · rfl
    rw [this]
    exact he
theorem Rd.emptied {Q : Nat → Prop} {W : World} {b : Nat} {bs : List Int} (h : Rd Q W b (some bs)) : Rd Q (W.setCell ⟨b, 0, none⟩ (.slice none 0 0)) b (some []) := by
  obtain ⟨A, c, h0, h1, _⟩ := h.yes bs rfl
  refine ⟨h.nq, by simpa using h.lt, by simpa using h.f0, by simpa using h.f1, (fun e => by cases e), fun bs' e => ?_⟩
  injection e with e
  subst e
  exact ⟨none, 0, World.cell?_setCell_same _ _ _ h0, by rw [World.cell?_setCell_other _ _ _ _ (by simp)]; exact h1, by simp, by simp, ByL.nil _ _, (fun _ h => by cases h), isBy_nil, fun _ => ⟨rfl, rfl⟩⟩
theorem told_far {l : List Int} {p : List Int} {k o s : Int} {L : List Mr} {A : Option Addr} {c bw : Nat} {w W9 V : World} (hO : frO l = 0) (hP : frP l = p) (hD : decW p = some (wdOf k o s 0 0 0 0 L)) (h : W9.ownsRow bw 89 9 (.slice A L.length c) L.length (rowM L) ∧ (∀ m ∈ L, m.At (fun i => bw < i) W9)) (h64 : L.length ≤ 64) (hby : ∀ m ∈ L, isBy m.r.key ∧ isBy m.r.val) (hw : w.heap.size < bw) (k9 : But (fun i => i < bw) W9 V) :
    RDec l w V (.returned (.tuple #[wdV k o s 0 0 0 0 (.slice A L.length c), .int .i64 0])) := by
  refine .inr ⟨hO, .inr ⟨k, o, s, 0, 0, 0, 0, L, A, c, by rw [hP]; exact hD, rfl, row_mono (k9.row h.1 (fun i hi e => by have := (World.ownsRow.lt h.1 i hi).1; omega)) (by omega), h64, fun m hm => ?_, hby⟩⟩
  exact ((h.2 m hm).but k9 (fun i hi hq => by omega)).mono (fun i _ hq => by omega)
set_option maxRecDepth 100000 in
set_option maxHeartbeats 8000000 in
theorem rwd_dec_fr (A : Option Addr) (l : List Int) (c : Nat) (w : World) (hby : ByL w A l) (hb : isBy l) (hl : l.length ≤ 1000000) (hc : l.length ≤ c) (hcm : c ≤ maxLen) (hf : frC l ≠ 0) :
    Calls Tryd.prog 20 #[.slice A l.length c] w fun e w' => NoW (frC l) e ∧ Below w.heap.size w w' := by
  have hb0 : Below w.heap.size w (w.alloc zwR) := by (repeat' (first | (with_reducible exact Below.refl _ _) | (with_reducible assumption) | (with_reducible refine Below.trans ?_ (Below.mono (by with_reducible assumption) ?_)) | (with_reducible refine Below.alloc ?_ ?_ _) | (with_reducible refine Below.setCell ?_ ?_ _) | (with_reducible refine below_drewN ?_ _) | (with_reducible refine Below.drew ?_) | go_size))
  have HO := Lib.hid (rfr_decode A l c (w.alloc zwR) (hby.below hb0) hb hl hc hcm)
  have HB0 := Lib.hid hb0
  have HRB : Hid (XB (w.alloc zwR) w.heap.size zeroW) := Lib.hid (XB.new w _ _)
  have HNE := Lib.hid hf
  have t1 : (frC l != 0) = true := by simpa using hf
  clear hby hb hl hc hcm hb0 hf
  go_enter Tryd.func20, Tryd.ntmps20
  go_wp2_with fail
  refine HO.out.mono ?_; rintro e w1 ⟨hr, k1⟩
  have HB1 := Lib.hid (HB0.out.trans (k1.mono HB0.out.size))
  have RB1 := HRB.out.below k1
  have HRB1 := Lib.hid RB1
  rcases hr with ⟨_, rfl⟩ | ⟨h0, _⟩
  rotate_left
  · exact absurd h0 HNE.out
  have r0 := RB1.c 0 _ rfl
  have r1 := RB1.c 1 _ rfl
  have r2 := RB1.c 2 _ rfl
  have r3 := RB1.c 3 _ rfl
  have r4 := RB1.c 4 _ rfl
  have r5 := RB1.c 5 _ rfl
  have r6 := RB1.c 6 _ rfl
  have r7 := RB1.c 7 _ rfl
  have rf := RB1.fz
  have rl := RB1.lt
  clear k1 HO HB0 HRB RB1
  obtain ⟨x, hx⟩ : ∃ x, frC l = x := ⟨_, rfl⟩
  rw [hx] at t1
  have HX := Lib.hid hx
  rw [hx]
  clear hx
  go_wp2
  have RBf := ((((((((HRB1.out.set 0 (by simp [zeroW]) (.int .i64 0)).set 1 (by simp [zeroW]) (.int .i64 0)).set 2 (by simp [zeroW]) (.int .i64 0)).set 3 (by simp [zeroW]) (.int .i64 0)).set 4 (by simp [zeroW]) (.int .i64 0)).set 5 (by simp [zeroW]) (.int .i64 0)).set 6 (by simp [zeroW]) (.int .i64 0)).set 7 (by simp [zeroW]) (.slice none 0 0))
  have z0 := RBf.c 0 _ rfl
  have z1 := RBf.c 1 _ rfl
  have z2 := RBf.c 2 _ rfl
  have z3 := RBf.c 3 _ rfl
  have z4 := RBf.c 4 _ rfl
  have z5 := RBf.c 5 _ rfl
  have z6 := RBf.c 6 _ rfl
  have z7 := RBf.c 7 _ rfl
  have HF : Hid (Below w.heap.size w _) := Lib.hid ((((((((HB1.out.setCell (p := ⟨w.heap.size, 0, none⟩) (Nat.le_refl _) (.int .i64 0)).setCell (p := ⟨w.heap.size, 1, none⟩) (Nat.le_refl _) (.int .i64 0)).setCell (p := ⟨w.heap.size, 2, none⟩) (Nat.le_refl _) (.int .i64 0)).setCell (p := ⟨w.heap.size, 3, none⟩) (Nat.le_refl _) (.int .i64 0)).setCell (p := ⟨w.heap.size, 4, none⟩) (Nat.le_refl _) (.int .i64 0)).setCell (p := ⟨w.heap.size, 5, none⟩) (Nat.le_refl _) (.int .i64 0)).setCell (p := ⟨w.heap.size, 6, none⟩) (Nat.le_refl _) (.int .i64 0)).setCell (p := ⟨w.heap.size, 7, none⟩) (Nat.le_refl _) (.slice none 0 0))
  refine bodyPost_ret (v := .tuple #[wdV 0 0 0 0 0 0 0 (.slice none 0 0), .int .i64 x]) (by simp [results, Tryd.results20, go_sem, z0, z1, z2, z3, z4, z5, z6, z7]) rfl ⟨by rw [HX.out]; rfl, HF.out⟩
set_option maxRecDepth 100000 in
set_option maxHeartbeats 8000000 in
theorem rwd_dec_ok (A : Option Addr) (l : List Int) (c : Nat) (w : World) (hby : ByL w A l) (hb : isBy l) (hl : l.length ≤ 1000000) (hc : l.length ≤ c) (hcm : c ≤ maxLen) (hf : frC l = 0) (hp : (frP l).length ≤ 100000) :
    Calls Tryd.prog 20 #[.slice A l.length c] w fun e w' => RDec l w w' e ∧ Below w.heap.size w w' := by
  have hb0 : Below w.heap.size w (w.alloc zwR) := by (repeat' (first | (with_reducible exact Below.refl _ _) | (with_reducible assumption) | (with_reducible refine Below.trans ?_ (Below.mono (by with_reducible assumption) ?_)) | (with_reducible refine Below.alloc ?_ ?_ _) | (with_reducible refine Below.setCell ?_ ?_ _) | (with_reducible refine below_drewN ?_ _) | (with_reducible refine Below.drew ?_) | go_size))
  have HO := Lib.hid (rfr_decode A l c (w.alloc zwR) (hby.below hb0) hb hl hc hcm)
  have HB0 := Lib.hid hb0
  have HRB : Hid (XB (w.alloc zwR) w.heap.size zeroW) := Lib.hid (XB.new w _ _)
  have HF0 := Lib.hid hf
  have HPB := Lib.hid (And.intro (fr_inv hb hf).2.2.1 hp)
  have HOF : Hid (frO l = if 12 + dec4 l = l.length then 0 else 3) := Lib.hid (by unfold frO; rw [if_pos hf])
  obtain ⟨N, hN⟩ : ∃ N, 12 + dec4 l = N := ⟨_, rfl⟩
  have HNN := Lib.hid hN
  rw [hN] at HOF
  have hli : (l.length : Int) ≤ 1000000 := by omega
  clear hby hb hl hc hcm hb0 hf hp hN
  go_enter Tryd.func20, Tryd.ntmps20
  go_wp2_with fail
  refine HO.out.mono ?_; rintro e W0 ⟨hr, k1⟩
  rcases hr with ⟨h0, _⟩ | ⟨_, g0, cap0, rfl, hown⟩
  · exact absurd HF0.out h0
  rw [HNN.out]
  obtain ⟨p, hpp⟩ : ∃ p, frP l = p := ⟨_, rfl⟩
  rw [hpp] at hown HPB
  have HPP := Lib.hid hpp
  rw [hpp]
  have hb1 := HB0.out.trans (k1.mono HB0.out.size)
  have RB0 := HRB.out.below k1
  obtain ⟨A5, c5, e5, hy5, hb5, hc5⟩ := Own8.bytes hown
  obtain ⟨rfl, rfl⟩ : some (⟨g0, 0, none⟩ : Addr) = A5 ∧ cap0 = c5 := by injection e5 with q1 q2 q3; exact ⟨q1, q3⟩
  have hcm0 : cap0 ≤ maxLen := by
    rcases hown.2 with ⟨h, _⟩ | ⟨g', cap', cur, h, _, _, _, h2, _⟩
    · cases h
    · injection h with _ _ h3; omega
  have hg0 : g0 < W0.heap.size := (World.ownsRow.lt hown g0 rfl).2
  have kZ : Below W0.heap.size W0 (W0.alloc (.cells #[.slice (some ⟨g0, 0, none⟩) p.length cap0, .bool false] 118)) := (Below.refl _ _).alloc (Nat.le_refl _) _
  have HBZ := Lib.hid (hb1.trans (kZ.mono hb1.size))
  have HRBZ := Lib.hid (RB0.below kZ)
  have HR0 : Hid (Rd (fun i => i < W0.heap.size) (W0.alloc (.cells #[.slice (some ⟨g0, 0, none⟩) p.length cap0, .bool false] 118)) W0.heap.size (some p)) := Lib.hid
    ⟨by omega, by simp, by simp, by simp, (fun e => by cases e), fun bs e => by
      injection e with e
      subst e
      exact ⟨some ⟨g0, 0, none⟩, cap0, by simp, by simp, hc5, hcm0, hy5.below kZ, (fun ad had _ => by injection had with had; subst had; exact ⟨hg0, rfl⟩), HPB.out.1, fun e => by cases e⟩⟩
  have hw0 : w.heap.size < W0.heap.size := RB0.lt
  have hzz : W0.heap.size < (W0.alloc (.cells #[.slice (some ⟨g0, 0, none⟩) p.length cap0, .bool false] 118)).heap.size := by simp
  have hl0 : rLeft (some p) ≤ 100000 := HPB.out.2
  clear hown k1 hb1 RB0 hy5 kZ HO HB0 HRB e5 hb5 hc5 hcm0 hpp
  go_wp2_with fail
  generalize W0.alloc (.cells #[.slice (some ⟨g0, 0, none⟩) p.length cap0, .bool false] 118) = Z at *
  obtain ⟨br, hbr⟩ : ∃ br, W0.heap.size = br := ⟨_, rfl⟩
  rw [hbr] at HR0 hw0 hzz hg0 ⊢
  clear hbr
  refine (rr_num br (some p) Z HR0.out (by omega)).mono ?_; rintro e W1 ⟨rfl, p1⟩
  have hl1 : rLeft (rNum ((some p))).2 ≤ 100000 := Nat.le_trans (rNum_left _) hl0
  have HRB1 := Lib.hid (HRBZ.out.only p1.only (by omega))
  have HB1 := Lib.hid (HBZ.out.trans (p1.only.below (by omega) HBZ.out.size))
  have HR1 := Lib.hid p1.rd
  have z1 := p1.only.size
  clear p1 HR0 HRBZ HBZ
  go_wp2_with fail
  refine (rr_num br (rNum (some p)).2 W1 HR1.out (by omega)).mono ?_; rintro e W2 ⟨rfl, p2⟩
  have hl2 : rLeft (rNum ((rNum (some p)).2)).2 ≤ 100000 := Nat.le_trans (rNum_left _) hl1
  have HRB2 := Lib.hid (HRB1.out.only p2.only (by omega))
  have HB2 := Lib.hid (HB1.out.trans (p2.only.below (by omega) HB1.out.size))
  have HR2 := Lib.hid p2.rd
  have z2 := p2.only.size
  clear p2 HR1 HRB1 HB1
  go_wp2_with fail
  refine (rr_num br (rNum (rNum (some p)).2).2 W2 HR2.out (by omega)).mono ?_; rintro e W3 ⟨rfl, p3⟩
  have hl3 : rLeft (rNum ((rNum (rNum (some p)).2).2)).2 ≤ 100000 := Nat.le_trans (rNum_left _) hl2
  have HRB3 := Lib.hid (HRB2.out.only p3.only (by omega))
  have HB3 := Lib.hid (HB2.out.trans (p3.only.below (by omega) HB2.out.size))
  have HR3 := Lib.hid p3.rd
  have z3 := p3.only.size
  clear p3 HR2 HRB2 HB2
  have HBAD : Hid ((rNum (rNum (rNum (some p)).2).2).2 = none → decW p = none) := Lib.hid decW_bad
  have HPL : Hid (((rNum (some p)).1 : Int) ≠ 1 → ((rNum (some p)).1 : Int) ≠ 3 → decW p = chkW ⟨((rNum (some p)).1 : Nat), ((rNum (rNum (some p)).2).1 : Nat), ((rNum (rNum (rNum (some p)).2).2).1 : Nat), 0, 0, 0, 0, []⟩ (rNum (rNum (rNum (some p)).2).2).2) := Lib.hid (fun h1 h3 => decW_plain h1 h3)
  have HBT : Hid (((rNum (some p)).1 : Int) = 3 → decW p = chkW ⟨((rNum (some p)).1 : Nat), ((rNum (rNum (some p)).2).1 : Nat), ((rNum (rNum (rNum (some p)).2).2).1 : Nat), ((rNum (rNum (rNum (rNum (some p)).2).2).2).1 : Nat), ((rNum (rNum (rNum (rNum (rNum (some p)).2).2).2).2).1 : Nat), ((rNum (rNum (rNum (rNum (rNum (rNum (some p)).2).2).2).2).2).1 : Nat), ((rNum (rNum (rNum (rNum (rNum (rNum (rNum (some p)).2).2).2).2).2).2).1 : Nat), []⟩ (rNum (rNum (rNum (rNum (rNum (rNum (rNum (some p)).2).2).2).2).2).2).2) := Lib.hid (fun h3 => decW_beat h3)
  have HRC : Hid (((rNum (some p)).1 : Int) = 1 → ∀ bs, (rNum (rNum (rNum (some p)).2).2).2 = some bs → decW p = match rdL bs with | none => none | some rs => chkW ⟨((rNum (some p)).1 : Nat), ((rNum (rNum (some p)).2).1 : Nat), ((rNum (rNum (rNum (some p)).2).2).1 : Nat), 0, 0, 0, 0, rs⟩ (some [])) := Lib.hid (fun h1 bs hbs => by
    have h := decW_recs h1
    rw [show (numsR 3 (some p)).2 = some bs from hbs, rRaw_all] at h
    exact h)
  generalize ((rNum (some p)).1 : Nat) = k at *
  generalize ((rNum (rNum (some p)).2).1 : Nat) = o at *
  generalize ((rNum (rNum (rNum (some p)).2).2).1 : Nat) = s at *
  generalize (rNum (rNum (rNum (some p)).2).2).2 = st at *
  have kW : Below W3.heap.size W3 (W3.alloc (.cells (wdC k o s 0 0 0 0 (.slice none 0 0)) 34)) := (Below.refl _ _).alloc (Nat.le_refl _) _
  have HX4 : Hid (XB (W3.alloc (.cells (wdC k o s 0 0 0 0 (.slice none 0 0)) 34)) W3.heap.size [.int .i64 k, .int .i64 o, .int .i64 s, .int .i64 0, .int .i64 0, .int .i64 0, .int .i64 0, .slice none 0 0]) := Lib.hid (XB.new W3 _ _)
  have HR4 := Lib.hid (HR3.out.below kW)
  have HRB4 := Lib.hid (HRB3.out.below kW)
  have HB4 := Lib.hid (HB3.out.trans (kW.mono HB3.out.size))
  have hbw : br < W3.heap.size := by omega
  have hl4 := hl3
  clear kW HR3 HRB3 HB3 hl1 hl2
  go_upto_region 6 with fail
  generalize W3.alloc (.cells (wdC k o s 0 0 0 0 (.slice none 0 0)) 34) = W4 at *
  obtain ⟨bw, hbwe⟩ : ∃ bw, W3.heap.size = bw := ⟨_, rfl⟩
  rw [hbwe] at HX4 hbw ⊢
  have hww : w.heap.size < bw := by omega
  have hwb : w.heap.size ≠ bw := by omega
  have hwr : w.heap.size ≠ br := by omega
  clear hbwe z1 z2 z3
  have RB4 := HRB4.out
  have r0 := RB4.c 0 _ rfl
  have r1 := RB4.c 1 _ rfl
  have r2 := RB4.c 2 _ rfl
  have r3 := RB4.c 3 _ rfl
  have r4 := RB4.c 4 _ rfl
  have r5 := RB4.c 5 _ rfl
  have r6 := RB4.c 6 _ rfl
  have r7 := RB4.c 7 _ rfl
  have rf := RB4.fz
  have rl := RB4.lt
  clear RB4
  cases st with
  | none =>
    obtain ⟨d0, d1⟩ := HR4.out.no rfl
    have dl := HR4.out.lt
    have HD := Lib.hid (HBAD.out rfl)
    go_wp2
    have RBf := ((((((((HRB4.out.set 0 (by simp [zeroW]) (.int .i64 0)).set 1 (by simp [zeroW]) (.int .i64 0)).set 2 (by simp [zeroW]) (.int .i64 0)).set 3 (by simp [zeroW]) (.int .i64 0)).set 4 (by simp [zeroW]) (.int .i64 0)).set 5 (by simp [zeroW]) (.int .i64 0)).set 6 (by simp [zeroW]) (.int .i64 0)).set 7 (by simp [zeroW]) (.slice none 0 0))
    have z0 := RBf.c 0 _ rfl
    have z1 := RBf.c 1 _ rfl
    have z2 := RBf.c 2 _ rfl
    have z3 := RBf.c 3 _ rfl
    have z4 := RBf.c 4 _ rfl
    have z5 := RBf.c 5 _ rfl
    have z6 := RBf.c 6 _ rfl
    have z7 := RBf.c 7 _ rfl
    have HF : Hid (Below w.heap.size w _) := Lib.hid ((((((((HB4.out.setCell (p := ⟨w.heap.size, 0, none⟩) (Nat.le_refl _) (.int .i64 0)).setCell (p := ⟨w.heap.size, 1, none⟩) (Nat.le_refl _) (.int .i64 0)).setCell (p := ⟨w.heap.size, 2, none⟩) (Nat.le_refl _) (.int .i64 0)).setCell (p := ⟨w.heap.size, 3, none⟩) (Nat.le_refl _) (.int .i64 0)).setCell (p := ⟨w.heap.size, 4, none⟩) (Nat.le_refl _) (.int .i64 0)).setCell (p := ⟨w.heap.size, 5, none⟩) (Nat.le_refl _) (.int .i64 0)).setCell (p := ⟨w.heap.size, 6, none⟩) (Nat.le_refl _) (.int .i64 0)).setCell (p := ⟨w.heap.size, 7, none⟩) (Nat.le_refl _) (.slice none 0 0))
    refine bodyPost_ret (v := .tuple #[wdV 0 0 0 0 0 0 0 (.slice none 0 0), .int .i64 3]) (by simp [results, Tryd.results20, go_sem, z0, z1, z2, z3, z4, z5, z6, z7]) rfl ⟨rdec_no HF0.out (.inr (by rw [HPP.out]; exact HD.out)) rfl, HF.out⟩
  | some bs =>
  obtain ⟨Ab, cb, d0, d1, hcb, hcbm, hyb, hqb, hbyb, hnb⟩ := HR4.out.yes bs rfl
  have dl := HR4.out.lt
  by_cases hNl : N = l.length
  rotate_left
  · have t5 : ((N : Int) != (l.length : Int)) = true := by rw [bne_iff_ne]; omega
    have t5' : (N != l.length) = true := by rw [bne_iff_ne]; exact hNl
    have HD : Hid (frO l ≠ 0) := Lib.hid (by rw [HOF.out, if_neg hNl]; decide)
    clear hNl
    go_wp2
    have RBf := ((((((((HRB4.out.set 0 (by simp [zeroW]) (.int .i64 0)).set 1 (by simp [zeroW]) (.int .i64 0)).set 2 (by simp [zeroW]) (.int .i64 0)).set 3 (by simp [zeroW]) (.int .i64 0)).set 4 (by simp [zeroW]) (.int .i64 0)).set 5 (by simp [zeroW]) (.int .i64 0)).set 6 (by simp [zeroW]) (.int .i64 0)).set 7 (by simp [zeroW]) (.slice none 0 0))
    have z0 := RBf.c 0 _ rfl
    have z1 := RBf.c 1 _ rfl
    have z2 := RBf.c 2 _ rfl
    have z3 := RBf.c 3 _ rfl
    have z4 := RBf.c 4 _ rfl
    have z5 := RBf.c 5 _ rfl
    have z6 := RBf.c 6 _ rfl
    have z7 := RBf.c 7 _ rfl
    have HF : Hid (Below w.heap.size w _) := Lib.hid ((((((((HB4.out.setCell (p := ⟨w.heap.size, 0, none⟩) (Nat.le_refl _) (.int .i64 0)).setCell (p := ⟨w.heap.size, 1, none⟩) (Nat.le_refl _) (.int .i64 0)).setCell (p := ⟨w.heap.size, 2, none⟩) (Nat.le_refl _) (.int .i64 0)).setCell (p := ⟨w.heap.size, 3, none⟩) (Nat.le_refl _) (.int .i64 0)).setCell (p := ⟨w.heap.size, 4, none⟩) (Nat.le_refl _) (.int .i64 0)).setCell (p := ⟨w.heap.size, 5, none⟩) (Nat.le_refl _) (.int .i64 0)).setCell (p := ⟨w.heap.size, 6, none⟩) (Nat.le_refl _) (.int .i64 0)).setCell (p := ⟨w.heap.size, 7, none⟩) (Nat.le_refl _) (.slice none 0 0))
    refine bodyPost_ret (v := .tuple #[wdV 0 0 0 0 0 0 0 (.slice none 0 0), .int .i64 3]) (by simp [results, Tryd.results20, go_sem, z0, z1, z2, z3, z4, z5, z6, z7]) rfl ⟨rdec_no HF0.out (.inl HD.out) rfl, HF.out⟩
  have HO0 : Hid (frO l = 0) := Lib.hid (by rw [HOF.out, if_pos hNl])
  have t5 : ((N : Int) != (l.length : Int)) = false := by rw [hNl]; simp
  have t5' : (N != l.length) = false := by rw [hNl]; simp
  clear hNl
  by_cases hk1 : (k : Int) = 1
  · have q1 : ((k : Int) == 1) = true := by simpa using hk1
    have HDP := Lib.hid (HRC.out hk1 bs rfl)
    have HRL := Lib.hid (ref_rdl Ab bs cb W4 hyb hbyb hnb hl4 hcb hcbm (fun A l c w q1 q2 q3 q4 q5 q6 => ref_dec A l c w q1 q2 q3 q4 q5 q6 (fun o s key ml ct vo A n c gone tt w => ref_is o s key ml ct vo A n c gone tt w)))
    have HBSY := Lib.hid hbyb
    have x0 := HX4.out.c 0 _ rfl
    have xl0 := HX4.out.lt
    clear hk1 HPL HBT HRC HBAD hyb hqb hbyb hnb hcb hcbm
    go_wp2_with fail
    refine HRL.out.mono ?_; rintro e W5 ⟨hres, k5⟩
    have HRB5 := Lib.hid (HRB4.out.below k5)
    have HB5 := Lib.hid (HB4.out.trans (k5.mono HB4.out.size))
    have HX5 := Lib.hid (HX4.out.below k5)
    have HR5 := Lib.hid (HR4.out.below k5)
    have hz45 : W4.heap.size ≤ W5.heap.size := k5.size
    have hbwl : bw < W4.heap.size := HX4.out.lt
    clear x0 xl0 HRB4 HB4 HX4 HR4 k5 HRL d0 d1 dl r0 r1 r2 r3 r4 r5 r6 r7 rf rl
    obtain ⟨A6, c6, d0, d1, _⟩ := HR5.out.yes bs rfl
    have df := HR5.out.f0
    have dl := HR5.out.lt
    have x7 := HX5.out.c 7 _ rfl
    have xf7 := HX5.out.fz 7
    have xl := HX5.out.lt
    rcases hres with ⟨hno, rfl⟩ | ⟨L, v, hyes, rfl, hown, hl64, hats⟩
    · have HD : Hid (decW p = none) := Lib.hid (by rw [HDP.out, hno])
      clear hno
      go_upto_region 15 with fail
      obtain ⟨W7, hWW⟩ : ∃ W7, (W5.setCell ⟨bw, 7, none⟩ (.slice none 0 0)).setCell ⟨br, 0, none⟩ (.slice none 0 0) = W7 := ⟨_, rfl⟩
      have HX7 : Hid (XB W7 bw [.int .i64 (k : Int), .int .i64 (o : Int), .int .i64 (s : Int), .int .i64 0, .int .i64 0, .int .i64 0, .int .i64 0, .slice none 0 0]) := Lib.hid (by rw [← hWW]; exact (HX5.out.set 7 (by simp) _).other (by show br ≠ bw; omega) _)
      have O7a : Only bw W5 (W5.setCell ⟨bw, 7, none⟩ (.slice none 0 0)) := (Only.refl _ _).setB _
      have HR7 : Hid (Rd (fun i => i < br) W7 br (some [])) := Lib.hid (by rw [← hWW]; exact (HR5.out.but (S := fun i => i = bw) (But.of_only O7a rfl) (by omega) (fun i e => by subst e; omega)).emptied)
      have B7 : But (fun i => i = bw ∨ i = br) W5 W7 := by rw [← hWW]; exact ((But.refl _ _).setCell (fun _ => .inl rfl) _).setCell (fun _ => .inr rfl) _
      have HRB7 := Lib.hid (HRB5.out.but B7 (by omega))
      have HB7 := Lib.hid (HB5.out.trans (B7.below (by rintro i (rfl | rfl) <;> omega) HB5.out.size))
      have HBT7 := Lib.hid B7
      rw [hWW]
      clear hWW O7a B7 d0 d1 df dl x7 xf7 xl HX5 HR5 HRB5 HB5
      have r0 := HRB7.out.c 0 _ rfl
      have r1 := HRB7.out.c 1 _ rfl
      have r2 := HRB7.out.c 2 _ rfl
      have r3 := HRB7.out.c 3 _ rfl
      have r4 := HRB7.out.c 4 _ rfl
      have r5 := HRB7.out.c 5 _ rfl
      have r6 := HRB7.out.c 6 _ rfl
      have r7 := HRB7.out.c 7 _ rfl
      have rf := HRB7.out.fz
      have rl := HRB7.out.lt
      go_wp2
      have RBf := ((((((((HRB7.out.set 0 (by simp [zeroW]) (.int .i64 0)).set 1 (by simp [zeroW]) (.int .i64 0)).set 2 (by simp [zeroW]) (.int .i64 0)).set 3 (by simp [zeroW]) (.int .i64 0)).set 4 (by simp [zeroW]) (.int .i64 0)).set 5 (by simp [zeroW]) (.int .i64 0)).set 6 (by simp [zeroW]) (.int .i64 0)).set 7 (by simp [zeroW]) (.slice none 0 0))
      have z0 := RBf.c 0 _ rfl
      have z1 := RBf.c 1 _ rfl
      have z2 := RBf.c 2 _ rfl
      have z3 := RBf.c 3 _ rfl
      have z4 := RBf.c 4 _ rfl
      have z5 := RBf.c 5 _ rfl
      have z6 := RBf.c 6 _ rfl
      have z7 := RBf.c 7 _ rfl
      have HF : Hid (Below w.heap.size w _) := Lib.hid ((((((((HB7.out.setCell (p := ⟨w.heap.size, 0, none⟩) (Nat.le_refl _) (.int .i64 0)).setCell (p := ⟨w.heap.size, 1, none⟩) (Nat.le_refl _) (.int .i64 0)).setCell (p := ⟨w.heap.size, 2, none⟩) (Nat.le_refl _) (.int .i64 0)).setCell (p := ⟨w.heap.size, 3, none⟩) (Nat.le_refl _) (.int .i64 0)).setCell (p := ⟨w.heap.size, 4, none⟩) (Nat.le_refl _) (.int .i64 0)).setCell (p := ⟨w.heap.size, 5, none⟩) (Nat.le_refl _) (.int .i64 0)).setCell (p := ⟨w.heap.size, 6, none⟩) (Nat.le_refl _) (.int .i64 0)).setCell (p := ⟨w.heap.size, 7, none⟩) (Nat.le_refl _) (.slice none 0 0))
      refine bodyPost_ret (v := .tuple #[wdV 0 0 0 0 0 0 0 (.slice none 0 0), .int .i64 3]) (by simp [results, Tryd.results20, go_sem, z0, z1, z2, z3, z4, z5, z6, z7]) rfl ⟨rdec_no HF0.out (.inr (by rw [HPP.out]; exact HD.out)) rfl, HF.out⟩
    · obtain ⟨A7, c7, rfl⟩ : ∃ A7 c7, v = .slice A7 L.length c7 := by
        rcases hown.2 with ⟨e, h0⟩ | ⟨g, cap, cur, e, _⟩
        · exact ⟨none, 0, by rw [e, h0]⟩
        · exact ⟨_, _, e⟩
      have HLB : Hid (∀ m ∈ L, isBy m.r.key ∧ isBy m.r.val) := Lib.hid (fun m hm => rdL_by HBSY.out hyes m.r (List.mem_map_of_mem hm))
      have HDC : Hid (decW p = chkW ⟨(k : Int), (o : Int), (s : Int), 0, 0, 0, 0, L.map Mr.r⟩ (some [])) := Lib.hid (by rw [HDP.out, hyes])
      have HOWN := Lib.hid hown
      have HATS := Lib.hid hats
      have HL64 := Lib.hid hl64
      clear hown hats hl64 hyes
      go_upto_region 15 with fail
      obtain ⟨W7, hWW⟩ : ∃ W7, (W5.setCell ⟨bw, 7, none⟩ (.slice A7 L.length c7)).setCell ⟨br, 0, none⟩ (.slice none 0 0) = W7 := ⟨_, rfl⟩
      have HX7 : Hid (XB W7 bw [.int .i64 (k : Int), .int .i64 (o : Int), .int .i64 (s : Int), .int .i64 0, .int .i64 0, .int .i64 0, .int .i64 0, .slice A7 L.length c7]) := Lib.hid (by rw [← hWW]; exact (HX5.out.set 7 (by simp) _).other (by show br ≠ bw; omega) _)
      have O7a : Only bw W5 (W5.setCell ⟨bw, 7, none⟩ (.slice A7 L.length c7)) := (Only.refl _ _).setB _
      have HR7 : Hid (Rd (fun i => i < br) W7 br (some [])) := Lib.hid (by rw [← hWW]; exact (HR5.out.but (S := fun i => i = bw) (But.of_only O7a rfl) (by omega) (fun i e => by subst e; omega)).emptied)
      have B7 : But (fun i => i = bw ∨ i = br) W5 W7 := by rw [← hWW]; exact ((But.refl _ _).setCell (fun _ => .inl rfl) _).setCell (fun _ => .inr rfl) _
      have HRB7 := Lib.hid (HRB5.out.but B7 (by omega))
      have HB7 := Lib.hid (HB5.out.trans (B7.below (by rintro i (rfl | rfl) <;> omega) HB5.out.size))
      have HBT7 := Lib.hid B7
      rw [hWW]
      clear hWW O7a B7 d0 d1 df dl x7 xf7 xl HX5 HR5 HRB5 HB5
      have HOWK : Hid (∀ W, Below W7.heap.size W7 W → W.ownsRow bw 89 9 (.slice A7 L.length c7) L.length (rowM L) ∧ (∀ m ∈ L, m.At (fun i => bw < i) W)) := Lib.hid (fun W k => by
        have hne : ∀ i, (Value.slice A7 L.length c7).ownBlock = some i → ¬ (i = bw ∨ i = br) := fun i hi => by
          have := (World.ownsRow.lt HOWN.out i hi).1
          omega
        refine ⟨row_mono ((But.of_below (S := fun _ => False) k).row (HBT7.out.row HOWN.out hne) (fun _ _ hf => hf)) (by omega), fun m hm => ?_⟩
        exact ((((HATS.out m hm).mono (Q' := fun i => bw < i) (fun i _ hq => by omega)).but HBT7.out (fun i hi hq => by omega)).below k))
      have HISK : Hid (Calls Tryd.prog 53 #[wdV (k : Int) (o : Int) (s : Int) 0 0 0 0 (.slice A7 L.length c7)] W7 fun e w' => e = .returned (.bool (okW (wdOf (k : Int) (o : Int) (s : Int) 0 0 0 0 L))) ∧ Below W7.heap.size W7 w') := Lib.hid (ref17_is (k : Int) (o : Int) (s : Int) 0 0 0 0 A7 c7 L W7 (RowAt.of (HOWK.out W7 (Below.refl _ _)).1) (fun m hm => (HLB.out m hm).1) (by have := HL64.out; omega))
      have r0 := HRB7.out.c 0 _ rfl
      have r1 := HRB7.out.c 1 _ rfl
      have r2 := HRB7.out.c 2 _ rfl
      have r3 := HRB7.out.c 3 _ rfl
      have r4 := HRB7.out.c 4 _ rfl
      have r5 := HRB7.out.c 5 _ rfl
      have r6 := HRB7.out.c 6 _ rfl
      have r7 := HRB7.out.c 7 _ rfl
      have rf := HRB7.out.fz
      have rl := HRB7.out.lt
      have HWH := Lib.hid (rr_whole br (some []) W7 HR7.out)
      have x0 := HX7.out.c 0 _ rfl
      have x1 := HX7.out.c 1 _ rfl
      have x2 := HX7.out.c 2 _ rfl
      have x3 := HX7.out.c 3 _ rfl
      have x4 := HX7.out.c 4 _ rfl
      have x5 := HX7.out.c 5 _ rfl
      have x6 := HX7.out.c 6 _ rfl
      have x7 := HX7.out.c 7 _ rfl
      have xl := HX7.out.lt
      have hwh : (some [] : RSt) = some [] := rfl
      have t0 : decide ((some [] : RSt) = some []) = true := by simp
      rw [t0] at HWH
      have HCK : Hid (∀ bb, okW (wdOf (k : Int) (o : Int) (s : Int) 0 0 0 0 L) = bb → decW p = if bb then some (wdOf (k : Int) (o : Int) (s : Int) 0 0 0 0 L) else none) := Lib.hid (fun bb hbb => by
        rw [HDC.out]
        unfold chkW
        have hbb' : okW ⟨(k : Int), (o : Int), (s : Int), 0, 0, 0, 0, L.map Mr.r⟩ = bb := hbb
        cases bb
        · rw [if_neg (fun h => by have q := h.2; rw [show okW _ = false from hbb'] at q; cases q)]; rfl
        · rw [if_pos ⟨hwh, hbb'⟩]; rfl)
      clear t0 hwh
      have HIS := HISK
      cases hok : okW (wdOf (k : Int) (o : Int) (s : Int) 0 0 0 0 L)
      · have HD : Hid (decW p = none) := Lib.hid (HCK.out false hok)
        rw [hok] at HIS
        clear hok HCK
        go_wp2_with (first | (go_at_call 68; refine HWH.out.mono ?_; rintro e W7 ⟨rfl, rfl⟩) | (go_at_call 53; refine HIS.out.mono ?_; rintro e W9 ⟨rfl, k9⟩; have RB9 := HRB7.out.below k9; have HRB9 := Lib.hid RB9; have HB9 := Lib.hid (HB7.out.trans (k9.mono HB7.out.size)); clear k9 r0 r1 r2 r3 r4 r5 r6 r7 rf rl x0 x1 x2 x3 x4 x5 x6 x7 xl; have r0 := RB9.c 0 _ rfl; have r1 := RB9.c 1 _ rfl; have r2 := RB9.c 2 _ rfl; have r3 := RB9.c 3 _ rfl; have r4 := RB9.c 4 _ rfl; have r5 := RB9.c 5 _ rfl; have r6 := RB9.c 6 _ rfl; have r7 := RB9.c 7 _ rfl; have rf := RB9.fz; have rl := RB9.lt; clear RB9))
        have RBf := ((((((((HRB9.out.set 0 (by simp [zeroW]) (.int .i64 0)).set 1 (by simp [zeroW]) (.int .i64 0)).set 2 (by simp [zeroW]) (.int .i64 0)).set 3 (by simp [zeroW]) (.int .i64 0)).set 4 (by simp [zeroW]) (.int .i64 0)).set 5 (by simp [zeroW]) (.int .i64 0)).set 6 (by simp [zeroW]) (.int .i64 0)).set 7 (by simp [zeroW]) (.slice none 0 0))
        have z0 := RBf.c 0 _ rfl
        have z1 := RBf.c 1 _ rfl
        have z2 := RBf.c 2 _ rfl
        have z3 := RBf.c 3 _ rfl
        have z4 := RBf.c 4 _ rfl
        have z5 := RBf.c 5 _ rfl
        have z6 := RBf.c 6 _ rfl
        have z7 := RBf.c 7 _ rfl
        have HF : Hid (Below w.heap.size w _) := Lib.hid ((((((((HB9.out.setCell (p := ⟨w.heap.size, 0, none⟩) (Nat.le_refl _) (.int .i64 0)).setCell (p := ⟨w.heap.size, 1, none⟩) (Nat.le_refl _) (.int .i64 0)).setCell (p := ⟨w.heap.size, 2, none⟩) (Nat.le_refl _) (.int .i64 0)).setCell (p := ⟨w.heap.size, 3, none⟩) (Nat.le_refl _) (.int .i64 0)).setCell (p := ⟨w.heap.size, 4, none⟩) (Nat.le_refl _) (.int .i64 0)).setCell (p := ⟨w.heap.size, 5, none⟩) (Nat.le_refl _) (.int .i64 0)).setCell (p := ⟨w.heap.size, 6, none⟩) (Nat.le_refl _) (.int .i64 0)).setCell (p := ⟨w.heap.size, 7, none⟩) (Nat.le_refl _) (.slice none 0 0))
        refine bodyPost_ret (v := .tuple #[wdV 0 0 0 0 0 0 0 (.slice none 0 0), .int .i64 3]) (by simp [results, Tryd.results20, go_sem, z0, z1, z2, z3, z4, z5, z6, z7]) rfl ⟨rdec_no HF0.out (.inr (by rw [HPP.out]; exact HD.out)) rfl, HF.out⟩
      · have HD : Hid (decW p = some (wdOf (k : Int) (o : Int) (s : Int) 0 0 0 0 L)) := Lib.hid (HCK.out true hok)
        rw [hok] at HIS
        clear hok HCK
        go_wp2_with (first | (go_at_call 68; refine HWH.out.mono ?_; rintro e W7 ⟨rfl, rfl⟩) | (go_at_call 53; refine HIS.out.mono ?_; rintro e W9 ⟨rfl, k9⟩; have RB9 := HRB7.out.below k9; have HRB9 := Lib.hid RB9; have HB9 := Lib.hid (HB7.out.trans (k9.mono HB7.out.size)); have X9 := HX7.out.below k9; have HOW9 := HOWK.out _ k9; clear k9 r0 r1 r2 r3 r4 r5 r6 r7 rf rl x0 x1 x2 x3 x4 x5 x6 x7 xl; have r0 := RB9.c 0 _ rfl; have r1 := RB9.c 1 _ rfl; have r2 := RB9.c 2 _ rfl; have r3 := RB9.c 3 _ rfl; have r4 := RB9.c 4 _ rfl; have r5 := RB9.c 5 _ rfl; have r6 := RB9.c 6 _ rfl; have r7 := RB9.c 7 _ rfl; have rf := RB9.fz; have rl := RB9.lt; have x0 := X9.c 0 _ rfl; have x1 := X9.c 1 _ rfl; have x2 := X9.c 2 _ rfl; have x3 := X9.c 3 _ rfl; have x4 := X9.c 4 _ rfl; have x5 := X9.c 5 _ rfl; have x6 := X9.c 6 _ rfl; have x7 := X9.c 7 _ rfl; have xl := X9.lt; clear RB9 X9))
        have RBf := ((((((((HRB9.out.set 0 (by simp [zeroW]) (.int .i64 (k : Int))).set 1 (by simp [zeroW]) (.int .i64 (o : Int))).set 2 (by simp [zeroW]) (.int .i64 (s : Int))).set 3 (by simp [zeroW]) (.int .i64 0)).set 4 (by simp [zeroW]) (.int .i64 0)).set 5 (by simp [zeroW]) (.int .i64 0)).set 6 (by simp [zeroW]) (.int .i64 0)).set 7 (by simp [zeroW]) (.slice A7 L.length c7))
        have z0 := RBf.c 0 _ rfl
        have z1 := RBf.c 1 _ rfl
        have z2 := RBf.c 2 _ rfl
        have z3 := RBf.c 3 _ rfl
        have z4 := RBf.c 4 _ rfl
        have z5 := RBf.c 5 _ rfl
        have z6 := RBf.c 6 _ rfl
        have z7 := RBf.c 7 _ rfl
        have HF : Hid (Below w.heap.size w _) := Lib.hid ((((((((HB9.out.setCell (p := ⟨w.heap.size, 0, none⟩) (Nat.le_refl _) (.int .i64 (k : Int))).setCell (p := ⟨w.heap.size, 1, none⟩) (Nat.le_refl _) (.int .i64 (o : Int))).setCell (p := ⟨w.heap.size, 2, none⟩) (Nat.le_refl _) (.int .i64 (s : Int))).setCell (p := ⟨w.heap.size, 3, none⟩) (Nat.le_refl _) (.int .i64 0)).setCell (p := ⟨w.heap.size, 4, none⟩) (Nat.le_refl _) (.int .i64 0)).setCell (p := ⟨w.heap.size, 5, none⟩) (Nat.le_refl _) (.int .i64 0)).setCell (p := ⟨w.heap.size, 6, none⟩) (Nat.le_refl _) (.int .i64 0)).setCell (p := ⟨w.heap.size, 7, none⟩) (Nat.le_refl _) (.slice A7 L.length c7))
        refine bodyPost_ret (v := .tuple #[wdV (k : Int) (o : Int) (s : Int) 0 0 0 0 (.slice A7 L.length c7), .int .i64 0]) (by simp [results, Tryd.results20, go_sem, z0, z1, z2, z3, z4, z5, z6, z7]) rfl ⟨told_far HO0.out HPP.out HD.out HOW9 HL64.out HLB.out hww ((by (repeat' (first | (with_reducible exact But.refl _ _) | (with_reducible assumption) | (with_reducible refine But.setCell ?_ (fun _ => ?_) _) | (with_reducible refine But.alloc ?_ _) | (with_reducible refine But.drewN ?_ _) | (with_reducible refine But.drew ?_) | (show _ < _; simp only [World.size_alloc, World.size_setCell, World.heap_drewN]; omega) | go_size))) : But (fun i => i < bw) W9 _), HF.out⟩

  have q1 : ((k : Int) == 1) = false := by simpa using hk1
  by_cases hk3 : (k : Int) = 3
  · have q3 : ((k : Int) == 3) = true := by simpa using hk3
    have HDP := Lib.hid (HBT.out hk3)
    clear hk1 hk3 HPL HBT HRC HBAD hyb hqb hbyb hnb hcb hcbm r0 r1 r2 r3 r4 r5 r6 r7 rf rl
    have x0 := HX4.out.c 0 _ rfl
    have xl0 := HX4.out.lt
    go_wp2_with fail
    refine (rr_num br (some bs) W4 HR4.out (by omega)).mono ?_; rintro e W5 ⟨rfl, p5⟩
    have hl5 : rLeft (rNum (some bs)).2 ≤ 100000 := Nat.le_trans (rNum_left _) hl4
    have HRB5 := Lib.hid (HRB4.out.only p5.only hwr)
    have HB5 := Lib.hid (HB4.out.trans (p5.only.below (by omega) HB4.out.size))
    have HX5 := Lib.hid (HX4.out.only p5.only (by omega))
    have HR5 := Lib.hid p5.rd
    clear p5 HR4 HRB4 HB4 HX4
    clear x0 xl0
    go_wp2_with fail
    refine (rr_num br ((rNum (some bs)).2) W5 HR5.out (by omega)).mono ?_; rintro e W6 ⟨rfl, p6⟩
    have hl6 : rLeft (rNum ((rNum (some bs)).2)).2 ≤ 100000 := Nat.le_trans (rNum_left _) hl5
    have HRB6 := Lib.hid (HRB5.out.only p6.only hwr)
    have HB6 := Lib.hid (HB5.out.trans (p6.only.below (by omega) HB5.out.size))
    have HX6 := Lib.hid (HX5.out.only p6.only (by omega))
    have HR6 := Lib.hid p6.rd
    clear p6 HR5 HRB5 HB5 HX5
    generalize ((rNum (some bs)).1 : Nat) = n0 at *
    generalize ((rNum (rNum (some bs)).2).1 : Nat) = n1 at *
    generalize (rNum (rNum (some bs)).2).2 = sa at *
    have x3 := HX6.out.c 3 _ rfl
    have x4 := HX6.out.c 4 _ rfl
    have xf3 := HX6.out.fz 3
    have xf4 := HX6.out.fz 4
    have xl := HX6.out.lt
    go_upto_region 14 with fail
    obtain ⟨W7, hWW⟩ : ∃ W7, (W6.setCell ⟨bw, 3, none⟩ (.int .i64 (n0 : Int))).setCell ⟨bw, 4, none⟩ (.int .i64 (n1 : Int)) = W7 := ⟨_, rfl⟩
    have HX7 : Hid (XB W7 bw [.int .i64 (k : Int), .int .i64 (o : Int), .int .i64 (s : Int), .int .i64 (n0 : Int), .int .i64 (n1 : Int), .int .i64 0, .int .i64 0, .slice none 0 0]) := Lib.hid (by rw [← hWW]; exact (HX6.out.set 3 (by simp) _).set 4 (by simp) _)
    have HOO : Hid (Only bw W6 W7) := Lib.hid (by rw [← hWW]; (repeat' (first | (with_reducible exact Only.refl _ _) | (with_reducible assumption) | (with_reducible refine Only.alloc ?_ _) | (with_reducible refine Only.setB ?_ _) | (refine Only.setCell ?_ (Or.inr ?_) _) | (with_reducible refine Only.drewN ?_ _) | (with_reducible refine Only.drew ?_) | (with_reducible refine Only.trans ?_ (by with_reducible assumption)) | (with_reducible refine Only.trans ?_ (Only.of_below (by with_reducible assumption))) | go_size)))
    have HRB7 := Lib.hid (HRB6.out.only HOO.out hwb)
    have HB7 := Lib.hid (HB6.out.trans (HOO.out.below (by omega) HB6.out.size))
    have HR7 := Lib.hid (HR6.out.but (S := fun i => i = bw) (But.of_only HOO.out rfl) (by omega) (fun i e => by subst e; omega))
    have hl7 := hl6
    rw [hWW]
    clear hWW x3 x4 xf3 xf4 xl HX6 HRB6 HB6 HR6 HOO
    go_wp2_with fail
    refine (rr_num br (sa) W7 HR7.out (by omega)).mono ?_; rintro e W8 ⟨rfl, p8⟩
    have hl8 : rLeft (rNum (sa)).2 ≤ 100000 := Nat.le_trans (rNum_left _) hl7
    have HRB8 := Lib.hid (HRB7.out.only p8.only hwr)
    have HB8 := Lib.hid (HB7.out.trans (p8.only.below (by omega) HB7.out.size))
    have HX8 := Lib.hid (HX7.out.only p8.only (by omega))
    have HR8 := Lib.hid p8.rd
    clear p8 HR7 HRB7 HB7 HX7
    go_wp2_with fail
    refine (rr_num br ((rNum sa).2) W8 HR8.out (by omega)).mono ?_; rintro e W9a ⟨rfl, p9⟩
    have hl9 : rLeft (rNum ((rNum sa).2)).2 ≤ 100000 := Nat.le_trans (rNum_left _) hl8
    have HRB9 := Lib.hid (HRB8.out.only p9.only hwr)
    have HB9 := Lib.hid (HB8.out.trans (p9.only.below (by omega) HB8.out.size))
    have HX9 := Lib.hid (HX8.out.only p9.only (by omega))
    have HR9 := Lib.hid p9.rd
    clear p9 HR8 HRB8 HB8 HX8
    generalize ((rNum sa).1 : Nat) = n2 at *
    generalize ((rNum (rNum sa).2).1 : Nat) = n3 at *
    generalize (rNum (rNum sa).2).2 = sb at *
    have x5 := HX9.out.c 5 _ rfl
    have x6 := HX9.out.c 6 _ rfl
    have xf5 := HX9.out.fz 5
    have xf6 := HX9.out.fz 6
    have xl := HX9.out.lt
    go_upto_region 15 with fail
    obtain ⟨W10, hWW⟩ : ∃ W10, (W9a.setCell ⟨bw, 5, none⟩ (.int .i64 (n2 : Int))).setCell ⟨bw, 6, none⟩ (.int .i64 (n3 : Int)) = W10 := ⟨_, rfl⟩
    have HX10 : Hid (XB W10 bw [.int .i64 (k : Int), .int .i64 (o : Int), .int .i64 (s : Int), .int .i64 (n0 : Int), .int .i64 (n1 : Int), .int .i64 (n2 : Int), .int .i64 (n3 : Int), .slice none 0 0]) := Lib.hid (by rw [← hWW]; exact (HX9.out.set 5 (by simp) _).set 6 (by simp) _)
    have HOO : Hid (Only bw W9a W10) := Lib.hid (by rw [← hWW]; (repeat' (first | (with_reducible exact Only.refl _ _) | (with_reducible assumption) | (with_reducible refine Only.alloc ?_ _) | (with_reducible refine Only.setB ?_ _) | (refine Only.setCell ?_ (Or.inr ?_) _) | (with_reducible refine Only.drewN ?_ _) | (with_reducible refine Only.drew ?_) | (with_reducible refine Only.trans ?_ (by with_reducible assumption)) | (with_reducible refine Only.trans ?_ (Only.of_below (by with_reducible assumption))) | go_size)))
    have HRB10 := Lib.hid (HRB9.out.only HOO.out hwb)
    have HB10 := Lib.hid (HB9.out.trans (HOO.out.below (by omega) HB9.out.size))
    have HR10 := Lib.hid (HR9.out.but (S := fun i => i = bw) (But.of_only HOO.out rfl) (by omega) (fun i e => by subst e; omega))
    have hl10 := hl9
    rw [hWW]
    clear hWW x5 x6 xf5 xf6 xl HX9 HRB9 HB9 HR9 HOO
    have r0 := HRB10.out.c 0 _ rfl
    have r1 := HRB10.out.c 1 _ rfl
    have r2 := HRB10.out.c 2 _ rfl
    have r3 := HRB10.out.c 3 _ rfl
    have r4 := HRB10.out.c 4 _ rfl
    have r5 := HRB10.out.c 5 _ rfl
    have r6 := HRB10.out.c 6 _ rfl
    have r7 := HRB10.out.c 7 _ rfl
    have rf := HRB10.out.fz
    have rl := HRB10.out.lt
    have HWH := Lib.hid (rr_whole br (sb) _ HR10.out)
    have x0 := HX10.out.c 0 _ rfl
    have x1 := HX10.out.c 1 _ rfl
    have x2 := HX10.out.c 2 _ rfl
    have x3 := HX10.out.c 3 _ rfl
    have x4 := HX10.out.c 4 _ rfl
    have x5 := HX10.out.c 5 _ rfl
    have x6 := HX10.out.c 6 _ rfl
    have x7 := HX10.out.c 7 _ rfl
    have xl := HX10.out.lt
    by_cases hwh : (sb) = some []
    rotate_left
    · have t0 : decide ((sb) = some []) = false := by simpa using hwh
      rw [t0] at HWH
      have HD : Hid (decW p = none) := Lib.hid (by rw [HDP.out]; unfold chkW; rw [if_neg (fun h => hwh h.1)])
      clear t0 hwh
      go_wp2_with (go_at_call 68; refine HWH.out.mono ?_; rintro e W7 ⟨rfl, rfl⟩)
      have RBf := ((((((((HRB10.out.set 0 (by simp [zeroW]) (.int .i64 0)).set 1 (by simp [zeroW]) (.int .i64 0)).set 2 (by simp [zeroW]) (.int .i64 0)).set 3 (by simp [zeroW]) (.int .i64 0)).set 4 (by simp [zeroW]) (.int .i64 0)).set 5 (by simp [zeroW]) (.int .i64 0)).set 6 (by simp [zeroW]) (.int .i64 0)).set 7 (by simp [zeroW]) (.slice none 0 0))
      have z0 := RBf.c 0 _ rfl
      have z1 := RBf.c 1 _ rfl
      have z2 := RBf.c 2 _ rfl
      have z3 := RBf.c 3 _ rfl
      have z4 := RBf.c 4 _ rfl
      have z5 := RBf.c 5 _ rfl
      have z6 := RBf.c 6 _ rfl
      have z7 := RBf.c 7 _ rfl
      have HF : Hid (Below w.heap.size w _) := Lib.hid ((((((((HB10.out.setCell (p := ⟨w.heap.size, 0, none⟩) (Nat.le_refl _) (.int .i64 0)).setCell (p := ⟨w.heap.size, 1, none⟩) (Nat.le_refl _) (.int .i64 0)).setCell (p := ⟨w.heap.size, 2, none⟩) (Nat.le_refl _) (.int .i64 0)).setCell (p := ⟨w.heap.size, 3, none⟩) (Nat.le_refl _) (.int .i64 0)).setCell (p := ⟨w.heap.size, 4, none⟩) (Nat.le_refl _) (.int .i64 0)).setCell (p := ⟨w.heap.size, 5, none⟩) (Nat.le_refl _) (.int .i64 0)).setCell (p := ⟨w.heap.size, 6, none⟩) (Nat.le_refl _) (.int .i64 0)).setCell (p := ⟨w.heap.size, 7, none⟩) (Nat.le_refl _) (.slice none 0 0))
      refine bodyPost_ret (v := .tuple #[wdV 0 0 0 0 0 0 0 (.slice none 0 0), .int .i64 3]) (by simp [results, Tryd.results20, go_sem, z0, z1, z2, z3, z4, z5, z6, z7]) rfl ⟨rdec_no HF0.out (.inr (by rw [HPP.out]; exact HD.out)) rfl, HF.out⟩
    have t0 : decide ((sb) = some []) = true := by simpa using hwh
    rw [t0] at HWH
    have HCK : Hid (∀ bb, okW (wdOf (k : Int) (o : Int) (s : Int) (n0 : Int) (n1 : Int) (n2 : Int) (n3 : Int) []) = bb → decW p = if bb then some (wdOf (k : Int) (o : Int) (s : Int) (n0 : Int) (n1 : Int) (n2 : Int) (n3 : Int) []) else none) := Lib.hid (fun bb hbb => by
      rw [HDP.out]
      unfold chkW
      have hbb' : okW ⟨(k : Int), (o : Int), (s : Int), (n0 : Int), (n1 : Int), (n2 : Int), (n3 : Int), []⟩ = bb := hbb
      cases bb
      · rw [if_neg (fun h => by have q := h.2; rw [show okW _ = false from hbb'] at q; cases q)]; rfl
      · rw [if_pos ⟨hwh, hbb'⟩]; rfl)
    clear t0 hwh
    have HIS := Lib.hid (ref17_is (k : Int) (o : Int) (s : Int) (n0 : Int) (n1 : Int) (n2 : Int) (n3 : Int) none 0 [] W10 (rowAt_nil _) (fun m hm => by cases hm) (by simp))
    cases hok : okW (wdOf (k : Int) (o : Int) (s : Int) (n0 : Int) (n1 : Int) (n2 : Int) (n3 : Int) [])
    · have HD : Hid (decW p = none) := Lib.hid (HCK.out false hok)
      rw [hok] at HIS
      clear hok HCK
      go_wp2_with (first | (go_at_call 68; refine HWH.out.mono ?_; rintro e W7 ⟨rfl, rfl⟩) | (go_at_call 53; refine HIS.out.mono ?_; rintro e W9 ⟨rfl, k9⟩; have RB9 := HRB10.out.below k9; have HRB9 := Lib.hid RB9; have HB9 := Lib.hid (HB10.out.trans (k9.mono HB10.out.size)); clear k9 r0 r1 r2 r3 r4 r5 r6 r7 rf rl x0 x1 x2 x3 x4 x5 x6 x7 xl; have r0 := RB9.c 0 _ rfl; have r1 := RB9.c 1 _ rfl; have r2 := RB9.c 2 _ rfl; have r3 := RB9.c 3 _ rfl; have r4 := RB9.c 4 _ rfl; have r5 := RB9.c 5 _ rfl; have r6 := RB9.c 6 _ rfl; have r7 := RB9.c 7 _ rfl; have rf := RB9.fz; have rl := RB9.lt; clear RB9))
      have RBf := ((((((((HRB9.out.set 0 (by simp [zeroW]) (.int .i64 0)).set 1 (by simp [zeroW]) (.int .i64 0)).set 2 (by simp [zeroW]) (.int .i64 0)).set 3 (by simp [zeroW]) (.int .i64 0)).set 4 (by simp [zeroW]) (.int .i64 0)).set 5 (by simp [zeroW]) (.int .i64 0)).set 6 (by simp [zeroW]) (.int .i64 0)).set 7 (by simp [zeroW]) (.slice none 0 0))
      have z0 := RBf.c 0 _ rfl
      have z1 := RBf.c 1 _ rfl
      have z2 := RBf.c 2 _ rfl
      have z3 := RBf.c 3 _ rfl
      have z4 := RBf.c 4 _ rfl
      have z5 := RBf.c 5 _ rfl
      have z6 := RBf.c 6 _ rfl
      have z7 := RBf.c 7 _ rfl
      have HF : Hid (Below w.heap.size w _) := Lib.hid ((((((((HB9.out.setCell (p := ⟨w.heap.size, 0, none⟩) (Nat.le_refl _) (.int .i64 0)).setCell (p := ⟨w.heap.size, 1, none⟩) (Nat.le_refl _) (.int .i64 0)).setCell (p := ⟨w.heap.size, 2, none⟩) (Nat.le_refl _) (.int .i64 0)).setCell (p := ⟨w.heap.size, 3, none⟩) (Nat.le_refl _) (.int .i64 0)).setCell (p := ⟨w.heap.size, 4, none⟩) (Nat.le_refl _) (.int .i64 0)).setCell (p := ⟨w.heap.size, 5, none⟩) (Nat.le_refl _) (.int .i64 0)).setCell (p := ⟨w.heap.size, 6, none⟩) (Nat.le_refl _) (.int .i64 0)).setCell (p := ⟨w.heap.size, 7, none⟩) (Nat.le_refl _) (.slice none 0 0))
      refine bodyPost_ret (v := .tuple #[wdV 0 0 0 0 0 0 0 (.slice none 0 0), .int .i64 3]) (by simp [results, Tryd.results20, go_sem, z0, z1, z2, z3, z4, z5, z6, z7]) rfl ⟨rdec_no HF0.out (.inr (by rw [HPP.out]; exact HD.out)) rfl, HF.out⟩
    · have HD : Hid (decW p = some (wdOf (k : Int) (o : Int) (s : Int) (n0 : Int) (n1 : Int) (n2 : Int) (n3 : Int) [])) := Lib.hid (HCK.out true hok)
      rw [hok] at HIS
      clear hok HCK
      go_wp2_with (first | (go_at_call 68; refine HWH.out.mono ?_; rintro e W7 ⟨rfl, rfl⟩) | (go_at_call 53; refine HIS.out.mono ?_; rintro e W9 ⟨rfl, k9⟩; have RB9 := HRB10.out.below k9; have HRB9 := Lib.hid RB9; have HB9 := Lib.hid (HB10.out.trans (k9.mono HB10.out.size)); have X9 := HX10.out.below k9; clear k9 r0 r1 r2 r3 r4 r5 r6 r7 rf rl x0 x1 x2 x3 x4 x5 x6 x7 xl; have r0 := RB9.c 0 _ rfl; have r1 := RB9.c 1 _ rfl; have r2 := RB9.c 2 _ rfl; have r3 := RB9.c 3 _ rfl; have r4 := RB9.c 4 _ rfl; have r5 := RB9.c 5 _ rfl; have r6 := RB9.c 6 _ rfl; have r7 := RB9.c 7 _ rfl; have rf := RB9.fz; have rl := RB9.lt; have x0 := X9.c 0 _ rfl; have x1 := X9.c 1 _ rfl; have x2 := X9.c 2 _ rfl; have x3 := X9.c 3 _ rfl; have x4 := X9.c 4 _ rfl; have x5 := X9.c 5 _ rfl; have x6 := X9.c 6 _ rfl; have x7 := X9.c 7 _ rfl; have xl := X9.lt; clear RB9 X9))
      have RBf := ((((((((HRB9.out.set 0 (by simp [zeroW]) (.int .i64 (k : Int))).set 1 (by simp [zeroW]) (.int .i64 (o : Int))).set 2 (by simp [zeroW]) (.int .i64 (s : Int))).set 3 (by simp [zeroW]) (.int .i64 (n0 : Int))).set 4 (by simp [zeroW]) (.int .i64 (n1 : Int))).set 5 (by simp [zeroW]) (.int .i64 (n2 : Int))).set 6 (by simp [zeroW]) (.int .i64 (n3 : Int))).set 7 (by simp [zeroW]) (.slice none 0 0))
      have z0 := RBf.c 0 _ rfl
      have z1 := RBf.c 1 _ rfl
      have z2 := RBf.c 2 _ rfl
      have z3 := RBf.c 3 _ rfl
      have z4 := RBf.c 4 _ rfl
      have z5 := RBf.c 5 _ rfl
      have z6 := RBf.c 6 _ rfl
      have z7 := RBf.c 7 _ rfl
      have HF : Hid (Below w.heap.size w _) := Lib.hid ((((((((HB9.out.setCell (p := ⟨w.heap.size, 0, none⟩) (Nat.le_refl _) (.int .i64 (k : Int))).setCell (p := ⟨w.heap.size, 1, none⟩) (Nat.le_refl _) (.int .i64 (o : Int))).setCell (p := ⟨w.heap.size, 2, none⟩) (Nat.le_refl _) (.int .i64 (s : Int))).setCell (p := ⟨w.heap.size, 3, none⟩) (Nat.le_refl _) (.int .i64 (n0 : Int))).setCell (p := ⟨w.heap.size, 4, none⟩) (Nat.le_refl _) (.int .i64 (n1 : Int))).setCell (p := ⟨w.heap.size, 5, none⟩) (Nat.le_refl _) (.int .i64 (n2 : Int))).setCell (p := ⟨w.heap.size, 6, none⟩) (Nat.le_refl _) (.int .i64 (n3 : Int))).setCell (p := ⟨w.heap.size, 7, none⟩) (Nat.le_refl _) (.slice none 0 0))
      refine bodyPost_ret (v := .tuple #[wdV (k : Int) (o : Int) (s : Int) (n0 : Int) (n1 : Int) (n2 : Int) (n3 : Int) (.slice none 0 0), .int .i64 0]) (by simp [results, Tryd.results20, go_sem, z0, z1, z2, z3, z4, z5, z6, z7]) rfl ⟨.inr ⟨HO0.out, .inr (by rw [HPP.out]; exact told_none HD.out rfl)⟩, HF.out⟩

  have q3 : ((k : Int) == 3) = false := by simpa using hk3
  have HDP := Lib.hid (HPL.out hk1 hk3)
  clear hk1 hk3 HPL HBT HRC HBAD hyb hqb hbyb hnb hcb hcbm
  have HWH := Lib.hid (rr_whole br (some bs) _ HR4.out)
  have x0 := HX4.out.c 0 _ rfl
  have x1 := HX4.out.c 1 _ rfl
  have x2 := HX4.out.c 2 _ rfl
  have x3 := HX4.out.c 3 _ rfl
  have x4 := HX4.out.c 4 _ rfl
  have x5 := HX4.out.c 5 _ rfl
  have x6 := HX4.out.c 6 _ rfl
  have x7 := HX4.out.c 7 _ rfl
  have xl := HX4.out.lt
  by_cases hwh : (some bs) = some []
  rotate_left
  · have t0 : decide ((some bs) = some []) = false := by simpa using hwh
    rw [t0] at HWH
    have HD : Hid (decW p = none) := Lib.hid (by rw [HDP.out]; unfold chkW; rw [if_neg (fun h => hwh h.1)])
    clear t0 hwh
    go_wp2_with (go_at_call 68; refine HWH.out.mono ?_; rintro e W7 ⟨rfl, rfl⟩)
    have RBf := ((((((((HRB4.out.set 0 (by simp [zeroW]) (.int .i64 0)).set 1 (by simp [zeroW]) (.int .i64 0)).set 2 (by simp [zeroW]) (.int .i64 0)).set 3 (by simp [zeroW]) (.int .i64 0)).set 4 (by simp [zeroW]) (.int .i64 0)).set 5 (by simp [zeroW]) (.int .i64 0)).set 6 (by simp [zeroW]) (.int .i64 0)).set 7 (by simp [zeroW]) (.slice none 0 0))
    have z0 := RBf.c 0 _ rfl
    have z1 := RBf.c 1 _ rfl
    have z2 := RBf.c 2 _ rfl
    have z3 := RBf.c 3 _ rfl
    have z4 := RBf.c 4 _ rfl
    have z5 := RBf.c 5 _ rfl
    have z6 := RBf.c 6 _ rfl
    have z7 := RBf.c 7 _ rfl
    have HF : Hid (Below w.heap.size w _) := Lib.hid ((((((((HB4.out.setCell (p := ⟨w.heap.size, 0, none⟩) (Nat.le_refl _) (.int .i64 0)).setCell (p := ⟨w.heap.size, 1, none⟩) (Nat.le_refl _) (.int .i64 0)).setCell (p := ⟨w.heap.size, 2, none⟩) (Nat.le_refl _) (.int .i64 0)).setCell (p := ⟨w.heap.size, 3, none⟩) (Nat.le_refl _) (.int .i64 0)).setCell (p := ⟨w.heap.size, 4, none⟩) (Nat.le_refl _) (.int .i64 0)).setCell (p := ⟨w.heap.size, 5, none⟩) (Nat.le_refl _) (.int .i64 0)).setCell (p := ⟨w.heap.size, 6, none⟩) (Nat.le_refl _) (.int .i64 0)).setCell (p := ⟨w.heap.size, 7, none⟩) (Nat.le_refl _) (.slice none 0 0))
    refine bodyPost_ret (v := .tuple #[wdV 0 0 0 0 0 0 0 (.slice none 0 0), .int .i64 3]) (by simp [results, Tryd.results20, go_sem, z0, z1, z2, z3, z4, z5, z6, z7]) rfl ⟨rdec_no HF0.out (.inr (by rw [HPP.out]; exact HD.out)) rfl, HF.out⟩
  have t0 : decide ((some bs) = some []) = true := by simpa using hwh
  rw [t0] at HWH
  have HCK : Hid (∀ bb, okW (wdOf (k : Int) (o : Int) (s : Int) 0 0 0 0 []) = bb → decW p = if bb then some (wdOf (k : Int) (o : Int) (s : Int) 0 0 0 0 []) else none) := Lib.hid (fun bb hbb => by
    rw [HDP.out]
    unfold chkW
    have hbb' : okW ⟨(k : Int), (o : Int), (s : Int), 0, 0, 0, 0, []⟩ = bb := hbb
    cases bb
    · rw [if_neg (fun h => by have q := h.2; rw [show okW _ = false from hbb'] at q; cases q)]; rfl
    · rw [if_pos ⟨hwh, hbb'⟩]; rfl)
  clear t0 hwh
  have HIS := Lib.hid (ref17_is (k : Int) (o : Int) (s : Int) 0 0 0 0 none 0 [] W4 (rowAt_nil _) (fun m hm => by cases hm) (by simp))
  cases hok : okW (wdOf (k : Int) (o : Int) (s : Int) 0 0 0 0 [])
  · have HD : Hid (decW p = none) := Lib.hid (HCK.out false hok)
    rw [hok] at HIS
    clear hok HCK
    go_wp2_with (first | (go_at_call 68; refine HWH.out.mono ?_; rintro e W7 ⟨rfl, rfl⟩) | (go_at_call 53; refine HIS.out.mono ?_; rintro e W9 ⟨rfl, k9⟩; have RB9 := HRB4.out.below k9; have HRB9 := Lib.hid RB9; have HB9 := Lib.hid (HB4.out.trans (k9.mono HB4.out.size)); clear k9 r0 r1 r2 r3 r4 r5 r6 r7 rf rl x0 x1 x2 x3 x4 x5 x6 x7 xl; have r0 := RB9.c 0 _ rfl; have r1 := RB9.c 1 _ rfl; have r2 := RB9.c 2 _ rfl; have r3 := RB9.c 3 _ rfl; have r4 := RB9.c 4 _ rfl; have r5 := RB9.c 5 _ rfl; have r6 := RB9.c 6 _ rfl; have r7 := RB9.c 7 _ rfl; have rf := RB9.fz; have rl := RB9.lt; clear RB9))
    have RBf := ((((((((HRB9.out.set 0 (by simp [zeroW]) (.int .i64 0)).set 1 (by simp [zeroW]) (.int .i64 0)).set 2 (by simp [zeroW]) (.int .i64 0)).set 3 (by simp [zeroW]) (.int .i64 0)).set 4 (by simp [zeroW]) (.int .i64 0)).set 5 (by simp [zeroW]) (.int .i64 0)).set 6 (by simp [zeroW]) (.int .i64 0)).set 7 (by simp [zeroW]) (.slice none 0 0))
    have z0 := RBf.c 0 _ rfl
    have z1 := RBf.c 1 _ rfl
    have z2 := RBf.c 2 _ rfl
    have z3 := RBf.c 3 _ rfl
    have z4 := RBf.c 4 _ rfl
    have z5 := RBf.c 5 _ rfl
    have z6 := RBf.c 6 _ rfl
    have z7 := RBf.c 7 _ rfl
    have HF : Hid (Below w.heap.size w _) := Lib.hid ((((((((HB9.out.setCell (p := ⟨w.heap.size, 0, none⟩) (Nat.le_refl _) (.int .i64 0)).setCell (p := ⟨w.heap.size, 1, none⟩) (Nat.le_refl _) (.int .i64 0)).setCell (p := ⟨w.heap.size, 2, none⟩) (Nat.le_refl _) (.int .i64 0)).setCell (p := ⟨w.heap.size, 3, none⟩) (Nat.le_refl _) (.int .i64 0)).setCell (p := ⟨w.heap.size, 4, none⟩) (Nat.le_refl _) (.int .i64 0)).setCell (p := ⟨w.heap.size, 5, none⟩) (Nat.le_refl _) (.int .i64 0)).setCell (p := ⟨w.heap.size, 6, none⟩) (Nat.le_refl _) (.int .i64 0)).setCell (p := ⟨w.heap.size, 7, none⟩) (Nat.le_refl _) (.slice none 0 0))
    refine bodyPost_ret (v := .tuple #[wdV 0 0 0 0 0 0 0 (.slice none 0 0), .int .i64 3]) (by simp [results, Tryd.results20, go_sem, z0, z1, z2, z3, z4, z5, z6, z7]) rfl ⟨rdec_no HF0.out (.inr (by rw [HPP.out]; exact HD.out)) rfl, HF.out⟩
  · have HD : Hid (decW p = some (wdOf (k : Int) (o : Int) (s : Int) 0 0 0 0 [])) := Lib.hid (HCK.out true hok)
    rw [hok] at HIS
    clear hok HCK
    go_wp2_with (first | (go_at_call 68; refine HWH.out.mono ?_; rintro e W7 ⟨rfl, rfl⟩) | (go_at_call 53; refine HIS.out.mono ?_; rintro e W9 ⟨rfl, k9⟩; have RB9 := HRB4.out.below k9; have HRB9 := Lib.hid RB9; have HB9 := Lib.hid (HB4.out.trans (k9.mono HB4.out.size)); have X9 := HX4.out.below k9; clear k9 r0 r1 r2 r3 r4 r5 r6 r7 rf rl x0 x1 x2 x3 x4 x5 x6 x7 xl; have r0 := RB9.c 0 _ rfl; have r1 := RB9.c 1 _ rfl; have r2 := RB9.c 2 _ rfl; have r3 := RB9.c 3 _ rfl; have r4 := RB9.c 4 _ rfl; have r5 := RB9.c 5 _ rfl; have r6 := RB9.c 6 _ rfl; have r7 := RB9.c 7 _ rfl; have rf := RB9.fz; have rl := RB9.lt; have x0 := X9.c 0 _ rfl; have x1 := X9.c 1 _ rfl; have x2 := X9.c 2 _ rfl; have x3 := X9.c 3 _ rfl; have x4 := X9.c 4 _ rfl; have x5 := X9.c 5 _ rfl; have x6 := X9.c 6 _ rfl; have x7 := X9.c 7 _ rfl; have xl := X9.lt; clear RB9 X9))
    have RBf := ((((((((HRB9.out.set 0 (by simp [zeroW]) (.int .i64 (k : Int))).set 1 (by simp [zeroW]) (.int .i64 (o : Int))).set 2 (by simp [zeroW]) (.int .i64 (s : Int))).set 3 (by simp [zeroW]) (.int .i64 0)).set 4 (by simp [zeroW]) (.int .i64 0)).set 5 (by simp [zeroW]) (.int .i64 0)).set 6 (by simp [zeroW]) (.int .i64 0)).set 7 (by simp [zeroW]) (.slice none 0 0))
    have z0 := RBf.c 0 _ rfl
    have z1 := RBf.c 1 _ rfl
    have z2 := RBf.c 2 _ rfl
    have z3 := RBf.c 3 _ rfl
    have z4 := RBf.c 4 _ rfl
    have z5 := RBf.c 5 _ rfl
    have z6 := RBf.c 6 _ rfl
    have z7 := RBf.c 7 _ rfl
    have HF : Hid (Below w.heap.size w _) := Lib.hid ((((((((HB9.out.setCell (p := ⟨w.heap.size, 0, none⟩) (Nat.le_refl _) (.int .i64 (k : Int))).setCell (p := ⟨w.heap.size, 1, none⟩) (Nat.le_refl _) (.int .i64 (o : Int))).setCell (p := ⟨w.heap.size, 2, none⟩) (Nat.le_refl _) (.int .i64 (s : Int))).setCell (p := ⟨w.heap.size, 3, none⟩) (Nat.le_refl _) (.int .i64 0)).setCell (p := ⟨w.heap.size, 4, none⟩) (Nat.le_refl _) (.int .i64 0)).setCell (p := ⟨w.heap.size, 5, none⟩) (Nat.le_refl _) (.int .i64 0)).setCell (p := ⟨w.heap.size, 6, none⟩) (Nat.le_refl _) (.int .i64 0)).setCell (p := ⟨w.heap.size, 7, none⟩) (Nat.le_refl _) (.slice none 0 0))
    refine bodyPost_ret (v := .tuple #[wdV (k : Int) (o : Int) (s : Int) 0 0 0 0 (.slice none 0 0), .int .i64 0]) (by simp [results, Tryd.results20, go_sem, z0, z1, z2, z3, z4, z5, z6, z7]) rfl ⟨.inr ⟨HO0.out, .inr (by rw [HPP.out]; exact told_none HD.out rfl)⟩, HF.out⟩
theorem rwd_dec (A : Option Addr) (l : List Int) (c : Nat) (w : World) (hby : ByL w A l) (hb : isBy l) (hl : l.length ≤ 100000) (hc : l.length ≤ c) (hcm : c ≤ maxLen) :
    Calls Tryd.prog 20 #[.slice A l.length c] w fun e w' => RDec l w w' e ∧ Below w.heap.size w w' := by
  by_cases hf : frC l = 0
  · exact rwd_dec_ok A l c w hby hb (by omega) hc hcm hf (by unfold frP; rw [List.length_take, List.length_drop]; omega)
  · refine (rwd_dec_fr A l c w hby hb (by omega) hc hcm hf).mono ?_
    rintro e w' ⟨he, k⟩
    have hO : frO l = frC l := by unfold frO; rw [if_neg hf]
    exact ⟨.inl ⟨by rw [hO]; exact hf, by rw [hO]; exact he⟩, k⟩
end Go.Proofs.YtdffldlcbihjmaaDoor

/- Stage 17: WireDecodes: any bytes as a word, or refused, as the document has it. (for all bytes) -/
namespace Go.Proofs.YtdffldlcbihjmaaDoor
open Go.RowKit Go.Sort

def zWd : Wd := ⟨0, 0, 0, 0, 0, 0, 0, []⟩
/-- The word and the error that bytes tell. -/
def wdVal (l : List Int) : Wd := if frO l = 0 then (decW (frP l)).getD zWd else zWd
def wdErr (l : List Int) : Int := if frO l = 0 then (if (decW (frP l)).isSome then 0 else 3) else frO l
def WRes (l : List Int) (w w' : World) (e : Ending) : Prop := ∃ (k o s m1 c1 m2 c2 : Int) (L : List Mr) (A : Option Addr) (c : Nat), e = .returned (.tuple #[wdV k o s m1 c1 m2 c2 (.slice A L.length c), .int .i64 (wdErr l)]) ∧ wdOf k o s m1 c1 m2 c2 L = wdVal l ∧
  w'.ownsRow w.heap.size 89 9 (.slice A L.length c) L.length (rowM L) ∧ L.length ≤ 64 ∧ (∀ m ∈ L, m.At (fun i => w.heap.size ≤ i) w') ∧ (∀ m ∈ L, isBy m.r.key ∧ isBy m.r.val)
theorem wres_no {l : List Int} {w w' : World} {e : Ending} {x : Int} (he : NoW x e) (hx : wdErr l = x) (hv : wdVal l = zWd) : WRes l w w' e :=
  ⟨0, 0, 0, 0, 0, 0, 0, [], none, 0, by rw [hx]; exact he, hv.symm, World.ownsRow_nil _ _ _ _, by simp, (fun _ h => by cases h), (fun _ h => by cases h)⟩
theorem wres_yes {l : List Int} {w w' : World} {e : Ending} (h0 : frO l = 0) (h : WdTold (frP l) w w' e) : WRes l w w' e := by
  obtain ⟨k, o, s, m1, c1, m2, c2, L, A, c, hd, he, h1, h2, h3, h4⟩ := h
  exact ⟨k, o, s, m1, c1, m2, c2, L, A, c, by rw [he]; simp [wdErr, h0, hd], by simp [wdVal, h0, hd], h1, h2, h3, h4⟩
theorem wd_any (A : Option Addr) (l : List Int) (c : Nat) (w : World) (ht : Nib w) (hby : ByL w A l) (hb : isBy l) (hl : l.length ≤ 100000) (hc : l.length ≤ c) (hcm : c ≤ maxLen) :
    Calls Tryd.prog 18 #[.slice A l.length c] w fun e w' => WRes l w w' e ∧ Below w.heap.size w w' := by
  by_cases h0 : frO l = 0
  · refine (wd_dec_all A l c w ht hby hb (by omega) hc hcm h0 (by unfold frP; rw [List.length_take, List.length_drop]; omega)).mono ?_
    rintro e w' ⟨⟨hn, he⟩ | h, k⟩
    · exact ⟨wres_no he (by simp [wdErr, h0, hn]) (by simp [wdVal, h0, hn]), k⟩
    · exact ⟨wres_yes h0 h, k⟩
  · refine (wd_dec_no A l c w ht hby hb (by omega) hc hcm h0).mono ?_
    rintro e w' ⟨he, k⟩
    exact ⟨wres_no he (by simp [wdErr, h0]) (by simp [wdVal, h0]), k⟩
theorem rwd_any (A : Option Addr) (l : List Int) (c : Nat) (w : World) (hby : ByL w A l) (hb : isBy l) (hl : l.length ≤ 100000) (hc : l.length ≤ c) (hcm : c ≤ maxLen) :
    Calls Tryd.prog 20 #[.slice A l.length c] w fun e w' => WRes l w w' e ∧ Below w.heap.size w w' := by
  refine (rwd_dec A l c w hby hb hl hc hcm).mono ?_
  rintro e w' ⟨⟨h0, he⟩ | ⟨h0, ⟨hn, he⟩ | h⟩, k⟩
  · exact ⟨wres_no he (by simp [wdErr, h0]) (by simp [wdVal, h0]), k⟩
  · exact ⟨wres_no he (by simp [wdErr, h0, hn]) (by simp [wdVal, h0, hn]), k⟩
  · exact ⟨wres_yes h0 h, k⟩
theorem wdecodes_heavy (A : Option Addr) (p : List Int) (c : Nat) (w : World) (hh : 8000 < p.length) :
    Calls Tryd.prog 4 #[.slice A p.length c] w fun e w' => e = .returned (.bool true) ∧ Below w.heap.size w w' := by
  have d1 : decide ((8000 : Int) < (p.length : Int)) = true := by simp; omega
  go_enter Tryd.func4, Tryd.ntmps4
  go_wp2
  go_ret
  exact ⟨rfl, Below.refl _ _⟩
theorem words_ok (k o s m1 c1 m2 c2 k' o' s' m1' c1' m2' c2' : Int) (A A' : Option Addr) (c c' : Nat) (L L' : List Mr) (w : World) (h : RowAt w (.slice A L.length c) L) (h' : RowAt w (.slice A' L'.length c') L') (ha : ∀ m ∈ L, m.At (fun _ => True) w) (ha' : ∀ m ∈ L', m.At (fun _ => True) w) (hb : ∀ m ∈ L, isBy m.r.key ∧ isBy m.r.val) (hb' : ∀ m ∈ L', isBy m.r.key ∧ isBy m.r.val) (hl : L.length ≤ 100000)
    (he : wdOf k o s m1 c1 m2 c2 L = wdOf k' o' s' m1' c1' m2' c2' L') :
    Calls Tryd.prog 16 #[wdV k o s m1 c1 m2 c2 (.slice A L.length c), wdV k' o' s' m1' c1' m2' c2' (.slice A' L'.length c')] w fun e w' => e = .returned (.bool true) ∧ Below w.heap.size w w' :=
  (law_words k o s m1 c1 m2 c2 k' o' s' m1' c1' m2' c2' A A' c c' L L' w h h' ha ha' hb hb' hl).mono fun e w' ⟨⟨b, q, hq⟩, k⟩ => ⟨by rw [q, hq.2 he], k⟩
set_option maxRecDepth 100000 in
set_option maxHeartbeats 16000000 in
theorem wdecodes_light (A : Option Addr) (p : List Int) (c : Nat) (w : World) (ht : Nib w) (hby : ByL w A p) (hb : isBy p) (hn : A = none → p.length = 0) (hc : p.length ≤ c) (hcm : c ≤ maxLen) (hh : ¬ 8000 < p.length) :
    Calls Tryd.prog 4 #[.slice A p.length c] w fun e w' => e = .returned (.bool true) ∧ Below w.heap.size w w' := by
  have d1 : decide ((8000 : Int) < (p.length : Int)) = false := by simp; omega
  have hpl : p.length ≤ 8000 := by omega
  have HRO := Lib.hid (roomy14 A p c w hby hn (by omega))
  have HBA := Lib.hid hby
  have HREF : Hid (∀ W, Below w.heap.size w W → Calls Tryd.prog 20 #[.slice A p.length c] W fun e w' => WRes p W w' e ∧ Below W.heap.size W w') := Lib.hid (fun W k => rwd_any A p c W (hby.below k) hb (by omega) hc hcm)
  have HCD : Hid (∀ (W : World) (g cap : Nat), Nib W → ByL W (some ⟨g, 0, none⟩) p → p.length ≤ cap → cap ≤ maxLen → Calls Tryd.prog 18 #[.slice (some ⟨g, 0, none⟩) p.length cap] W fun e w' => WRes p W w' e ∧ Below W.heap.size W w') := Lib.hid (fun W g cap q1 q2 q3 q4 => wd_any (some ⟨g, 0, none⟩) p cap W q1 q2 hb (by omega) q3 q4)
  have HT := Lib.hid (fun (W : World) (q : Below w.heap.size w W) => ht.below q)
  clear hby hb hn hc hcm hh ht
  go_enter Tryd.func4, Tryd.ntmps4
  go_wp2_with fail
  refine HRO.out.mono ?_; rintro e U1 ⟨⟨g, cap, rfl, hr1, hr2, hrown⟩, k1⟩
  have HRP : Hid (U1.ownsRow w.heap.size 5 1 (.slice (some ⟨g, 0, none⟩) p.length cap) p.length (bC p)) := Lib.hid (own_first hrown rfl)
  have HYX : Hid (ByL U1 (some ⟨g, 0, none⟩) p) := Lib.hid (by
    obtain ⟨A1, c1, e1, y1, _, _⟩ := Own8.bytes HRP.out
    obtain ⟨rfl, rfl⟩ : some ⟨g, 0, none⟩ = A1 ∧ cap = c1 := by injection e1 with q1 q2 q3; exact ⟨q1, q3⟩
    exact y1)
  have HRN := Lib.hid hrown
  have HB1 := Lib.hid k1
  have hri : (p.length : Int) ≤ (cap : Int) := by omega
  have hri1 : (p.length : Int) + 1 ≤ (cap : Int) := by omega
  have hgl : g < U1.heap.size := (World.ownsRow.lt hrown g rfl).2
  clear hrown k1 HRO
  have HD1 := Lib.hid (HCD.out U1 g cap (HT.out _ HB1.out) HYX.out (by omega) hr2)
  go_wp2_with fail
  refine HD1.out.mono ?_; rintro e U2 ⟨⟨k, o, s, m1, c1, m2, c2, L, A1, d1, rfl, hv, hown, hl64, hats, hbys⟩, k2⟩
  obtain ⟨ec, hec⟩ : ∃ ec, wdErr p = ec := ⟨_, rfl⟩
  have HEC := Lib.hid hec
  rw [hec]
  have HV1 := Lib.hid hv
  have HLB1 := Lib.hid (And.intro hl64 hbys)
  have kA : Below U2.heap.size U2 (U2.alloc (.cells (wdC k o s m1 c1 m2 c2 (.slice A1 L.length d1)) 26)) := (Below.refl _ _).alloc (Nat.le_refl _) _
  have HB2 := Lib.hid (HB1.out.trans (k2.mono HB1.out.size))
  have HB2a := Lib.hid (HB2.out.trans (kA.mono HB2.out.size))
  have HRW1 := Lib.hid (row_mono (base' := U1.heap.size) hown (Nat.le_refl _))
  have HAT1 := Lib.hid hats
  have HG2 : Hid (U2.ownsRow w.heap.size 5 1 (.slice (some ⟨g, 0, none⟩) (p.length + 2) cap) (p.length + 2) (bC (p ++ [171, 171]))) := Lib.hid ((But.of_below (S := fun _ => False) k2).row HRN.out (fun _ _ hf => hf))
  have HKA := Lib.hid kA
  have z2 := k2.size
  clear hec hv hl64 hbys hown hats kA k2 HD1 HRN HRP HYX HB1
  have HD2 := Lib.hid (HREF.out _ HB2a.out)
  go_wp2_with fail
  refine HD2.out.mono ?_; rintro e U3 ⟨⟨k', o', s', m1', c1', m2', c2', L', A2, d2, rfl, hv, hown, hl64, hats, hbys⟩, k3⟩
  rw [HEC.out]
  have HV2 : Hid (wdOf k o s m1 c1 m2 c2 L = wdOf k' o' s' m1' c1' m2' c2' L') := Lib.hid (HV1.out.trans hv.symm)
  have HLB2 := Lib.hid (And.intro hl64 hbys)
  have kB : Below U3.heap.size U3 (U3.alloc (.cells (wdC k' o' s' m1' c1' m2' c2' (.slice A2 L'.length d2)) 34)) := (Below.refl _ _).alloc (Nat.le_refl _) _
  have z3 : U2.heap.size < U3.heap.size := by have := k3.size; simp at this; omega
  have kk : Below U2.heap.size U2 (U3.alloc (.cells (wdC k' o' s' m1' c1' m2' c2' (.slice A2 L'.length d2)) 34)) := (HKA.out.trans (k3.mono (by simp))).trans (kB.mono (by omega))
  have B3 := HB2.out.trans (kk.mono HB2.out.size)
  have HXa : Hid (XB (U3.alloc (.cells (wdC k' o' s' m1' c1' m2' c2' (.slice A2 L'.length d2)) 34)) U2.heap.size [.int .i64 k, .int .i64 o, .int .i64 s, .int .i64 m1, .int .i64 c1, .int .i64 m2, .int .i64 c2, .slice A1 L.length d1]) := Lib.hid (((XB.new U2 _ _).below k3).below kB)
  have HXb : Hid (XB (U3.alloc (.cells (wdC k' o' s' m1' c1' m2' c2' (.slice A2 L'.length d2)) 34)) U3.heap.size [.int .i64 k', .int .i64 o', .int .i64 s', .int .i64 m1', .int .i64 c1', .int .i64 m2', .int .i64 c2', .slice A2 L'.length d2]) := Lib.hid (XB.new U3 _ _)
  have HR1 := Lib.hid ((But.of_below (S := fun _ => False) kk).row HRW1.out (fun _ _ hf => hf))
  have HA1 := Lib.hid (fun m hm => (HAT1.out m hm).below kk)
  have HR2 := Lib.hid ((But.of_below (S := fun _ => False) kB).row (row_mono (base' := U1.heap.size) hown (by simp; omega)) (fun _ _ hf => hf))
  have HA2 : Hid (∀ m ∈ L', m.At (fun i => U1.heap.size ≤ i) (U3.alloc (.cells (wdC k' o' s' m1' c1' m2' c2' (.slice A2 L'.length d2)) 34))) := Lib.hid (fun m hm => ((hats m hm).below kB).mono (fun i _ hq => by simp at hq; omega))
  have HG3 := Lib.hid ((But.of_below (S := fun _ => False) kk).row HG2.out (fun _ _ hf => hf))
  have HB3 := Lib.hid B3
  clear hv hl64 hbys hown hats k3 kB kk B3 HD2 HB2 HB2a HG2 HRW1 HAT1 HKA HREF HCD
  go_upto_region 6 with fail
  generalize U3.alloc (.cells (wdC k' o' s' m1' c1' m2' c2' (.slice A2 L'.length d2)) 34) = U4 at *
  have HW1 := Lib.hid (words_ok k o s m1 c1 m2 c2 k' o' s' m1' c1' m2' c2' A1 A2 d1 d2 L L' U4 (RowAt.of HR1.out) (RowAt.of HR2.out) (fun m hm => (HA1.out m hm).mono (fun _ _ _ => trivial)) (fun m hm => (HA2.out m hm).mono (fun _ _ _ => trivial)) HLB1.out.2 HLB2.out.2 (by have := HLB1.out.1; omega) HV2.out)
  have a0 := HXa.out.c 0 _ rfl
  have a1 := HXa.out.c 1 _ rfl
  have a2 := HXa.out.c 2 _ rfl
  have a3 := HXa.out.c 3 _ rfl
  have a4 := HXa.out.c 4 _ rfl
  have a5 := HXa.out.c 5 _ rfl
  have a6 := HXa.out.c 6 _ rfl
  have a7 := HXa.out.c 7 _ rfl
  have al := HXa.out.lt
  have b0 := HXb.out.c 0 _ rfl
  have b1 := HXb.out.c 1 _ rfl
  have b2 := HXb.out.c 2 _ rfl
  have b3 := HXb.out.c 3 _ rfl
  have b4 := HXb.out.c 4 _ rfl
  have b5 := HXb.out.c 5 _ rfl
  have b6 := HXb.out.c 6 _ rfl
  have b7 := HXb.out.c 7 _ rfl
  have bl := HXb.out.lt
  go_wp2_with fail
  refine HW1.out.mono ?_; rintro e U5 ⟨rfl, k5⟩
  have HB5 := Lib.hid (HB3.out.trans (k5.mono HB3.out.size))
  have HXa5 := Lib.hid (HXa.out.below k5)
  have HXb5 := Lib.hid (HXb.out.below k5)
  have HR15 := Lib.hid ((But.of_below (S := fun _ => False) k5).row HR1.out (fun _ _ hf => hf))
  have HR25 := Lib.hid ((But.of_below (S := fun _ => False) k5).row HR2.out (fun _ _ hf => hf))
  have HA15 := Lib.hid (fun m hm => (HA1.out m hm).below k5)
  have HA25 := Lib.hid (fun m hm => (HA2.out m hm).below k5)
  have HG5 := Lib.hid ((But.of_below (S := fun _ => False) k5).row HG3.out (fun _ _ hf => hf))
  clear a0 a1 a2 a3 a4 a5 a6 a7 b0 b1 b2 b3 b4 b5 b6 b7 al bl
  clear k5 HW1 HB3 HXa HXb HR1 HR2 HA1 HA2 HG3
  have HST : Hid (ByL U5 (some ⟨g, 0, none⟩) (p ++ [171])) := Lib.hid (by
    have q := own_first (l := p ++ [171]) (r := [171]) (n := p.length + 1) (by rw [List.append_assoc]; exact HG5.out) (by simp)
    have e : (p ++ [171]).length = p.length + 1 := by simp
    rw [← e] at q
    obtain ⟨A5, c5, e5, y5, _, _⟩ := Own8.bytes q
    obtain ⟨rfl, rfl⟩ : some (⟨g, 0, none⟩ : Addr) = A5 ∧ cap = c5 := by injection e5 with q1 q2 q3; exact ⟨q1, q3⟩
    exact y5)
  have HSD := Lib.hid (stands14 g cap A p c U5 (by omega) (by omega) HST.out (HBA.out.below HB5.out))
  go_wp2_with fail
  refine HSD.out.mono ?_; rintro e U6 ⟨rfl, nq, rfl⟩
  clear HSD HST
  have q6 := own_first (l := p ++ [171]) (r := [171]) (n := p.length + 1) (by rw [List.append_assoc]; exact HG5.out) (by simp)
  have HSP := Lib.hid (spoil14 g (p.length + 1) cap w.heap.size (bC (p ++ [171])) (U5.drewN nq) q6 (HB5.out.size) (by omega))
  clear q6
  go_wp2_with fail
  refine HSP.out.mono ?_; rintro e U7 ⟨rfl, k7⟩
  have hx1 : ¬ U2.heap.size = g := by omega
  have hx2 : ¬ U3.heap.size = g := by omega
  have k7' : But (fun i => i = g) U5 U7 := (But.of_below (S := fun i => i = g) (drewN_below U5 nq)).trans k7 (fun _ _ hf => hf)
  have hgw : w.heap.size ≤ g := (World.ownsRow.lt HG5.out g rfl).1
  have HB7 := Lib.hid (HB5.out.trans (k7'.below (by rintro i rfl; exact hgw) HB5.out.size))
  have HXa7 := Lib.hid (HXa5.out.but k7' hx1)
  have HXb7 := Lib.hid (HXb5.out.but k7' hx2)
  have HR17 := Lib.hid (k7'.row HR15.out (fun i hi e => by have := (World.ownsRow.lt HR15.out i hi).1; omega))
  have HR27 := Lib.hid (k7'.row HR25.out (fun i hi e => by have := (World.ownsRow.lt HR25.out i hi).1; omega))
  have HA17 := Lib.hid (fun m hm => (HA15.out m hm).but k7' (fun i hi hq => by subst hi; omega))
  have HA27 := Lib.hid (fun m hm => (HA25.out m hm).but k7' (fun i hi hq => by subst hi; omega))
  clear k7 k7' HSP HB5 HXa5 HXb5 HR15 HR25 HA15 HA25 HG5
  have HW7 := Lib.hid (words_ok k o s m1 c1 m2 c2 k' o' s' m1' c1' m2' c2' A1 A2 d1 d2 L L' U7 (RowAt.of HR17.out) (RowAt.of HR27.out) (fun m hm => (HA17.out m hm).mono (fun _ _ _ => trivial)) (fun m hm => (HA27.out m hm).mono (fun _ _ _ => trivial)) HLB1.out.2 HLB2.out.2 (by have := HLB1.out.1; omega) HV2.out)
  have a0 := HXa7.out.c 0 _ rfl
  have a1 := HXa7.out.c 1 _ rfl
  have a2 := HXa7.out.c 2 _ rfl
  have a3 := HXa7.out.c 3 _ rfl
  have a4 := HXa7.out.c 4 _ rfl
  have a5 := HXa7.out.c 5 _ rfl
  have a6 := HXa7.out.c 6 _ rfl
  have a7 := HXa7.out.c 7 _ rfl
  have al := HXa7.out.lt
  have b0 := HXb7.out.c 0 _ rfl
  have b1 := HXb7.out.c 1 _ rfl
  have b2 := HXb7.out.c 2 _ rfl
  have b3 := HXb7.out.c 3 _ rfl
  have b4 := HXb7.out.c 4 _ rfl
  have b5 := HXb7.out.c 5 _ rfl
  have b6 := HXb7.out.c 6 _ rfl
  have b7 := HXb7.out.c 7 _ rfl
  have bl := HXb7.out.lt
  go_wp2_with fail
  refine HW7.out.mono ?_; rintro e U8 ⟨rfl, k8⟩
  have HB8 := Lib.hid (HB7.out.trans (k8.mono HB7.out.size))
  clear a0 a1 a2 a3 a4 a5 a6 a7 b0 b1 b2 b3 b4 b5 b6 b7 al bl
  clear k8 HW7
  go_wp2_with fail
  refine (known17 _ (HT.out _ HB8.out)).mono ?_; rintro e U9 ⟨rfl, k9⟩
  have HB9 := Lib.hid (HB8.out.trans (k9.mono HB8.out.size))
  clear k9
  go_wp2
  go_ret
  exact ⟨rfl, HB9.out⟩
end Go.Proofs.YtdffldlcbihjmaaDoor
namespace Go.Proofs.YtdffldlcbihjmaaDoor
open Go.ChangeShapes Go.WideShapes Go.ChangeAt Go.RowKit Go.Joins Go.Deep
set_option maxRecDepth 100000 in
theorem open_bytes_arg17 {H : Type} {enc : TypeId × Value → H} {w : World} {r : Reach} {b0 base : Nat} {sp : Nat → Bool} {v : Value} {d : DataW H} {p : List MemPlace} (hv : Value.okWide Tryd.prog w r b0 28 v) (h : DataW.Trod enc Tryd.prog w base sp true 28 v d p) :
    ∃ (A : Option Addr) (l : List Int) (c : Nat), v = .slice A l.length c ∧ ByL w A l ∧ isBy l ∧ (A = none → l.length = 0) ∧ l.length ≤ c ∧ c ≤ maxLen := by
  obtain ⟨a0, len, cap, rfl⟩ := okWide_slice Tryd.underlying28 hv
  obtain ⟨fuel, hf⟩ := h
  obtain ⟨A, l, c, hcs, h1, h2, hby, hb, hn, _⟩ := open_bytes hf
  simp [Value.cells] at hcs
  obtain ⟨rfl, rfl, rfl⟩ := hcs
  exact ⟨_, l, _, rfl, hby, hb, hn, h1, h2⟩
set_option maxRecDepth 100000 in
theorem wireDecodes_contract (H : Type) (enc : TypeId × Value → H) (W : World) (base : Nat) (args : Array Value) (ds gs : List (DataW H)) (before : List MemPlace)
    (hval0 : ∀ (j : Nat) t v, Tryd.f4.params[j]? = some t → args[j]? = some v → Value.okWide Tryd.prog W .any base t v)
    (hW : DataW.Whole enc Tryd.prog Tryd.f4.params.toList Rows.wireDecodesSpec.vars false W args.toList ds gs before)
    (hsz0 : (DataW.weightsEach Tryd.prog (Tryd.f4.params.toList ++ (OpenSpec.ofChange Rows.wireDecodesSpec).bare.plain.varTypes Tryd.prog) (ds ++ gs)).all (· ≤ reachBytes) = true) (hL : laidMetH Tryd.prog Rows.wireDecodesRow.laid W) (hS : W.ShapedOpen Tryd.prog) :
    Calls Tryd.prog 4 args W fun e W' => ∃ v, e = .returned v ∧ Rows.wireDecodesSpec.post enc Tryd.prog Tryd.f4 false true false false W args v W' := by
  have hval : ∀ (j : Nat) t v, Tryd.f4.params[j]? = some t → args[j]? = some v → Value.okWide Tryd.prog W .any base t v := hval0
  have hsz := hsz0
  have hW' := hW
  obtain ⟨p, q, hA0, hV, rfl, hfz, hnd⟩ := hW
  have hA : DataW.TrodAll enc Tryd.prog W 0 (fun _ => true) true Tryd.f4.params.toList args.toList ds p := hA0
  rw [Tryd.params4] at hA hval hsz
  have hsame : (Rows.wireDecodesSpec.fn H (ds ++ gs)).results = [.lit (.bool true)] ∧ (Rows.wireDecodesSpec.fn H (ds ++ gs)).args = ds ∧ (Rows.wireDecodesSpec.fn H (ds ++ gs)).vars = [] → ∀ W', Below W.heap.size W W' → Rows.wireDecodesSpec.post enc Tryd.prog Tryd.f4 false true false false W args (.bool true) W' :=
    fun h W' hb => law_post (tb := 4) hW' law_laid (by kernel_rfl) rfl Tryd.underlying4 h.1 h.2.1 rfl h.2.2 hb
  obtain ⟨v0, vs0, d0, ds0, p0, q0, hargs, rfl, rfl, h0, r0⟩ := trodAll_cons hA
  obtain ⟨rfl, rfl, rfl⟩ := trodAll_nil r0
  obtain rfl : args = #[v0] := by cases args; simp_all
  obtain ⟨rfl, rfl⟩ := trodVars_none hV
  have hpost := hsame ⟨rfl, rfl, rfl⟩
  clear hsame hA0 hval0 hsz0
  obtain ⟨A, l, c, rfl, hby, hb, hn, hc, hcm⟩ := open_bytes_arg17 (hval 0 28 v0 rfl rfl) h0
  have ht : Nib W := nib_of_laid hL
  by_cases h8 : 8000 < l.length
  · exact (wdecodes_heavy A l c W h8).mono fun e W' ⟨he, hb⟩ => ⟨_, he, hpost W' hb⟩
  · exact (wdecodes_light A l c W ht hby hb hn hc hcm h8).mono fun e W' ⟨he, hb⟩ => ⟨_, he, hpost W' hb⟩
theorem wireDecodes_reads (os : Os) {H : Type} (enc : TypeId × Value → H) : (DataW.whole enc Tryd.prog ((layW1 os).forCall (fun _ _ => 0) ⟨#[], #[.slice none 0 0], []⟩).memory Tryd.f4.params.toList Rows.wireDecodesSpec.vars false #[.slice none 0 0].toList 8).isSome = true := by kernel_rfl
theorem wireDecodes_met (os : Os) : laidMet Tryd.prog Rows.wireDecodesRow.laid ((layW1 os).forCall (fun _ _ => 0) ⟨#[], #[.slice none 0 0], []⟩).memory := laidMet_of_run' 8 (by kernel_rfl) (by kernel_rfl)
set_option maxRecDepth 100000 in
theorem wireDecodes_lifted (os : Os) (started : os.Started) (H : Type) (enc : TypeId × Value → H) (F : Stop.Interp) :
    ReturnsInHanded {} Tryd.checked os 4 .any ((OpenSpec.ofChange Rows.wireDecodesSpec).preRow enc Tryd.prog Tryd.f4 Rows.wireDecodesRow.domain false Rows.wireDecodesRow.laid) (((OpenSpec.ofChange Rows.wireDecodesSpec).at F).post enc Tryd.prog Tryd.f4 false true false false) := by
  obtain ⟨x, hx⟩ := Option.isSome_iff_exists.1 (wireDecodes_reads os enc)
  refine returnsInHanded_of_row (C := Tryd.checked) (s := OpenSpec.ofChange Rows.wireDecodesSpec) law_own started (by kernel_rfl) Tryd.func4
    (witness_row_at (enc := enc) (C := Tryd.checked) false (layW1 os) #[.slice none 0 0] rfl (by kernel_rfl) (by kernel_rfl) (by kernel_rfl)
      (OpenSpec.preRow_of_cond 8 hx (by rfl) (fun k hk => by cases hk) (by kernel_rfl) (wireDecodes_met os))) ?_
  intro W base args ds gs before hval hW _ _ hsz hL hS _
  exact wireDecodes_contract H enc W base args ds gs before hval hW hsz hL hS
theorem wireDecodes_said : Rows.WireDecodesSaid :=
  OpenClaim.holds_of_cond 4 Tryd.f4 rfl rfl rfl rfl rfl rfl rfl ⟨rfl, rfl, rfl, rfl, rfl⟩ rfl rfl rfl rfl rfl (by kernel_rfl) Tryd.func4 (by kernel_rfl)
    (of_decide_eq_true (by kernel_rfl)) (by unfold Func.isWrapper; first | (rw [if_pos (by decide +kernel)]; kernel_rfl) | (rw [if_neg (by decide +kernel)]; exact ⟨rfl, rfl⟩))
    (fun os started H enc _ F => by rw [OpenClaim.pre_eq_preRow]; exact wireDecodes_lifted os started H enc F)
theorem wireDecodes_holds : Rows.WireDecodesCardSaid :=
  Claim7.holds_tied_plain_at .later [] _ _ _ _ wireDecodes_said (fun _ h => by cases h) (by kernel_rfl) (fun _ h => by cases h) wireDecodes_row_tie rfl ⟨rfl, rfl⟩ (by kernel_rfl) rfl (plain_of (f0 := 4) (fn0 := Tryd.f4) (by kernel_rfl) Tryd.func4 (by kernel_rfl) (by kernel_rfl)) (by kernel_rfl)
end Go.Proofs.YtdffldlcbihjmaaDoor

