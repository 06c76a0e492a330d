/- wire.Decode: a beat (written by gen/wdbeat.py). -/
/- wire.Decode: records (written by gen/wdrecs.py). -/
/- wire.Decode of any word's bytes: told, or refused. -/
import Derived.Test.YtdffldlcbihjmaaDoorWdDec
import Derived.Test.YtdffldlcbihjmaaDoorRecIs
import Derived.Test.YtdffldlcbihjmaaDoorRecRdL
set_option linter.unusedSimpArgs false
set_option linter.unusedVariables false
namespace Go.Proofs.YtdffldlcbihjmaaDoor
open Go.RowKit Go.Sort

/-- What is told of a beat's bytes. -/
def BeatRes (p : List Int) (e : Ending) : Prop := (decW p = none ∧ NoW 3 e) ∨ (∃ x, decW p = some x ∧ e = .returned (.tuple #[wdV x.k x.o x.s x.m1 x.c1 x.m2 x.c2 (.slice none 0 0), .int .i64 0]))
theorem decW_beat {p : List Int} (h3 : (((numsR 3 (some p)).1.getD 0 0 : Nat) : Int) = 3) : decW p = chkW ⟨((numsR 3 (some p)).1.getD 0 0 : Nat), ((numsR 3 (some p)).1.getD 1 0 : Nat), ((numsR 3 (some p)).1.getD 2 0 : Nat), ((numsR 4 (numsR 3 (some p)).2).1.getD 0 0 : Nat), ((numsR 4 (numsR 3 (some p)).2).1.getD 1 0 : Nat), ((numsR 4 (numsR 3 (some p)).2).1.getD 2 0 : Nat), ((numsR 4 (numsR 3 (some p)).2).1.getD 3 0 : Nat), []⟩ (numsR 4 (numsR 3 (some p)).2).2 := by
  unfold decW
  simp only
  rw [if_neg (by rw [h3]; decide), if_pos h3]
set_option maxRecDepth 100000 in
set_option maxHeartbeats 8000000 in
theorem wd_dec_beat (A : Option Addr) (l : List Int) (c : Nat) (w : World) (ht : Nib w) (hby : ByL w A l) (hb : isBy l) (hl : l.length ≤ 1000000) (hc : l.length ≤ c) (hcm : c ≤ maxLen) (hf : frO l = 0) (hp : (frP l).length ≤ 100000)
    (h3 : (((numsR 3 (some (frP l))).1.getD 0 0 : Nat) : Int) = 3) :
    Calls Tryd.prog 18 #[.slice A l.length c] w fun e w' => BeatRes (frP l) e ∧ Below w.heap.size w w' := by
  have hb0 : Below w.heap.size w (w.alloc zwO) := by (repeat' (first | (with_reducible exact Below.refl _ _) | (with_reducible assumption) | (with_reducible refine Below.trans ?_ (Below.mono (by with_reducible assumption) ?_)) | (with_reducible refine Below.alloc ?_ ?_ _) | (with_reducible refine Below.setCell ?_ ?_ _) | (with_reducible refine below_drewN ?_ _) | (with_reducible refine Below.drew ?_) | go_size))
  have HO := Lib.hid (fr_one A l c (w.alloc zwO) (ht.below hb0) (hby.below hb0) hb hl hc hcm)
  have HB0 := Lib.hid hb0
  have HRB := Lib.hid (zeroW_new w)
  have HF0 := Lib.hid hf
  have HPB := Lib.hid (And.intro (frO_inv hb hf).2.1 hp)
  have HDP := Lib.hid (decW_beat h3)
  have HK := Lib.hid h3
  clear ht hby hb hl hc hcm hb0 hf hp h3
  go_enter Tryd.func18, Tryd.ntmps18
  go_wp2_with fail
  refine HO.out.mono ?_; rintro e W0 ⟨hr, k1⟩
  rcases hr with ⟨h0, _⟩ | ⟨_, g0, cap0, rfl, hown⟩
  · exact absurd HF0.out h0
  obtain ⟨p, hpp⟩ : ∃ p, frP l = p := ⟨_, rfl⟩
  rw [hpp] at hown HPB HDP HK
  have HPP := Lib.hid hpp
  rw [hpp]
  clear hpp
  have hb1 := HB0.out.trans (k1.mono HB0.out.size)
  have RB0 := HRB.out.below k1
  obtain ⟨A5, c5, e5, hy5, _⟩ := Own8.bytes hown
  obtain ⟨rfl, rfl⟩ : some (⟨g0, 0, none⟩ : Addr) = A5 ∧ cap0 = c5 := by injection e5 with q1 q2 q3; exact ⟨q1, q3⟩
  have kZ : Below W0.heap.size W0 (W0.alloc zwO) := (Below.refl _ _).alloc (Nat.le_refl _) _
  have HBZ := Lib.hid (hb1.trans (kZ.mono hb1.size))
  have HRBZ := Lib.hid (RB0.below kZ)
  have HXZ := Lib.hid (zeroW_new W0)
  have HNR := Lib.hid (new_reader (some ⟨g0, 0, none⟩) p cap0 (W0.alloc zwO) (hy5.below kZ) HPB.out.1 (fun e => by cases e) (by have := HPB.out.2; omega))
  have hw0 : w.heap.size < W0.heap.size := RB0.lt
  have hz2 : W0.heap.size + 1 ≤ (W0.alloc zwO).heap.size := by simp
  clear hown k1 hb1 RB0 hy5 kZ HO HB0 HRB e5
  go_wp2_with fail
  generalize W0.alloc zwO = Z at *
  refine HNR.out.mono ?_; rintro e W1 ⟨b, g, rfl, hR1, hg, hbg, k2, hgl⟩
  have l1 : W0.heap.size + 1 ≤ W1.heap.size := Nat.le_trans hz2 k2.size
  have hgq : W0.heap.size + 1 ≤ g := Nat.le_trans hz2 hg
  have hbq : W0.heap.size + 1 ≤ b := Nat.le_trans hz2 hbg
  have KA : Below W1.heap.size W1 (W1.alloc (.cells #[.pointer (some ⟨W0.heap.size, 0, none⟩), .pointer (some ⟨W0.heap.size, 1, none⟩), .pointer (some ⟨W0.heap.size, 2, none⟩)] 110)) := (Below.refl _ _).alloc (Nat.le_refl _) _
  have X1 := (HXZ.out.below k2).below KA
  have RB1 := (HRBZ.out.below k2).below KA
  have HN := Lib.hid (rd_nums b W1.heap.size 3 [(W0.heap.size, 0), (W0.heap.size, 1), (W0.heap.size, 2)] (some p) _ (hR1.below KA) (by show p.length ≤ _; have := HPB.out.2; omega) (by simp) (by have := hR1.lt; omega) (by
      intro j q
      rcases (show j = 0 ∨ j = 1 ∨ j = 2 from by simp at q; omega) with rfl | rfl | rfl <;> simp [go_sem]) (by
      intro p hp
      simp only [List.mem_cons, List.not_mem_nil, or_false] at hp
      rcases hp with rfl | rfl | rfl
      · exact X1.place (x := 0) rfl (by omega) (by omega) (by omega)
      · exact X1.place (x := 0) rfl (by omega) (by omega) (by omega)
      · exact X1.place (x := 0) rfl (by omega) (by omega) (by omega)) (by
      intro i j hi hj hij
      rcases (show (i = 0 ∧ j = 1) ∨ (i = 0 ∧ j = 2) ∨ (i = 1 ∧ j = 2) from by simp at hi hj; omega) with ⟨rfl, rfl⟩ | ⟨rfl, rfl⟩ | ⟨rfl, rfl⟩ <;> simp) (by simp))
  have HX1 := Lib.hid X1
  have HRB1 := Lib.hid RB1
  have HB1 := Lib.hid ((HBZ.out.trans (k2.mono (by omega))).trans (KA.mono (by omega)))
  clear hR1 hg hbg k2 KA X1 RB1 HXZ HRBZ HBZ HNR hz2
  go_wp2_with fail
  refine HN.out.mono ?_; rintro e W2 ⟨rfl, hN2⟩
  have X2 : XB W2 W0.heap.size [.int .i64 ((numsR 3 (some p)).1.getD 0 0 : Nat), .int .i64 ((numsR 3 (some p)).1.getD 1 0 : Nat), .int .i64 ((numsR 3 (some p)).1.getD 2 0 : Nat), .int .i64 0, .int .i64 0, .int .i64 0, .int .i64 0, .slice none 0 0] :=
    hN2.xb HX1.out (by omega) rfl (by
      intro j u hu
      rcases j with _ | _ | _ | j
      · left
        exact ⟨0, by simp, by simp, rfl, by simpa using hu.symm⟩
      · left
        exact ⟨1, by simp, by simp, rfl, by simpa using hu.symm⟩
      · left
        exact ⟨2, by simp, by simp, rfl, by simpa using hu.symm⟩
      · right
        refine ⟨by simpa [zeroW] using hu, fun i q hi => ?_⟩
        rcases (show i = 0 ∨ i = 1 ∨ i = 2 from by simp at q; omega) with rfl | rfl | rfl <;> simp)
  have RB2 : XB W2 w.heap.size zeroW := HRB1.out.but hN2.but (by
      rintro (e | ⟨p, hp, e⟩)
      · omega
      · simp only [List.mem_cons, List.not_mem_nil, or_false] at hp
        rcases hp with rfl | rfl | rfl <;> (have q : W0.heap.size = w.heap.size := e; omega))
  have B2 : Below w.heap.size w W2 := HB1.out.trans (hN2.but.below (by
      rintro i (rfl | ⟨p, hp, e⟩)
      · omega
      · simp only [List.mem_cons, List.not_mem_nil, or_false] at hp
        rcases hp with rfl | rfl | rfl <;> (have q : W0.heap.size = i := e; omega)) HB1.out.size)
  have hR2 := hN2.rd
  clear hN2 HN HX1 HRB1 HB1
  have HLS : Hid (rLeft (numsR 3 (some p)).2 ≤ 1000000) := Lib.hid (Nat.le_trans (numsR_left 3 (some p)) (by show p.length ≤ _; have := HPB.out.2; omega))
  generalize ((numsR 3 (some p)).1.getD 0 0 : Nat) = k at *
  generalize ((numsR 3 (some p)).1.getD 1 0 : Nat) = o at *
  generalize ((numsR 3 (some p)).1.getD 2 0 : Nat) = s at *
  change Rd _ W2 b (numsR 3 (some p)).2 at hR2
  generalize (numsR 3 (some p)).2 = st at *
  have HX2 := Lib.hid X2
  have HRB2 := Lib.hid RB2
  have HB2 := Lib.hid B2
  have x0 := X2.c 0 _ rfl
  have x1 := X2.c 1 _ rfl
  have x2 := X2.c 2 _ rfl
  have x3 := X2.c 3 _ rfl
  have x4 := X2.c 4 _ rfl
  have x5 := X2.c 5 _ rfl
  have x6 := X2.c 6 _ rfl
  have x7 := X2.c 7 _ rfl
  have xl := X2.lt
  have r0 := RB2.c 0 _ rfl
  have r1 := RB2.c 1 _ rfl
  have r2 := RB2.c 2 _ rfl
  have r3 := RB2.c 3 _ rfl
  have r4 := RB2.c 4 _ rfl
  have r5 := RB2.c 5 _ rfl
  have r6 := RB2.c 6 _ rfl
  have r7 := RB2.c 7 _ rfl
  have rf := RB2.fz
  have rl := RB2.lt
  have q1 : ((k : Int) == 1) = false := by rw [HK.out]; rfl
  have q3 : ((k : Int) == 3) = true := by rw [HK.out]; rfl
  have hne : w.heap.size ≠ W0.heap.size := by omega
  have KB : Below W2.heap.size W2 (W2.alloc (.cells #[.pointer (some ⟨W0.heap.size, 3, none⟩), .pointer (some ⟨W0.heap.size, 4, none⟩), .pointer (some ⟨W0.heap.size, 5, none⟩), .pointer (some ⟨W0.heap.size, 6, none⟩)] 110)) := (Below.refl _ _).alloc (Nat.le_refl _) _
  have X2b := X2.below KB
  have RB2b := RB2.below KB
  have hbl := hR2.lt
  have HN := Lib.hid (rd_nums b W2.heap.size 4 [(W0.heap.size, 3), (W0.heap.size, 4), (W0.heap.size, 5), (W0.heap.size, 6)] st _ (hR2.below KB) HLS.out (by simp) (by omega) (by
      intro j q
      rcases (show j = 0 ∨ j = 1 ∨ j = 2 ∨ j = 3 from by simp at q; omega) with rfl | rfl | rfl | rfl <;> simp [go_sem]) (by
      intro p hp
      simp only [List.mem_cons, List.not_mem_nil, or_false] at hp
      rcases hp with rfl | rfl | rfl | rfl
      · exact X2b.place (x := 0) rfl (by omega) (by omega) (by omega)
      · exact X2b.place (x := 0) rfl (by omega) (by omega) (by omega)
      · exact X2b.place (x := 0) rfl (by omega) (by omega) (by omega)
      · exact X2b.place (x := 0) rfl (by omega) (by omega) (by omega)) (by
      intro i j hi hj hij
      rcases (show (i = 0 ∧ j = 1) ∨ (i = 0 ∧ j = 2) ∨ (i = 0 ∧ j = 3) ∨ (i = 1 ∧ j = 2) ∨ (i = 1 ∧ j = 3) ∨ (i = 2 ∧ j = 3) from by simp at hi hj; omega) with ⟨rfl, rfl⟩ | ⟨rfl, rfl⟩ | ⟨rfl, rfl⟩ | ⟨rfl, rfl⟩ | ⟨rfl, rfl⟩ | ⟨rfl, rfl⟩ <;> simp) (by simp))
  have HX2b := Lib.hid X2b
  have HRB2b := Lib.hid RB2b
  have HB2b := Lib.hid (B2.trans (KB.mono B2.size))
  clear X2 RB2 B2 hR2 X2b RB2b KB HX2 HRB2 HB2
  go_wp2_with fail
  refine HN.out.mono ?_; rintro e W3 ⟨rfl, hN3⟩
  have X3 : XB W3 W0.heap.size [.int .i64 (k : Int), .int .i64 (o : Int), .int .i64 (s : Int), .int .i64 ((numsR 4 st).1.getD 0 0 : Nat), .int .i64 ((numsR 4 st).1.getD 1 0 : Nat), .int .i64 ((numsR 4 st).1.getD 2 0 : Nat), .int .i64 ((numsR 4 st).1.getD 3 0 : Nat), .slice none 0 0] :=
    hN3.xb HX2b.out (by omega) rfl (by
      intro j u hu
      rcases j with _ | _ | _ | _ | _ | _ | _ | j
      · right
        refine ⟨by simpa using hu, fun i q hi => ?_⟩
        rcases (show i = 0 ∨ i = 1 ∨ i = 2 ∨ i = 3 from by simp at q; omega) with rfl | rfl | rfl | rfl <;> simp
      · right
        refine ⟨by simpa using hu, fun i q hi => ?_⟩
        rcases (show i = 0 ∨ i = 1 ∨ i = 2 ∨ i = 3 from by simp at q; omega) with rfl | rfl | rfl | rfl <;> simp
      · right
        refine ⟨by simpa using hu, fun i q hi => ?_⟩
        rcases (show i = 0 ∨ i = 1 ∨ i = 2 ∨ i = 3 from by simp at q; omega) with rfl | rfl | rfl | rfl <;> simp
      · left
        exact ⟨0, by simp, by simp, rfl, by simpa using hu.symm⟩
      · left
        exact ⟨1, by simp, by simp, rfl, by simpa using hu.symm⟩
      · left
        exact ⟨2, by simp, by simp, rfl, by simpa using hu.symm⟩
      · left
        exact ⟨3, by simp, by simp, rfl, by simpa using hu.symm⟩
      · right
        refine ⟨by simpa using hu, fun i q hi => ?_⟩
        rcases (show i = 0 ∨ i = 1 ∨ i = 2 ∨ i = 3 from by simp at q; omega) with rfl | rfl | rfl | rfl <;> simp)
  have RB3 : XB W3 w.heap.size zeroW := HRB2b.out.but hN3.but (by
      rintro (e | ⟨p, hp, e⟩)
      · omega
      · simp only [List.mem_cons, List.not_mem_nil, or_false] at hp
        rcases hp with rfl | rfl | rfl | rfl <;> (have q : W0.heap.size = w.heap.size := e; omega))
  have B3 : Below w.heap.size w W3 := HB2b.out.trans (hN3.but.below (by
      rintro i (rfl | ⟨p, hp, e⟩)
      · omega
      · simp only [List.mem_cons, List.not_mem_nil, or_false] at hp
        rcases hp with rfl | rfl | rfl | rfl <;> (have q : W0.heap.size = i := e; omega)) HB2b.out.size)
  have hR3 := hN3.rd
  clear hN3 HN HX2b HRB2b HB2b x0 x1 x2 x3 x4 x5 x6 x7 xl r0 r1 r2 r3 r4 r5 r6 r7 rf rl
  generalize ((numsR 4 st).1.getD 0 0 : Nat) = n0 at *
  generalize ((numsR 4 st).1.getD 1 0 : Nat) = n1 at *
  generalize ((numsR 4 st).1.getD 2 0 : Nat) = n2 at *
  generalize ((numsR 4 st).1.getD 3 0 : Nat) = n3 at *
  change Rd _ W3 b (numsR 4 st).2 at hR3
  generalize (numsR 4 st).2 = su at *
  have HW6 := Lib.hid (rd_whole b su W3 hR3)
  have HX3 := Lib.hid X3
  have HRB3 := Lib.hid RB3
  have HB3 := Lib.hid B3
  have x0 := X3.c 0 _ rfl
  have x1 := X3.c 1 _ rfl
  have x2 := X3.c 2 _ rfl
  have x3 := X3.c 3 _ rfl
  have x4 := X3.c 4 _ rfl
  have x5 := X3.c 5 _ rfl
  have x6 := X3.c 6 _ rfl
  have x7 := X3.c 7 _ rfl
  have xl := X3.lt
  have r0 := RB3.c 0 _ rfl
  have r1 := RB3.c 1 _ rfl
  have r2 := RB3.c 2 _ rfl
  have r3 := RB3.c 3 _ rfl
  have r4 := RB3.c 4 _ rfl
  have r5 := RB3.c 5 _ rfl
  have r6 := RB3.c 6 _ rfl
  have r7 := RB3.c 7 _ rfl
  have rf := RB3.fz
  have rl := RB3.lt
  clear X3 RB3 B3 hR3
  by_cases hwh : su = some []
  rotate_left
  · have t0 : decide (su = some []) = false := by simpa using hwh
    rw [t0] at HW6
    have HD : Hid (decW p = none) := Lib.hid (by rw [HDP.out]; unfold chkW; rw [if_neg (fun h => hwh h.1)])
    clear t0 hwh
    go_wp2_with (go_at_call 64; refine HW6.out.mono ?_; rintro e W7 ⟨rfl, rfl⟩)
    have RBf := ((((((((HRB3.out.set 0 (by simp [zeroW]) (.int .i64 0)).set 1 (by simp [zeroW]) (.int .i64 0)).set 2 (by simp [zeroW]) (.int .i64 0)).set 3 (by simp [zeroW]) (.int .i64 0)).set 4 (by simp [zeroW]) (.int .i64 0)).set 5 (by simp [zeroW]) (.int .i64 0)).set 6 (by simp [zeroW]) (.int .i64 0)).set 7 (by simp [zeroW]) (.slice none 0 0))
    have z0 := RBf.c 0 _ rfl
    have z1 := RBf.c 1 _ rfl
    have z2 := RBf.c 2 _ rfl
    have z3 := RBf.c 3 _ rfl
    have z4 := RBf.c 4 _ rfl
    have z5 := RBf.c 5 _ rfl
    have z6 := RBf.c 6 _ rfl
    have z7 := RBf.c 7 _ rfl
    have HF : Hid (Below w.heap.size w _) := Lib.hid ((((((((HB3.out.setCell (p := ⟨w.heap.size, 0, none⟩) (Nat.le_refl _) (.int .i64 0)).setCell (p := ⟨w.heap.size, 1, none⟩) (Nat.le_refl _) (.int .i64 0)).setCell (p := ⟨w.heap.size, 2, none⟩) (Nat.le_refl _) (.int .i64 0)).setCell (p := ⟨w.heap.size, 3, none⟩) (Nat.le_refl _) (.int .i64 0)).setCell (p := ⟨w.heap.size, 4, none⟩) (Nat.le_refl _) (.int .i64 0)).setCell (p := ⟨w.heap.size, 5, none⟩) (Nat.le_refl _) (.int .i64 0)).setCell (p := ⟨w.heap.size, 6, none⟩) (Nat.le_refl _) (.int .i64 0)).setCell (p := ⟨w.heap.size, 7, none⟩) (Nat.le_refl _) (.slice none 0 0))
    refine bodyPost_ret (v := .tuple #[wdV 0 0 0 0 0 0 0 (.slice none 0 0), .int .i64 3]) (by simp [results, Tryd.results18, go_sem, z0, z1, z2, z3, z4, z5, z6, z7]) rfl ⟨.inl ⟨by rw [HPP.out]; exact HD.out, rfl⟩, HF.out⟩
  have t0 : decide (su = some []) = true := by simpa using hwh
  rw [t0] at HW6
  have HIS := Lib.hid (wd_is (k : Int) (o : Int) (s : Int) (n0 : Int) (n1 : Int) (n2 : Int) (n3 : Int) none 0 [] W3 (rowAt_nil W3) (fun m hm => by cases hm) (by simp))
  have HCK : Hid (∀ bb, okW (wdOf (k : Int) (o : Int) (s : Int) (n0 : Int) (n1 : Int) (n2 : Int) (n3 : Int) []) = bb → decW p = if bb then some (wdOf (k : Int) (o : Int) (s : Int) (n0 : Int) (n1 : Int) (n2 : Int) (n3 : Int) []) else none) := Lib.hid (fun bb hbb => by
    rw [HDP.out]
    unfold chkW
    have hbb' : okW ⟨(k : Int), (o : Int), (s : Int), (n0 : Int), (n1 : Int), (n2 : Int), (n3 : Int), []⟩ = bb := hbb
    rw [hbb']
    cases bb
    · rw [if_neg (fun h => by cases h.2)]; rfl
    · rw [if_pos ⟨hwh, rfl⟩]; rfl)
  clear t0 hwh
  cases hok : okW (wdOf (k : Int) (o : Int) (s : Int) (n0 : Int) (n1 : Int) (n2 : Int) (n3 : Int) [])
  · have HD : Hid (decW p = none) := Lib.hid (HCK.out false hok)
    rw [hok] at HIS
    clear hok HCK
    go_wp2_with (first | (go_at_call 64; refine HW6.out.mono ?_; rintro e W7 ⟨rfl, rfl⟩) | (go_at_call 47; refine HIS.out.mono ?_; rintro e W7 ⟨rfl, k7⟩; have RB7 := HRB3.out.below k7; have HRB7 := Lib.hid RB7; have HB7 := Lib.hid (HB3.out.trans (k7.mono HB3.out.size)); clear k7 r0 r1 r2 r3 r4 r5 r6 r7 rf rl; have r0 := RB7.c 0 _ rfl; have r1 := RB7.c 1 _ rfl; have r2 := RB7.c 2 _ rfl; have r3 := RB7.c 3 _ rfl; have r4 := RB7.c 4 _ rfl; have r5 := RB7.c 5 _ rfl; have r6 := RB7.c 6 _ rfl; have r7 := RB7.c 7 _ rfl; have rf := RB7.fz; have rl := RB7.lt; clear RB7))
    have RBf := ((((((((HRB7.out.set 0 (by simp [zeroW]) (.int .i64 0)).set 1 (by simp [zeroW]) (.int .i64 0)).set 2 (by simp [zeroW]) (.int .i64 0)).set 3 (by simp [zeroW]) (.int .i64 0)).set 4 (by simp [zeroW]) (.int .i64 0)).set 5 (by simp [zeroW]) (.int .i64 0)).set 6 (by simp [zeroW]) (.int .i64 0)).set 7 (by simp [zeroW]) (.slice none 0 0))
    have z0 := RBf.c 0 _ rfl
    have z1 := RBf.c 1 _ rfl
    have z2 := RBf.c 2 _ rfl
    have z3 := RBf.c 3 _ rfl
    have z4 := RBf.c 4 _ rfl
    have z5 := RBf.c 5 _ rfl
    have z6 := RBf.c 6 _ rfl
    have z7 := RBf.c 7 _ rfl
    have HF : Hid (Below w.heap.size w _) := Lib.hid ((((((((HB7.out.setCell (p := ⟨w.heap.size, 0, none⟩) (Nat.le_refl _) (.int .i64 0)).setCell (p := ⟨w.heap.size, 1, none⟩) (Nat.le_refl _) (.int .i64 0)).setCell (p := ⟨w.heap.size, 2, none⟩) (Nat.le_refl _) (.int .i64 0)).setCell (p := ⟨w.heap.size, 3, none⟩) (Nat.le_refl _) (.int .i64 0)).setCell (p := ⟨w.heap.size, 4, none⟩) (Nat.le_refl _) (.int .i64 0)).setCell (p := ⟨w.heap.size, 5, none⟩) (Nat.le_refl _) (.int .i64 0)).setCell (p := ⟨w.heap.size, 6, none⟩) (Nat.le_refl _) (.int .i64 0)).setCell (p := ⟨w.heap.size, 7, none⟩) (Nat.le_refl _) (.slice none 0 0))
    refine bodyPost_ret (v := .tuple #[wdV 0 0 0 0 0 0 0 (.slice none 0 0), .int .i64 3]) (by simp [results, Tryd.results18, go_sem, z0, z1, z2, z3, z4, z5, z6, z7]) rfl ⟨.inl ⟨by rw [HPP.out]; exact HD.out, rfl⟩, HF.out⟩
  · have HD : Hid (decW p = some (wdOf (k : Int) (o : Int) (s : Int) (n0 : Int) (n1 : Int) (n2 : Int) (n3 : Int) [])) := Lib.hid (HCK.out true hok)
    rw [hok] at HIS
    clear hok HCK
    go_wp2_with (first | (go_at_call 64; refine HW6.out.mono ?_; rintro e W7 ⟨rfl, rfl⟩) | (go_at_call 47; refine HIS.out.mono ?_; rintro e W7 ⟨rfl, k7⟩; have RB7 := HRB3.out.below k7; have X7 := HX3.out.below k7; have HRB7 := Lib.hid RB7; have HB7 := Lib.hid (HB3.out.trans (k7.mono HB3.out.size)); clear k7 r0 r1 r2 r3 r4 r5 r6 r7 rf rl x0 x1 x2 x3 x4 x5 x6 x7 xl; have r0 := RB7.c 0 _ rfl; have r1 := RB7.c 1 _ rfl; have r2 := RB7.c 2 _ rfl; have r3 := RB7.c 3 _ rfl; have r4 := RB7.c 4 _ rfl; have r5 := RB7.c 5 _ rfl; have r6 := RB7.c 6 _ rfl; have r7 := RB7.c 7 _ rfl; have rf := RB7.fz; have rl := RB7.lt; have x0 := X7.c 0 _ rfl; have x1 := X7.c 1 _ rfl; have x2 := X7.c 2 _ rfl; have x3 := X7.c 3 _ rfl; have x4 := X7.c 4 _ rfl; have x5 := X7.c 5 _ rfl; have x6 := X7.c 6 _ rfl; have x7 := X7.c 7 _ rfl; have xl := X7.lt; clear RB7 X7))
    have RBf := ((((((((HRB7.out.set 0 (by simp [zeroW]) (.int .i64 (k : Int))).set 1 (by simp [zeroW]) (.int .i64 (o : Int))).set 2 (by simp [zeroW]) (.int .i64 (s : Int))).set 3 (by simp [zeroW]) (.int .i64 (n0 : Int))).set 4 (by simp [zeroW]) (.int .i64 (n1 : Int))).set 5 (by simp [zeroW]) (.int .i64 (n2 : Int))).set 6 (by simp [zeroW]) (.int .i64 (n3 : Int))).set 7 (by simp [zeroW]) (.slice none 0 0))
    have z0 := RBf.c 0 _ rfl
    have z1 := RBf.c 1 _ rfl
    have z2 := RBf.c 2 _ rfl
    have z3 := RBf.c 3 _ rfl
    have z4 := RBf.c 4 _ rfl
    have z5 := RBf.c 5 _ rfl
    have z6 := RBf.c 6 _ rfl
    have z7 := RBf.c 7 _ rfl
    have HF : Hid (Below w.heap.size w _) := Lib.hid ((((((((HB7.out.setCell (p := ⟨w.heap.size, 0, none⟩) (Nat.le_refl _) (.int .i64 (k : Int))).setCell (p := ⟨w.heap.size, 1, none⟩) (Nat.le_refl _) (.int .i64 (o : Int))).setCell (p := ⟨w.heap.size, 2, none⟩) (Nat.le_refl _) (.int .i64 (s : Int))).setCell (p := ⟨w.heap.size, 3, none⟩) (Nat.le_refl _) (.int .i64 (n0 : Int))).setCell (p := ⟨w.heap.size, 4, none⟩) (Nat.le_refl _) (.int .i64 (n1 : Int))).setCell (p := ⟨w.heap.size, 5, none⟩) (Nat.le_refl _) (.int .i64 (n2 : Int))).setCell (p := ⟨w.heap.size, 6, none⟩) (Nat.le_refl _) (.int .i64 (n3 : Int))).setCell (p := ⟨w.heap.size, 7, none⟩) (Nat.le_refl _) (.slice none 0 0))
    refine bodyPost_ret (v := .tuple #[wdV (k : Int) (o : Int) (s : Int) (n0 : Int) (n1 : Int) (n2 : Int) (n3 : Int) (.slice none 0 0), .int .i64 0]) (by simp [results, Tryd.results18, go_sem, z0, z1, z2, z3, z4, z5, z6, z7]) rfl ⟨.inr ⟨_, by rw [HPP.out]; exact HD.out, rfl⟩, HF.out⟩
end Go.Proofs.YtdffldlcbihjmaaDoor
namespace Go.Proofs.YtdffldlcbihjmaaDoor
open Go.RowKit Go.Sort

/-- What is told of the bytes of a word of records. -/
def RecsRes (p : List Int) (w w' : World) (e : Ending) : Prop := (decW p = none ∧ NoW 3 e) ∨ (∃ (k o s : Int) (L : List Mr) (A : Option Addr) (c : Nat), decW p = some (wdOf k o s 0 0 0 0 L) ∧ e = .returned (.tuple #[wdV k o s 0 0 0 0 (.slice A L.length c), .int .i64 0]) ∧ w'.ownsRow w.heap.size 89 9 (.slice A L.length c) L.length (rowM L) ∧ L.length ≤ 64 ∧ (∀ m ∈ L, m.At (fun i => w.heap.size ≤ i) w') ∧ (∀ m ∈ L, isBy m.r.key ∧ isBy m.r.val))
theorem decW_recs {p : List Int} (h9 : (((numsR 3 (some p)).1.getD 0 0 : Nat) : Int) = 1) : decW p = match rdL (rRaw (rLeft (numsR 3 (some p)).2) (numsR 3 (some p)).2).1 with
    | none => none
    | some rs => chkW ⟨((numsR 3 (some p)).1.getD 0 0 : Nat), ((numsR 3 (some p)).1.getD 1 0 : Nat), ((numsR 3 (some p)).1.getD 2 0 : Nat), 0, 0, 0, 0, rs⟩ (rRaw (rLeft (numsR 3 (some p)).2) (numsR 3 (some p)).2).2 := by
  unfold decW
  simp only
  rw [if_pos h9]
  rfl
theorem row_mono {w : World} {base base' : Nat} {e : TypeId} {size : Nat} {v : Value} {n : Nat} {xs : List Value} (h : w.ownsRow base e size v n xs) (hb : base' ≤ base) : w.ownsRow base' e size v n xs := by
  refine ⟨h.1, ?_⟩
  rcases h.2 with q | ⟨g, cap, cur, e1, h1, rest⟩
  · exact .inl q
  · exact .inr ⟨g, cap, cur, e1, Nat.le_trans hb h1, rest⟩
theorem raw_len (s : RSt) : (rRaw (rLeft s) s).1.length ≤ rLeft s := by
  cases s with
  | none => rw [rRaw_none]; simp
  | some bs => rw [show rRaw (rLeft (some bs)) (some bs) = (bs.take bs.length, some (bs.drop bs.length)) from rRaw_yes (Nat.le_refl _)]; show (bs.take bs.length).length ≤ bs.length; simp
theorem raw_by {s : RSt} (h : stBy s) : isBy (rRaw (rLeft s) s).1 := by
  cases s with
  | none => rw [rRaw_none]; exact isBy_nil
  | some bs => rw [show rRaw (rLeft (some bs)) (some bs) = (bs.take bs.length, some (bs.drop bs.length)) from rRaw_yes (Nat.le_refl _)]; exact isBy_take (h bs rfl) _
theorem listR_by : ∀ (n : Nat) (s : RSt) (acc : List Rc) (rs : List Rc) (t : RSt), stBy s → (∀ r ∈ acc, isBy r.key ∧ isBy r.val) → acc.length ≤ 100000 - n → n ≤ 100000 → listR n s acc = some (rs, t) → (∀ r ∈ rs, isBy r.key ∧ isBy r.val) ∧ rs.length ≤ 100000
  | 0, s, acc, rs, t, _, ha, hl, _, h => by
    rw [listR] at h
    injection h with h
    injection h with h1 _
    subst h1
    exact ⟨ha, by omega⟩
  | n + 1, s, acc, rs, t, hs, ha, hl, hn, h => by
    cases hd : decR (rBytes s).1 with
    | none => rw [listR_none hd] at h; cases h
    | some r =>
      rw [listR_some hd] at h
      have hb := rBytes_by hs
      refine listR_by n (rBytes s).2 (acc ++ [r]) rs t hb.1 (fun x hx => ?_) (by rw [List.length_append]; simp; omega) (by omega) h
      rcases List.mem_append.1 hx with q | q
      · exact ha x q
      · rw [List.mem_singleton.1 q]
        exact decR_by hb.2 hd
theorem rdL_by {l : List Int} {rs : List Rc} (h : isBy l) (hy : rdL l = some rs) : ∀ r ∈ rs, isBy r.key ∧ isBy r.val := by
  unfold rdL at hy
  split at hy
  · cases hy
  · rename_i hn
    split at hy
    · rename_i rs' heq
      injection hy with hy
      subst hy
      have hs : stBy (some l) := fun bs e => by injection e with e; exact e ▸ h
      exact (listR_by _ _ [] _ _ (rNum_by hs) (fun r hr => by cases hr) (by simp) (by omega) heq).1
    · cases hy
set_option maxRecDepth 100000 in
set_option maxHeartbeats 8000000 in
theorem wd_dec_recs (A : Option Addr) (l : List Int) (c : Nat) (w : World) (ht : Nib w) (hby : ByL w A l) (hb : isBy l) (hl : l.length ≤ 1000000) (hc : l.length ≤ c) (hcm : c ≤ maxLen) (hf : frO l = 0) (hp : (frP l).length ≤ 100000)
    (h9 : (((numsR 3 (some (frP l))).1.getD 0 0 : Nat) : Int) = 1) :
    Calls Tryd.prog 18 #[.slice A l.length c] w fun e w' => RecsRes (frP l) w w' e ∧ Below w.heap.size w w' := by
  have hb0 : Below w.heap.size w (w.alloc zwO) := by (repeat' (first | (with_reducible exact Below.refl _ _) | (with_reducible assumption) | (with_reducible refine Below.trans ?_ (Below.mono (by with_reducible assumption) ?_)) | (with_reducible refine Below.alloc ?_ ?_ _) | (with_reducible refine Below.setCell ?_ ?_ _) | (with_reducible refine below_drewN ?_ _) | (with_reducible refine Below.drew ?_) | go_size))
  have HO := Lib.hid (fr_one A l c (w.alloc zwO) (ht.below hb0) (hby.below hb0) hb hl hc hcm)
  have HB0 := Lib.hid hb0
  have HRB := Lib.hid (zeroW_new w)
  have HF0 := Lib.hid hf
  have HPB := Lib.hid (And.intro (frO_inv hb hf).2.1 hp)
  have HDP := Lib.hid (decW_recs h9)
  have HK := Lib.hid h9
  clear ht hby hb hl hc hcm hb0 hf hp h9
  go_enter Tryd.func18, Tryd.ntmps18
  go_wp2_with fail
  refine HO.out.mono ?_; rintro e W0 ⟨hr, k1⟩
  rcases hr with ⟨h0, _⟩ | ⟨_, g0, cap0, rfl, hown⟩
  · exact absurd HF0.out h0
  obtain ⟨p, hpp⟩ : ∃ p, frP l = p := ⟨_, rfl⟩
  rw [hpp] at hown HPB HDP HK
  have HPP := Lib.hid hpp
  rw [hpp]
  clear hpp
  have hb1 := HB0.out.trans (k1.mono HB0.out.size)
  have RB0 := HRB.out.below k1
  obtain ⟨A5, c5, e5, hy5, _⟩ := Own8.bytes hown
  obtain ⟨rfl, rfl⟩ : some (⟨g0, 0, none⟩ : Addr) = A5 ∧ cap0 = c5 := by injection e5 with q1 q2 q3; exact ⟨q1, q3⟩
  have kZ : Below W0.heap.size W0 (W0.alloc zwO) := (Below.refl _ _).alloc (Nat.le_refl _) _
  have HBZ := Lib.hid (hb1.trans (kZ.mono hb1.size))
  have HRBZ := Lib.hid (RB0.below kZ)
  have HXZ := Lib.hid (zeroW_new W0)
  have HNR := Lib.hid (new_reader (some ⟨g0, 0, none⟩) p cap0 (W0.alloc zwO) (hy5.below kZ) HPB.out.1 (fun e => by cases e) (by have := HPB.out.2; omega))
  have hw0 : w.heap.size < W0.heap.size := RB0.lt
  have hz2 : W0.heap.size + 1 ≤ (W0.alloc zwO).heap.size := by simp
  clear hown k1 hb1 RB0 hy5 kZ HO HB0 HRB e5
  go_wp2_with fail
  generalize W0.alloc zwO = Z at *
  refine HNR.out.mono ?_; rintro e W1 ⟨b, g, rfl, hR1, hg, hbg, k2, hgl⟩
  have l1 : W0.heap.size + 1 ≤ W1.heap.size := Nat.le_trans hz2 k2.size
  have hgq : W0.heap.size + 1 ≤ g := Nat.le_trans hz2 hg
  have hbq : W0.heap.size + 1 ≤ b := Nat.le_trans hz2 hbg
  have KA : Below W1.heap.size W1 (W1.alloc (.cells #[.pointer (some ⟨W0.heap.size, 0, none⟩), .pointer (some ⟨W0.heap.size, 1, none⟩), .pointer (some ⟨W0.heap.size, 2, none⟩)] 110)) := (Below.refl _ _).alloc (Nat.le_refl _) _
  have X1 := (HXZ.out.below k2).below KA
  have RB1 := (HRBZ.out.below k2).below KA
  have HN := Lib.hid (rd_nums b W1.heap.size 3 [(W0.heap.size, 0), (W0.heap.size, 1), (W0.heap.size, 2)] (some p) _ (hR1.below KA) (by show p.length ≤ _; have := HPB.out.2; omega) (by simp) (by have := hR1.lt; omega) (by
      intro j q
      rcases (show j = 0 ∨ j = 1 ∨ j = 2 from by simp at q; omega) with rfl | rfl | rfl <;> simp [go_sem]) (by
      intro p hp
      simp only [List.mem_cons, List.not_mem_nil, or_false] at hp
      rcases hp with rfl | rfl | rfl
      · exact X1.place (x := 0) rfl (by omega) (by omega) (by omega)
      · exact X1.place (x := 0) rfl (by omega) (by omega) (by omega)
      · exact X1.place (x := 0) rfl (by omega) (by omega) (by omega)) (by
      intro i j hi hj hij
      rcases (show (i = 0 ∧ j = 1) ∨ (i = 0 ∧ j = 2) ∨ (i = 1 ∧ j = 2) from by simp at hi hj; omega) with ⟨rfl, rfl⟩ | ⟨rfl, rfl⟩ | ⟨rfl, rfl⟩ <;> simp) (by simp))
  have HX1 := Lib.hid X1
  have HRB1 := Lib.hid RB1
  have HB1 := Lib.hid ((HBZ.out.trans (k2.mono (by omega))).trans (KA.mono (by omega)))
  clear hR1 hg hbg k2 KA X1 RB1 HXZ HRBZ HBZ HNR hz2
  go_wp2_with fail
  refine HN.out.mono ?_; rintro e W2 ⟨rfl, hN2⟩
  have X2 : XB W2 W0.heap.size [.int .i64 ((numsR 3 (some p)).1.getD 0 0 : Nat), .int .i64 ((numsR 3 (some p)).1.getD 1 0 : Nat), .int .i64 ((numsR 3 (some p)).1.getD 2 0 : Nat), .int .i64 0, .int .i64 0, .int .i64 0, .int .i64 0, .slice none 0 0] :=
    hN2.xb HX1.out (by omega) rfl (by
      intro j u hu
      rcases j with _ | _ | _ | j
      · left
        exact ⟨0, by simp, by simp, rfl, by simpa using hu.symm⟩
      · left
        exact ⟨1, by simp, by simp, rfl, by simpa using hu.symm⟩
      · left
        exact ⟨2, by simp, by simp, rfl, by simpa using hu.symm⟩
      · right
        refine ⟨by simpa [zeroW] using hu, fun i q hi => ?_⟩
        rcases (show i = 0 ∨ i = 1 ∨ i = 2 from by simp at q; omega) with rfl | rfl | rfl <;> simp)
  have RB2 : XB W2 w.heap.size zeroW := HRB1.out.but hN2.but (by
      rintro (e | ⟨p, hp, e⟩)
      · omega
      · simp only [List.mem_cons, List.not_mem_nil, or_false] at hp
        rcases hp with rfl | rfl | rfl <;> (have q : W0.heap.size = w.heap.size := e; omega))
  have B2 : Below w.heap.size w W2 := HB1.out.trans (hN2.but.below (by
      rintro i (rfl | ⟨p, hp, e⟩)
      · omega
      · simp only [List.mem_cons, List.not_mem_nil, or_false] at hp
        rcases hp with rfl | rfl | rfl <;> (have q : W0.heap.size = i := e; omega)) HB1.out.size)
  have hR2 := hN2.rd
  clear hN2 HN HX1 HRB1 HB1
  have HLS : Hid (rLeft (numsR 3 (some p)).2 ≤ 100000) := Lib.hid (Nat.le_trans (numsR_left 3 (some p)) (by show p.length ≤ _; have := HPB.out.2; omega))
  generalize ((numsR 3 (some p)).1.getD 0 0 : Nat) = k at *
  generalize ((numsR 3 (some p)).1.getD 1 0 : Nat) = o at *
  generalize ((numsR 3 (some p)).1.getD 2 0 : Nat) = s at *
  change Rd _ W2 b (numsR 3 (some p)).2 at hR2
  generalize (numsR 3 (some p)).2 = st at *
  have HX2 := Lib.hid X2
  have HRB2 := Lib.hid RB2
  have HB2 := Lib.hid B2
  have x0 := X2.c 0 _ rfl
  have x1 := X2.c 1 _ rfl
  have x2 := X2.c 2 _ rfl
  have x3 := X2.c 3 _ rfl
  have x4 := X2.c 4 _ rfl
  have x5 := X2.c 5 _ rfl
  have x6 := X2.c 6 _ rfl
  have x7 := X2.c 7 _ rfl
  have xl := X2.lt
  have r0 := RB2.c 0 _ rfl
  have r1 := RB2.c 1 _ rfl
  have r2 := RB2.c 2 _ rfl
  have r3 := RB2.c 3 _ rfl
  have r4 := RB2.c 4 _ rfl
  have r5 := RB2.c 5 _ rfl
  have r6 := RB2.c 6 _ rfl
  have r7 := RB2.c 7 _ rfl
  have rf := RB2.fz
  have rl := RB2.lt
  have q1 : ((k : Int) == 1) = true := by rw [HK.out]; rfl
  have hne : w.heap.size ≠ W0.heap.size := by omega
  have hbl := hR2.lt
  have HL := Lib.hid (rd_left b st W2 hR2)
  have HRW := Lib.hid (rd_raw b (rLeft st) st W2 hR2 (by have := HLS.out; omega) (by have := HLS.out; omega))
  have HPY := Lib.hid (raw_by hR2.by_)
  have HPL := Lib.hid (raw_len st)
  have HX2b := Lib.hid X2
  have HRB2b := Lib.hid RB2
  have HB2b := Lib.hid B2
  clear X2 RB2 B2 hR2 HX2 HRB2 HB2
  go_wp2_with fail
  refine HL.out.mono ?_; rintro e Wl ⟨rfl, rfl⟩
  go_wp2_with fail
  refine HRW.out.mono ?_; rintro e W3 ⟨htk, hp3⟩
  obtain ⟨A3, c3, rfl, y3, n3, _, _, f3⟩ := htk
  have HX3 := Lib.hid (HX2b.out.only hp3.only (by omega))
  have HRB3 := Lib.hid (HRB2b.out.only hp3.only (by omega))
  have HB3 := Lib.hid (HB2b.out.trans (hp3.only.below (by omega) HB2b.out.size))
  have HR3 := Lib.hid hp3.rd
  have z3 := hp3.only.size
  have HRL := Lib.hid (rec_rdl A3 (rRaw (rLeft st) st).1 c3 W3 y3 HPY.out (fun e => (n3 e).1) (by have := HPL.out; have := HLS.out; omega) (fun A l c w h1 h2 h3 h4 => rec_dec A l c w h1 h2 h3 h4 rec_is))
  clear hp3 HL HRW HX2b HRB2b HB2b y3 n3 f3 x0 x1 x2 x3 x4 x5 x6 x7 xl r0 r1 r2 r3 r4 r5 r6 r7 rf rl
  generalize (rRaw (rLeft st) st).1 = P at *
  generalize (rRaw (rLeft st) st).2 = su at *
  go_wp2_with fail
  refine HRL.out.mono ?_; rintro e W4 ⟨hres, k4⟩
  have X4 := HX3.out.below k4
  have HX4 := Lib.hid X4
  have HRB4 := Lib.hid (HRB3.out.below k4)
  have HB4 := Lib.hid (HB3.out.trans (k4.mono HB3.out.size))
  have HR4 := Lib.hid (HR3.out.below k4)
  have z4 := k4.size
  clear k4 HRL HX3 HRB3 HB3 HR3
  have x7 := X4.c 7 _ rfl
  have xf := X4.fz
  have xl := X4.lt
  clear X4
  rcases hres with ⟨hno, rfl⟩ | ⟨L, v, hyes, rfl, hrow, hl64, hat⟩
  · have HD : Hid (decW p = none) := Lib.hid (by rw [HDP.out, hno])
    have hO : Only W0.heap.size W4 (W4.setCell ⟨W0.heap.size, 7, none⟩ (.slice none 0 0)) := (Only.refl _ _).setB _
    have RB5 := HRB4.out.only hO hne
    have HRB5 := Lib.hid RB5
    have HB5 := Lib.hid (HB4.out.trans (hO.below (by omega) HB4.out.size))
    clear hno hO
    have r0 := RB5.c 0 _ rfl
    have r1 := RB5.c 1 _ rfl
    have r2 := RB5.c 2 _ rfl
    have r3 := RB5.c 3 _ rfl
    have r4 := RB5.c 4 _ rfl
    have r5 := RB5.c 5 _ rfl
    have r6 := RB5.c 6 _ rfl
    have r7 := RB5.c 7 _ rfl
    have rf := RB5.fz
    have rl := RB5.lt
    clear RB5
    go_wp2
    have RBf := ((((((((HRB5.out.set 0 (by simp [zeroW]) (.int .i64 0)).set 1 (by simp [zeroW]) (.int .i64 0)).set 2 (by simp [zeroW]) (.int .i64 0)).set 3 (by simp [zeroW]) (.int .i64 0)).set 4 (by simp [zeroW]) (.int .i64 0)).set 5 (by simp [zeroW]) (.int .i64 0)).set 6 (by simp [zeroW]) (.int .i64 0)).set 7 (by simp [zeroW]) (.slice none 0 0))
    have z0 := RBf.c 0 _ rfl
    have z1 := RBf.c 1 _ rfl
    have z2 := RBf.c 2 _ rfl
    have z3 := RBf.c 3 _ rfl
    have z4 := RBf.c 4 _ rfl
    have z5 := RBf.c 5 _ rfl
    have z6 := RBf.c 6 _ rfl
    have z7 := RBf.c 7 _ rfl
    have HF : Hid (Below w.heap.size w _) := Lib.hid ((((((((HB5.out.setCell (p := ⟨w.heap.size, 0, none⟩) (Nat.le_refl _) (.int .i64 0)).setCell (p := ⟨w.heap.size, 1, none⟩) (Nat.le_refl _) (.int .i64 0)).setCell (p := ⟨w.heap.size, 2, none⟩) (Nat.le_refl _) (.int .i64 0)).setCell (p := ⟨w.heap.size, 3, none⟩) (Nat.le_refl _) (.int .i64 0)).setCell (p := ⟨w.heap.size, 4, none⟩) (Nat.le_refl _) (.int .i64 0)).setCell (p := ⟨w.heap.size, 5, none⟩) (Nat.le_refl _) (.int .i64 0)).setCell (p := ⟨w.heap.size, 6, none⟩) (Nat.le_refl _) (.int .i64 0)).setCell (p := ⟨w.heap.size, 7, none⟩) (Nat.le_refl _) (.slice none 0 0))
    refine bodyPost_ret (v := .tuple #[wdV 0 0 0 0 0 0 0 (.slice none 0 0), .int .i64 3]) (by simp [results, Tryd.results18, go_sem, z0, z1, z2, z3, z4, z5, z6, z7]) rfl ⟨.inl ⟨by rw [HPP.out]; exact HD.out, rfl⟩, HF.out⟩
  · obtain ⟨A, cc, rfl⟩ : ∃ A cc, v = .slice A L.length cc := by
      rcases hrow.2 with ⟨e, h0⟩ | ⟨g, cap, cur, e, _⟩
      · exact ⟨none, 0, by rw [e, h0]⟩
      · exact ⟨_, _, e⟩
    have hbs := rdL_by HPY.out hyes
    have HKB : Hid (∀ m ∈ L, isBy m.r.key ∧ isBy m.r.val) := Lib.hid (fun m hm => hbs m.r (List.mem_map_of_mem hm))
    have hO : Only W0.heap.size W4 (W4.setCell ⟨W0.heap.size, 7, none⟩ (.slice A L.length cc)) := (Only.refl _ _).setB _
    have hO2 : But (fun i => i = W0.heap.size) W4 (W4.setCell ⟨W0.heap.size, 7, none⟩ (.slice A L.length cc)) := But.of_only hO rfl
    have RB5 := HRB4.out.only hO hne
    have HRB5 := Lib.hid RB5
    have HB5 := Lib.hid (HB4.out.trans (hO.below (by omega) HB4.out.size))
    have X5 := HX4.out.set 7 (by simp) (.slice A L.length cc)
    have HX5 : Hid (XB (W4.setCell ⟨W0.heap.size, 7, none⟩ (.slice A L.length cc)) W0.heap.size [.int .i64 (k : Int), .int .i64 (o : Int), .int .i64 (s : Int), .int .i64 0, .int .i64 0, .int .i64 0, .int .i64 0, .slice A L.length cc]) := Lib.hid X5
    have HR5 := Lib.hid (HR4.out.but hO2 (by omega) (fun i e q => by subst e; exact absurd q (by omega)))
    have hrow5 := hO2.row hrow (fun i hi e => by have h1 := (World.ownsRow.lt hrow i hi).1; omega)
    have HW3 : Hid (W0.heap.size < W3.heap.size) := Lib.hid (by omega)
    have HAT5 : Hid (∀ m ∈ L, m.At (fun i => W3.heap.size ≤ i) (W4.setCell ⟨W0.heap.size, 7, none⟩ (.slice A L.length cc))) := Lib.hid (fun m hm => (hat m hm).but hO2 (fun i e q => by have := HW3.out; omega))
    have HROW5 := Lib.hid hrow5
    have HL64 := Lib.hid hl64
    have HYES := Lib.hid hyes
    clear hrow hat hbs hO hO2 hrow5 RB5 X5 hyes
    generalize hW5 : W4.setCell ⟨W0.heap.size, 7, none⟩ (.slice A L.length cc) = W5 at *
    have RB5 := HRB5.out
    have X5 := HX5.out
    have r0 := RB5.c 0 _ rfl
    have r1 := RB5.c 1 _ rfl
    have r2 := RB5.c 2 _ rfl
    have r3 := RB5.c 3 _ rfl
    have r4 := RB5.c 4 _ rfl
    have r5 := RB5.c 5 _ rfl
    have r6 := RB5.c 6 _ rfl
    have r7 := RB5.c 7 _ rfl
    have y0 := X5.c 0 _ rfl
    have y1 := X5.c 1 _ rfl
    have y2 := X5.c 2 _ rfl
    have y3 := X5.c 3 _ rfl
    have y4 := X5.c 4 _ rfl
    have y5 := X5.c 5 _ rfl
    have y6 := X5.c 6 _ rfl
    have y7 := X5.c 7 _ rfl
    have rf := RB5.fz
    have rl := RB5.lt
    have yl := X5.lt
    clear RB5 X5
    have HW6 := Lib.hid (rd_whole b su W5 HR5.out)
    have HD2 : Hid (decW p = chkW ⟨(k : Int), (o : Int), (s : Int), 0, 0, 0, 0, L.map Mr.r⟩ su) := Lib.hid (by rw [HDP.out, HYES.out])
    by_cases hwh : su = some []
    rotate_left
    · have t0 : decide (su = some []) = false := by simpa using hwh
      rw [t0] at HW6
      have HD : Hid (decW p = none) := Lib.hid (by rw [HD2.out]; unfold chkW; rw [if_neg (fun h => hwh h.1)])
      clear t0 hwh
      go_wp2_with (go_at_call 64; refine HW6.out.mono ?_; rintro e W7 ⟨rfl, rfl⟩)
      have RBf := ((((((((HRB5.out.set 0 (by simp [zeroW]) (.int .i64 0)).set 1 (by simp [zeroW]) (.int .i64 0)).set 2 (by simp [zeroW]) (.int .i64 0)).set 3 (by simp [zeroW]) (.int .i64 0)).set 4 (by simp [zeroW]) (.int .i64 0)).set 5 (by simp [zeroW]) (.int .i64 0)).set 6 (by simp [zeroW]) (.int .i64 0)).set 7 (by simp [zeroW]) (.slice none 0 0))
      have z0 := RBf.c 0 _ rfl
      have z1 := RBf.c 1 _ rfl
      have z2 := RBf.c 2 _ rfl
      have z3 := RBf.c 3 _ rfl
      have z4 := RBf.c 4 _ rfl
      have z5 := RBf.c 5 _ rfl
      have z6 := RBf.c 6 _ rfl
      have z7 := RBf.c 7 _ rfl
      have HF : Hid (Below w.heap.size w _) := Lib.hid ((((((((HB5.out.setCell (p := ⟨w.heap.size, 0, none⟩) (Nat.le_refl _) (.int .i64 0)).setCell (p := ⟨w.heap.size, 1, none⟩) (Nat.le_refl _) (.int .i64 0)).setCell (p := ⟨w.heap.size, 2, none⟩) (Nat.le_refl _) (.int .i64 0)).setCell (p := ⟨w.heap.size, 3, none⟩) (Nat.le_refl _) (.int .i64 0)).setCell (p := ⟨w.heap.size, 4, none⟩) (Nat.le_refl _) (.int .i64 0)).setCell (p := ⟨w.heap.size, 5, none⟩) (Nat.le_refl _) (.int .i64 0)).setCell (p := ⟨w.heap.size, 6, none⟩) (Nat.le_refl _) (.int .i64 0)).setCell (p := ⟨w.heap.size, 7, none⟩) (Nat.le_refl _) (.slice none 0 0))
      refine bodyPost_ret (v := .tuple #[wdV 0 0 0 0 0 0 0 (.slice none 0 0), .int .i64 3]) (by simp [results, Tryd.results18, go_sem, z0, z1, z2, z3, z4, z5, z6, z7]) rfl ⟨.inl ⟨by rw [HPP.out]; exact HD.out, rfl⟩, HF.out⟩
    have t0 : decide (su = some []) = true := by simpa using hwh
    rw [t0] at HW6
    have HIS := Lib.hid (wd_is (k : Int) (o : Int) (s : Int) 0 0 0 0 A cc L W5 (RowAt.of HROW5.out) (fun m hm => (HKB.out m hm).1) (by have := HL64.out; omega))
    have HCK : Hid (∀ bb, okW (wdOf (k : Int) (o : Int) (s : Int) 0 0 0 0 L) = bb → decW p = if bb then some (wdOf (k : Int) (o : Int) (s : Int) 0 0 0 0 L) else none) := Lib.hid (fun bb hbb => by
      rw [HD2.out]
      unfold chkW
      have hbb' : okW ⟨(k : Int), (o : Int), (s : Int), 0, 0, 0, 0, L.map Mr.r⟩ = bb := hbb
      rw [hbb']
      cases bb
      · rw [if_neg (fun h => by cases h.2)]; rfl
      · rw [if_pos ⟨hwh, rfl⟩]; rfl)
    clear t0 hwh
    cases hok : okW (wdOf (k : Int) (o : Int) (s : Int) 0 0 0 0 L)
    · have HD : Hid (decW p = none) := Lib.hid (HCK.out false hok)
      rw [hok] at HIS
      clear hok HCK
      go_wp2_with (first | (go_at_call 64; refine HW6.out.mono ?_; rintro e W7 ⟨rfl, rfl⟩) | (go_at_call 47; refine HIS.out.mono ?_; rintro e W7 ⟨rfl, k7⟩; have RB7 := HRB5.out.below k7; have HRB7 := Lib.hid RB7; have HB7 := Lib.hid (HB5.out.trans (k7.mono HB5.out.size)); clear k7 r0 r1 r2 r3 r4 r5 r6 r7 rf rl y0 y1 y2 y3 y4 y5 y6 y7 yl; have r0 := RB7.c 0 _ rfl; have r1 := RB7.c 1 _ rfl; have r2 := RB7.c 2 _ rfl; have r3 := RB7.c 3 _ rfl; have r4 := RB7.c 4 _ rfl; have r5 := RB7.c 5 _ rfl; have r6 := RB7.c 6 _ rfl; have r7 := RB7.c 7 _ rfl; have rf := RB7.fz; have rl := RB7.lt; clear RB7))
      have RBf := ((((((((HRB7.out.set 0 (by simp [zeroW]) (.int .i64 0)).set 1 (by simp [zeroW]) (.int .i64 0)).set 2 (by simp [zeroW]) (.int .i64 0)).set 3 (by simp [zeroW]) (.int .i64 0)).set 4 (by simp [zeroW]) (.int .i64 0)).set 5 (by simp [zeroW]) (.int .i64 0)).set 6 (by simp [zeroW]) (.int .i64 0)).set 7 (by simp [zeroW]) (.slice none 0 0))
      have z0 := RBf.c 0 _ rfl
      have z1 := RBf.c 1 _ rfl
      have z2 := RBf.c 2 _ rfl
      have z3 := RBf.c 3 _ rfl
      have z4 := RBf.c 4 _ rfl
      have z5 := RBf.c 5 _ rfl
      have z6 := RBf.c 6 _ rfl
      have z7 := RBf.c 7 _ rfl
      have HF : Hid (Below w.heap.size w _) := Lib.hid ((((((((HB7.out.setCell (p := ⟨w.heap.size, 0, none⟩) (Nat.le_refl _) (.int .i64 0)).setCell (p := ⟨w.heap.size, 1, none⟩) (Nat.le_refl _) (.int .i64 0)).setCell (p := ⟨w.heap.size, 2, none⟩) (Nat.le_refl _) (.int .i64 0)).setCell (p := ⟨w.heap.size, 3, none⟩) (Nat.le_refl _) (.int .i64 0)).setCell (p := ⟨w.heap.size, 4, none⟩) (Nat.le_refl _) (.int .i64 0)).setCell (p := ⟨w.heap.size, 5, none⟩) (Nat.le_refl _) (.int .i64 0)).setCell (p := ⟨w.heap.size, 6, none⟩) (Nat.le_refl _) (.int .i64 0)).setCell (p := ⟨w.heap.size, 7, none⟩) (Nat.le_refl _) (.slice none 0 0))
      refine bodyPost_ret (v := .tuple #[wdV 0 0 0 0 0 0 0 (.slice none 0 0), .int .i64 3]) (by simp [results, Tryd.results18, go_sem, z0, z1, z2, z3, z4, z5, z6, z7]) rfl ⟨.inl ⟨by rw [HPP.out]; exact HD.out, rfl⟩, HF.out⟩
    · have HD : Hid (decW p = some (wdOf (k : Int) (o : Int) (s : Int) 0 0 0 0 L)) := Lib.hid (HCK.out true hok)
      rw [hok] at HIS
      clear hok HCK
      go_wp2_with (first | (go_at_call 64; refine HW6.out.mono ?_; rintro e W7 ⟨rfl, rfl⟩) | (go_at_call 47; refine HIS.out.mono ?_; rintro e W7 ⟨rfl, k7⟩; have RB7 := HRB5.out.below k7; have X7 := HX5.out.below k7; have HRB7 := Lib.hid RB7; have HB7 := Lib.hid (HB5.out.trans (k7.mono HB5.out.size)); have HROW7 := Lib.hid ((But.of_below (S := fun _ => False) k7).row HROW5.out (fun _ _ hf => hf)); have HAT7 := Lib.hid (fun m hm => (HAT5.out m hm).below k7); clear k7 r0 r1 r2 r3 r4 r5 r6 r7 rf rl y0 y1 y2 y3 y4 y5 y6 y7 yl; have r0 := RB7.c 0 _ rfl; have r1 := RB7.c 1 _ rfl; have r2 := RB7.c 2 _ rfl; have r3 := RB7.c 3 _ rfl; have r4 := RB7.c 4 _ rfl; have r5 := RB7.c 5 _ rfl; have r6 := RB7.c 6 _ rfl; have r7 := RB7.c 7 _ rfl; have rf := RB7.fz; have rl := RB7.lt; have y0 := X7.c 0 _ rfl; have y1 := X7.c 1 _ rfl; have y2 := X7.c 2 _ rfl; have y3 := X7.c 3 _ rfl; have y4 := X7.c 4 _ rfl; have y5 := X7.c 5 _ rfl; have y6 := X7.c 6 _ rfl; have y7 := X7.c 7 _ rfl; have yl := X7.lt; clear RB7 X7))
      have HOF : Hid (Only w.heap.size W7 _) := Lib.hid (((((((((Only.refl w.heap.size W7).setB (o := 0) (.int .i64 (k : Int))).setB (o := 1) (.int .i64 (o : Int))).setB (o := 2) (.int .i64 (s : Int))).setB (o := 3) (.int .i64 0)).setB (o := 4) (.int .i64 0)).setB (o := 5) (.int .i64 0)).setB (o := 6) (.int .i64 0)).setB (o := 7) (.slice A L.length cc))
      have HWL : Hid (w.heap.size < W3.heap.size) := Lib.hid (by have := HW3.out; omega)
      have HROWF := Lib.hid (row_mono ((But.of_only (S := fun i => i = w.heap.size) HOF.out rfl).row HROW7.out (fun i hi e => by have h1 := (World.ownsRow.lt HROW7.out i hi).1; have h2 := HWL.out; omega)) (Nat.le_of_lt HWL.out))
      have HATF := Lib.hid (fun m hm => ((HAT7.out m hm).but (But.of_only (S := fun i => i = w.heap.size) HOF.out rfl) (fun i e q => by have h2 := HWL.out; omega)).mono (Q' := fun i => w.heap.size ≤ i) (fun i _ q => Nat.le_trans (Nat.le_of_lt HWL.out) q))
      have RBf := ((((((((HRB7.out.set 0 (by simp [zeroW]) (.int .i64 (k : Int))).set 1 (by simp [zeroW]) (.int .i64 (o : Int))).set 2 (by simp [zeroW]) (.int .i64 (s : Int))).set 3 (by simp [zeroW]) (.int .i64 0)).set 4 (by simp [zeroW]) (.int .i64 0)).set 5 (by simp [zeroW]) (.int .i64 0)).set 6 (by simp [zeroW]) (.int .i64 0)).set 7 (by simp [zeroW]) (.slice A L.length cc))
      have z0 := RBf.c 0 _ rfl
      have z1 := RBf.c 1 _ rfl
      have z2 := RBf.c 2 _ rfl
      have z3 := RBf.c 3 _ rfl
      have z4 := RBf.c 4 _ rfl
      have z5 := RBf.c 5 _ rfl
      have z6 := RBf.c 6 _ rfl
      have z7 := RBf.c 7 _ rfl
      have HF : Hid (Below w.heap.size w _) := Lib.hid ((((((((HB7.out.setCell (p := ⟨w.heap.size, 0, none⟩) (Nat.le_refl _) (.int .i64 (k : Int))).setCell (p := ⟨w.heap.size, 1, none⟩) (Nat.le_refl _) (.int .i64 (o : Int))).setCell (p := ⟨w.heap.size, 2, none⟩) (Nat.le_refl _) (.int .i64 (s : Int))).setCell (p := ⟨w.heap.size, 3, none⟩) (Nat.le_refl _) (.int .i64 0)).setCell (p := ⟨w.heap.size, 4, none⟩) (Nat.le_refl _) (.int .i64 0)).setCell (p := ⟨w.heap.size, 5, none⟩) (Nat.le_refl _) (.int .i64 0)).setCell (p := ⟨w.heap.size, 6, none⟩) (Nat.le_refl _) (.int .i64 0)).setCell (p := ⟨w.heap.size, 7, none⟩) (Nat.le_refl _) (.slice A L.length cc))
      refine bodyPost_ret (v := .tuple #[wdV (k : Int) (o : Int) (s : Int) 0 0 0 0 (.slice A L.length cc), .int .i64 0]) (by simp [results, Tryd.results18, go_sem, z0, z1, z2, z3, z4, z5, z6, z7]) rfl ⟨.inr ⟨_, _, _, L, A, cc, by rw [HPP.out]; exact HD.out, rfl, HROWF.out, HL64.out, HATF.out, HKB.out⟩, HF.out⟩
end Go.Proofs.YtdffldlcbihjmaaDoor
namespace Go.Proofs.YtdffldlcbihjmaaDoor
open Go.RowKit Go.Sort

/-- A word is told: it answers OK. -/
def DecOk (e : Ending) : Prop := ∃ (k o s m1 c1 m2 c2 : Int) (Av : Option Addr) (lv cv : Nat), e = .returned (.tuple #[wdV k o s m1 c1 m2 c2 (.slice Av lv cv), .int .i64 0])
theorem wd_dec_ok (A : Option Addr) (l : List Int) (c : Nat) (w : World) (ht : Nib w) (hby : ByL w A l) (hb : isBy l) (hl : l.length ≤ 1000000) (hc : l.length ≤ c) (hcm : c ≤ maxLen) (hf : frO l = 0) (hp : (frP l).length ≤ 100000) (hd : decW (frP l) ≠ none) :
    Calls Tryd.prog 18 #[.slice A l.length c] w fun e w' => DecOk e ∧ Below w.heap.size w w' := by
  by_cases h1 : (((numsR 3 (some (frP l))).1.getD 0 0 : Nat) : Int) = 1
  · refine (wd_dec_recs A l c w ht hby hb hl hc hcm hf hp h1).mono ?_
    rintro e w' ⟨hr, k⟩
    rcases hr with ⟨h, _⟩ | ⟨_, _, _, _, _, _, _, rfl, _⟩
    · exact absurd h hd
    · exact ⟨⟨_, _, _, _, _, _, _, _, _, _, rfl⟩, k⟩
  by_cases h3 : (((numsR 3 (some (frP l))).1.getD 0 0 : Nat) : Int) = 3
  · refine (wd_dec_beat A l c w ht hby hb hl hc hcm hf hp h3).mono ?_
    rintro e w' ⟨hr, k⟩
    rcases hr with ⟨h, _⟩ | ⟨_, _, rfl⟩
    · exact absurd h hd
    · exact ⟨⟨_, _, _, _, _, _, _, _, _, _, rfl⟩, k⟩
  · refine (wd_dec_plain A l c w ht hby hb hl hc hcm hf hp h1 h3).mono ?_
    rintro e w' ⟨hr, k⟩
    rcases hr with ⟨h, _⟩ | ⟨_, rfl⟩
    · exact absurd h hd
    · exact ⟨⟨_, _, _, _, _, _, _, _, _, _, rfl⟩, k⟩
/-- A word's own bytes are told; with something behind them they are none. -/
theorem wd_dec_own {W : Wd} (h : okW W = true) (hby : isBy (encW W)) : frO (frE (encW W)) = 0 ∧ (frP (frE (encW W))).length ≤ 100000 ∧ decW (frP (frE (encW W))) = some W := by
  have hbd := encW_bd h
  obtain ⟨h1, h2⟩ := frO_back hby (by omega)
  rw [h2]
  exact ⟨h1, hbd.2, decW_enc h⟩
end Go.Proofs.YtdffldlcbihjmaaDoor
