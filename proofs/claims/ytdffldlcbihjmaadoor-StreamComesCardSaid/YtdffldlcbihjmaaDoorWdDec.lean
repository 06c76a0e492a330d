/- wire.Decode: no frame; a word of a kind that is neither 1 nor 3 (written by gen/wddec.py). -/
import Derived.Test.YtdffldlcbihjmaaDoorWdIs2
import Derived.Test.YtdffldlcbihjmaaDoorFrDec
import Derived.Test.YtdffldlcbihjmaaDoorRecDec
set_option linter.unusedSimpArgs false
set_option linter.unusedVariables false
namespace Go.Proofs.YtdffldlcbihjmaaDoor
open Go.RowKit Go.Sort

def zeroW : List Value := [.int .i64 0, .int .i64 0, .int .i64 0, .int .i64 0, .int .i64 0, .int .i64 0, .int .i64 0, .slice none 0 0]
abbrev zwO : Obj := .cells (wdC 0 0 0 0 0 0 0 (.slice none 0 0)) 26
/-- No word is told, by an error. -/
def NoW (x : Int) (e : Ending) : Prop := e = .returned (.tuple #[wdV 0 0 0 0 0 0 0 (.slice none 0 0), .int .i64 x])
theorem zeroW_new (w : World) : XB (w.alloc zwO) w.heap.size zeroW := XB.new w _ _
theorem frO_bd (l : List Int) : 0 ≤ frO l ∧ frO l ≤ 5 := by
  have := frC_bd l
  unfold frO
  repeat' split
  all_goals omega
set_option maxRecDepth 100000 in
set_option maxHeartbeats 4000000 in
theorem wd_dec_no (A : Option Addr) (l : List Int) (c : Nat) (w : World) (ht : Nib w) (hby : ByL w A l) (hb : isBy l) (hl : l.length ≤ 1000000) (hc : l.length ≤ c) (hcm : c ≤ maxLen) (hf : frO l ≠ 0) :
    Calls Tryd.prog 18 #[.slice A l.length c] w fun e w' => NoW (frO l) e ∧ Below w.heap.size w w' := by
  have hb0 : Below w.heap.size w (w.alloc zwO) := by (repeat' (first | (with_reducible exact Below.refl _ _) | (with_reducible assumption) | (with_reducible refine Below.trans ?_ (Below.mono (by with_reducible assumption) ?_)) | (with_reducible refine Below.alloc ?_ ?_ _) | (with_reducible refine Below.setCell ?_ ?_ _) | (with_reducible refine below_drewN ?_ _) | (with_reducible refine Below.drew ?_) | go_size))
  have HO := Lib.hid (fr_one A l c (w.alloc zwO) (ht.below hb0) (hby.below hb0) hb hl hc hcm)
  have HB0 := Lib.hid hb0
  have HRB := Lib.hid (zeroW_new w)
  have HNE := Lib.hid hf
  have t1 : (frO l != 0) = true := by simpa using hf
  clear ht hby hb hl hc hcm hb0 hf
  go_enter Tryd.func18, Tryd.ntmps18
  go_wp2_with fail
  refine HO.out.mono ?_; rintro e w1 ⟨hr, k1⟩
  have HB1 := Lib.hid (HB0.out.trans (k1.mono HB0.out.size))
  have RB1 := HRB.out.below k1
  have HRB1 := Lib.hid RB1
  rcases hr with ⟨_, rfl⟩ | ⟨h0, _⟩
  rotate_left
  · exact absurd h0 HNE.out
  have r0 := RB1.c 0 _ rfl
  have r1 := RB1.c 1 _ rfl
  have r2 := RB1.c 2 _ rfl
  have r3 := RB1.c 3 _ rfl
  have r4 := RB1.c 4 _ rfl
  have r5 := RB1.c 5 _ rfl
  have r6 := RB1.c 6 _ rfl
  have r7 := RB1.c 7 _ rfl
  have rf := RB1.fz
  have rl := RB1.lt
  clear k1 HO HB0 HRB RB1
  obtain ⟨x, hx⟩ : ∃ x, frO l = x := ⟨_, rfl⟩
  rw [hx] at t1
  have HX := Lib.hid hx
  rw [hx]
  clear hx
  go_wp2
  have RBf := ((((((((HRB1.out.set 0 (by simp [zeroW]) (.int .i64 0)).set 1 (by simp [zeroW]) (.int .i64 0)).set 2 (by simp [zeroW]) (.int .i64 0)).set 3 (by simp [zeroW]) (.int .i64 0)).set 4 (by simp [zeroW]) (.int .i64 0)).set 5 (by simp [zeroW]) (.int .i64 0)).set 6 (by simp [zeroW]) (.int .i64 0)).set 7 (by simp [zeroW]) (.slice none 0 0))
  have z0 := RBf.c 0 _ rfl
  have z1 := RBf.c 1 _ rfl
  have z2 := RBf.c 2 _ rfl
  have z3 := RBf.c 3 _ rfl
  have z4 := RBf.c 4 _ rfl
  have z5 := RBf.c 5 _ rfl
  have z6 := RBf.c 6 _ rfl
  have z7 := RBf.c 7 _ rfl
  have HF : Hid (Below w.heap.size w _) := Lib.hid ((((((((HB1.out.setCell (p := ⟨w.heap.size, 0, none⟩) (Nat.le_refl _) (.int .i64 0)).setCell (p := ⟨w.heap.size, 1, none⟩) (Nat.le_refl _) (.int .i64 0)).setCell (p := ⟨w.heap.size, 2, none⟩) (Nat.le_refl _) (.int .i64 0)).setCell (p := ⟨w.heap.size, 3, none⟩) (Nat.le_refl _) (.int .i64 0)).setCell (p := ⟨w.heap.size, 4, none⟩) (Nat.le_refl _) (.int .i64 0)).setCell (p := ⟨w.heap.size, 5, none⟩) (Nat.le_refl _) (.int .i64 0)).setCell (p := ⟨w.heap.size, 6, none⟩) (Nat.le_refl _) (.int .i64 0)).setCell (p := ⟨w.heap.size, 7, none⟩) (Nat.le_refl _) (.slice none 0 0))
  refine bodyPost_ret (v := .tuple #[wdV 0 0 0 0 0 0 0 (.slice none 0 0), .int .i64 x]) (by simp [results, Tryd.results18, go_sem, z0, z1, z2, z3, z4, z5, z6, z7]) rfl ⟨by rw [HX.out]; rfl, HF.out⟩
/-- A word of a kind without more behind it: what is told. -/
def plainW (l : List Int) : Wd := ⟨((numsR 3 (some (frP l))).1.getD 0 0 : Nat), ((numsR 3 (some (frP l))).1.getD 1 0 : Nat), ((numsR 3 (some (frP l))).1.getD 2 0 : Nat), 0, 0, 0, 0, []⟩
theorem decW_plain {p : List Int} (h1 : (((numsR 3 (some p)).1.getD 0 0 : Nat) : Int) ≠ 1) (h3 : (((numsR 3 (some p)).1.getD 0 0 : Nat) : Int) ≠ 3) : decW p = chkW ⟨((numsR 3 (some p)).1.getD 0 0 : Nat), ((numsR 3 (some p)).1.getD 1 0 : Nat), ((numsR 3 (some p)).1.getD 2 0 : Nat), 0, 0, 0, 0, []⟩ (numsR 3 (some p)).2 := by
  unfold decW
  simp only
  rw [if_neg h1, if_neg h3]
theorem rowAt_nil (w : World) : RowAt w (.slice none (([] : List Mr).length) 0) [] := ⟨none, 0, rfl, fun h => absurd h (by simp)⟩
set_option maxRecDepth 100000 in
set_option maxHeartbeats 8000000 in
theorem wd_dec_plain (A : Option Addr) (l : List Int) (c : Nat) (w : World) (ht : Nib w) (hby : ByL w A l) (hb : isBy l) (hl : l.length ≤ 1000000) (hc : l.length ≤ c) (hcm : c ≤ maxLen) (hf : frO l = 0) (hp : (frP l).length ≤ 100000)
    (h1 : (((numsR 3 (some (frP l))).1.getD 0 0 : Nat) : Int) ≠ 1) (h3 : (((numsR 3 (some (frP l))).1.getD 0 0 : Nat) : Int) ≠ 3) :
    Calls Tryd.prog 18 #[.slice A l.length c] w fun e w' => ((decW (frP l) = none ∧ NoW 3 e) ∨ (decW (frP l) = some (plainW l) ∧ e = .returned (.tuple #[wdV (plainW l).k (plainW l).o (plainW l).s 0 0 0 0 (.slice none 0 0), .int .i64 0]))) ∧ Below w.heap.size w w' := by
  have hb0 : Below w.heap.size w (w.alloc zwO) := by (repeat' (first | (with_reducible exact Below.refl _ _) | (with_reducible assumption) | (with_reducible refine Below.trans ?_ (Below.mono (by with_reducible assumption) ?_)) | (with_reducible refine Below.alloc ?_ ?_ _) | (with_reducible refine Below.setCell ?_ ?_ _) | (with_reducible refine below_drewN ?_ _) | (with_reducible refine Below.drew ?_) | go_size))
  have HO := Lib.hid (fr_one A l c (w.alloc zwO) (ht.below hb0) (hby.below hb0) hb hl hc hcm)
  have HB0 := Lib.hid hb0
  have HRB := Lib.hid (zeroW_new w)
  have HF0 := Lib.hid hf
  have HPB := Lib.hid (And.intro (frO_inv hb hf).2.1 hp)
  have HDP := Lib.hid (decW_plain h1 h3)
  have HK := Lib.hid (And.intro h1 h3)
  have HPW : Hid (plainW l = ⟨((numsR 3 (some (frP l))).1.getD 0 0 : Nat), ((numsR 3 (some (frP l))).1.getD 1 0 : Nat), ((numsR 3 (some (frP l))).1.getD 2 0 : Nat), 0, 0, 0, 0, []⟩) := Lib.hid rfl
  clear ht hby hb hl hc hcm hb0 hf hp h1 h3
  generalize plainW l = PW at *
  go_enter Tryd.func18, Tryd.ntmps18
  go_wp2_with fail
  refine HO.out.mono ?_; rintro e W0 ⟨hr, k1⟩
  rcases hr with ⟨h0, _⟩ | ⟨_, g0, cap0, rfl, hown⟩
  · exact absurd HF0.out h0
  obtain ⟨p, hpp⟩ : ∃ p, frP l = p := ⟨_, rfl⟩
  rw [hpp] at hown HPB HDP HK HPW
  have HPP := Lib.hid hpp
  rw [hpp]
  clear hpp
  have hb1 := HB0.out.trans (k1.mono HB0.out.size)
  have RB0 := HRB.out.below k1
  obtain ⟨A5, c5, e5, hy5, _⟩ := Own8.bytes hown
  obtain ⟨rfl, rfl⟩ : some (⟨g0, 0, none⟩ : Addr) = A5 ∧ cap0 = c5 := by injection e5 with q1 q2 q3; exact ⟨q1, q3⟩
  have kZ : Below W0.heap.size W0 (W0.alloc zwO) := (Below.refl _ _).alloc (Nat.le_refl _) _
  have HBZ := Lib.hid (hb1.trans (kZ.mono hb1.size))
  have HRBZ := Lib.hid (RB0.below kZ)
  have HXZ := Lib.hid (zeroW_new W0)
  have HNR := Lib.hid (new_reader (some ⟨g0, 0, none⟩) p cap0 (W0.alloc zwO) (hy5.below kZ) HPB.out.1 (fun e => by cases e) (by have := HPB.out.2; omega))
  have hw0 : w.heap.size < W0.heap.size := RB0.lt
  have hz2 : W0.heap.size + 1 ≤ (W0.alloc zwO).heap.size := by simp
  clear hown k1 hb1 RB0 hy5 kZ HO HB0 HRB e5
  go_wp2_with fail
  generalize W0.alloc zwO = Z at *
  refine HNR.out.mono ?_; rintro e W1 ⟨b, g, rfl, hR1, hg, hbg, k2, hgl⟩
  have l1 : W0.heap.size + 1 ≤ W1.heap.size := Nat.le_trans hz2 k2.size
  have hgq : W0.heap.size + 1 ≤ g := Nat.le_trans hz2 hg
  have hbq : W0.heap.size + 1 ≤ b := Nat.le_trans hz2 hbg
  have KA : Below W1.heap.size W1 (W1.alloc (.cells #[.pointer (some ⟨W0.heap.size, 0, none⟩), .pointer (some ⟨W0.heap.size, 1, none⟩), .pointer (some ⟨W0.heap.size, 2, none⟩)] 110)) := (Below.refl _ _).alloc (Nat.le_refl _) _
  have X1 := (HXZ.out.below k2).below KA
  have RB1 := (HRBZ.out.below k2).below KA
  have HN := Lib.hid (rd_nums b W1.heap.size 3 [(W0.heap.size, 0), (W0.heap.size, 1), (W0.heap.size, 2)] (some p) _ (hR1.below KA) (by show p.length ≤ _; have := HPB.out.2; omega) (by simp) (by have := hR1.lt; omega) (by
      intro j q
      rcases (show j = 0 ∨ j = 1 ∨ j = 2 from by simp at q; omega) with rfl | rfl | rfl <;> simp [go_sem]) (by
      intro p hp
      simp only [List.mem_cons, List.not_mem_nil, or_false] at hp
      rcases hp with rfl | rfl | rfl
      · exact X1.place (x := 0) rfl (by omega) (by omega) (by omega)
      · exact X1.place (x := 0) rfl (by omega) (by omega) (by omega)
      · exact X1.place (x := 0) rfl (by omega) (by omega) (by omega)) (by
      intro i j hi hj hij
      rcases (show (i = 0 ∧ j = 1) ∨ (i = 0 ∧ j = 2) ∨ (i = 1 ∧ j = 2) from by simp at hi hj; omega) with ⟨rfl, rfl⟩ | ⟨rfl, rfl⟩ | ⟨rfl, rfl⟩ <;> simp) (by simp))
  have HX1 := Lib.hid X1
  have HRB1 := Lib.hid RB1
  have HB1 := Lib.hid ((HBZ.out.trans (k2.mono (by omega))).trans (KA.mono (by omega)))
  clear hR1 hg hbg k2 KA X1 RB1 HXZ HRBZ HBZ HNR hz2
  go_wp2_with fail
  refine HN.out.mono ?_; rintro e W2 ⟨rfl, hN2⟩
  have X2 : XB W2 W0.heap.size [.int .i64 ((numsR 3 (some p)).1.getD 0 0 : Nat), .int .i64 ((numsR 3 (some p)).1.getD 1 0 : Nat), .int .i64 ((numsR 3 (some p)).1.getD 2 0 : Nat), .int .i64 0, .int .i64 0, .int .i64 0, .int .i64 0, .slice none 0 0] :=
    hN2.xb HX1.out (by omega) rfl (by
      intro j u hu
      rcases j with _ | _ | _ | j
      · left
        exact ⟨0, by simp, by simp, rfl, by simpa using hu.symm⟩
      · left
        exact ⟨1, by simp, by simp, rfl, by simpa using hu.symm⟩
      · left
        exact ⟨2, by simp, by simp, rfl, by simpa using hu.symm⟩
      · right
        refine ⟨by simpa [zeroW] using hu, fun i q hi => ?_⟩
        rcases (show i = 0 ∨ i = 1 ∨ i = 2 from by simp at q; omega) with rfl | rfl | rfl <;> simp)
  have RB2 : XB W2 w.heap.size zeroW := HRB1.out.but hN2.but (by
      rintro (e | ⟨p, hp, e⟩)
      · omega
      · simp only [List.mem_cons, List.not_mem_nil, or_false] at hp
        rcases hp with rfl | rfl | rfl <;> (have q : W0.heap.size = w.heap.size := e; omega))
  have B2 : Below w.heap.size w W2 := HB1.out.trans (hN2.but.below (by
      rintro i (rfl | ⟨p, hp, e⟩)
      · omega
      · simp only [List.mem_cons, List.not_mem_nil, or_false] at hp
        rcases hp with rfl | rfl | rfl <;> (have q : W0.heap.size = i := e; omega)) HB1.out.size)
  have hR2 := hN2.rd
  clear hN2 HN HX1 HRB1 HB1
  generalize ((numsR 3 (some p)).1.getD 0 0 : Nat) = k at *
  generalize ((numsR 3 (some p)).1.getD 1 0 : Nat) = o at *
  generalize ((numsR 3 (some p)).1.getD 2 0 : Nat) = s at *
  change Rd _ W2 b (numsR 3 (some p)).2 at hR2
  generalize (numsR 3 (some p)).2 = st at *
  have HW6 := Lib.hid (rd_whole b st W2 hR2)
  have HX2 := Lib.hid X2
  have HRB2 := Lib.hid RB2
  have HB2 := Lib.hid B2
  have x0 := X2.c 0 _ rfl
  have x1 := X2.c 1 _ rfl
  have x2 := X2.c 2 _ rfl
  have x3 := X2.c 3 _ rfl
  have x4 := X2.c 4 _ rfl
  have x5 := X2.c 5 _ rfl
  have x6 := X2.c 6 _ rfl
  have x7 := X2.c 7 _ rfl
  have xl := X2.lt
  have r0 := RB2.c 0 _ rfl
  have r1 := RB2.c 1 _ rfl
  have r2 := RB2.c 2 _ rfl
  have r3 := RB2.c 3 _ rfl
  have r4 := RB2.c 4 _ rfl
  have r5 := RB2.c 5 _ rfl
  have r6 := RB2.c 6 _ rfl
  have r7 := RB2.c 7 _ rfl
  have rf := RB2.fz
  have rl := RB2.lt
  have q1 : ((k : Int) == 1) = false := by simpa using HK.out.1
  have q3 : ((k : Int) == 3) = false := by simpa using HK.out.2
  have hne : w.heap.size ≠ W0.heap.size := by omega
  clear X2 RB2 B2 hR2
  by_cases hwh : st = some []
  rotate_left
  · have t0 : decide (st = some []) = false := by simpa using hwh
    rw [t0] at HW6
    have HD : Hid (decW p = none) := Lib.hid (by rw [HDP.out]; unfold chkW; rw [if_neg (fun h => hwh h.1)])
    clear t0 hwh
    go_wp2_with (go_at_call 64; refine HW6.out.mono ?_; rintro e W7 ⟨rfl, rfl⟩)
    have RBf := ((((((((HRB2.out.set 0 (by simp [zeroW]) (.int .i64 0)).set 1 (by simp [zeroW]) (.int .i64 0)).set 2 (by simp [zeroW]) (.int .i64 0)).set 3 (by simp [zeroW]) (.int .i64 0)).set 4 (by simp [zeroW]) (.int .i64 0)).set 5 (by simp [zeroW]) (.int .i64 0)).set 6 (by simp [zeroW]) (.int .i64 0)).set 7 (by simp [zeroW]) (.slice none 0 0))
    have z0 := RBf.c 0 _ rfl
    have z1 := RBf.c 1 _ rfl
    have z2 := RBf.c 2 _ rfl
    have z3 := RBf.c 3 _ rfl
    have z4 := RBf.c 4 _ rfl
    have z5 := RBf.c 5 _ rfl
    have z6 := RBf.c 6 _ rfl
    have z7 := RBf.c 7 _ rfl
    have HF : Hid (Below w.heap.size w _) := Lib.hid ((((((((HB2.out.setCell (p := ⟨w.heap.size, 0, none⟩) (Nat.le_refl _) (.int .i64 0)).setCell (p := ⟨w.heap.size, 1, none⟩) (Nat.le_refl _) (.int .i64 0)).setCell (p := ⟨w.heap.size, 2, none⟩) (Nat.le_refl _) (.int .i64 0)).setCell (p := ⟨w.heap.size, 3, none⟩) (Nat.le_refl _) (.int .i64 0)).setCell (p := ⟨w.heap.size, 4, none⟩) (Nat.le_refl _) (.int .i64 0)).setCell (p := ⟨w.heap.size, 5, none⟩) (Nat.le_refl _) (.int .i64 0)).setCell (p := ⟨w.heap.size, 6, none⟩) (Nat.le_refl _) (.int .i64 0)).setCell (p := ⟨w.heap.size, 7, none⟩) (Nat.le_refl _) (.slice none 0 0))
    refine bodyPost_ret (v := .tuple #[wdV 0 0 0 0 0 0 0 (.slice none 0 0), .int .i64 3]) (by simp [results, Tryd.results18, go_sem, z0, z1, z2, z3, z4, z5, z6, z7]) rfl ⟨.inl ⟨by rw [HPP.out]; exact HD.out, rfl⟩, HF.out⟩
  have t0 : decide (st = some []) = true := by simpa using hwh
  rw [t0] at HW6
  have HIS := Lib.hid (wd_is (k : Int) (o : Int) (s : Int) 0 0 0 0 none 0 [] W2 (rowAt_nil W2) (fun m hm => by cases hm) (by simp))
  have HCK : Hid (∀ bb, okW (wdOf (k : Int) (o : Int) (s : Int) 0 0 0 0 []) = bb → decW p = if bb then some PW else none) := Lib.hid (fun bb hbb => by
    rw [HDP.out, HPW.out]
    unfold chkW
    have hbb' : okW ⟨(k : Int), (o : Int), (s : Int), 0, 0, 0, 0, []⟩ = bb := hbb
    rw [hbb']
    cases bb
    · rw [if_neg (fun h => by cases h.2)]; rfl
    · rw [if_pos ⟨hwh, rfl⟩]; rfl)
  clear t0 hwh
  cases hok : okW (wdOf (k : Int) (o : Int) (s : Int) 0 0 0 0 [])
  · have HD : Hid (decW p = none) := Lib.hid (HCK.out false hok)
    rw [hok] at HIS
    clear hok HCK
    go_wp2_with (first | (go_at_call 64; refine HW6.out.mono ?_; rintro e W7 ⟨rfl, rfl⟩) | (go_at_call 47; refine HIS.out.mono ?_; rintro e W7 ⟨rfl, k7⟩; have RB7 := HRB2.out.below k7; have HRB7 := Lib.hid RB7; have HB7 := Lib.hid (HB2.out.trans (k7.mono HB2.out.size)); clear k7 r0 r1 r2 r3 r4 r5 r6 r7 rf rl; have r0 := RB7.c 0 _ rfl; have r1 := RB7.c 1 _ rfl; have r2 := RB7.c 2 _ rfl; have r3 := RB7.c 3 _ rfl; have r4 := RB7.c 4 _ rfl; have r5 := RB7.c 5 _ rfl; have r6 := RB7.c 6 _ rfl; have r7 := RB7.c 7 _ rfl; have rf := RB7.fz; have rl := RB7.lt; clear RB7))
    have RBf := ((((((((HRB7.out.set 0 (by simp [zeroW]) (.int .i64 0)).set 1 (by simp [zeroW]) (.int .i64 0)).set 2 (by simp [zeroW]) (.int .i64 0)).set 3 (by simp [zeroW]) (.int .i64 0)).set 4 (by simp [zeroW]) (.int .i64 0)).set 5 (by simp [zeroW]) (.int .i64 0)).set 6 (by simp [zeroW]) (.int .i64 0)).set 7 (by simp [zeroW]) (.slice none 0 0))
    have z0 := RBf.c 0 _ rfl
    have z1 := RBf.c 1 _ rfl
    have z2 := RBf.c 2 _ rfl
    have z3 := RBf.c 3 _ rfl
    have z4 := RBf.c 4 _ rfl
    have z5 := RBf.c 5 _ rfl
    have z6 := RBf.c 6 _ rfl
    have z7 := RBf.c 7 _ rfl
    have HF : Hid (Below w.heap.size w _) := Lib.hid ((((((((HB7.out.setCell (p := ⟨w.heap.size, 0, none⟩) (Nat.le_refl _) (.int .i64 0)).setCell (p := ⟨w.heap.size, 1, none⟩) (Nat.le_refl _) (.int .i64 0)).setCell (p := ⟨w.heap.size, 2, none⟩) (Nat.le_refl _) (.int .i64 0)).setCell (p := ⟨w.heap.size, 3, none⟩) (Nat.le_refl _) (.int .i64 0)).setCell (p := ⟨w.heap.size, 4, none⟩) (Nat.le_refl _) (.int .i64 0)).setCell (p := ⟨w.heap.size, 5, none⟩) (Nat.le_refl _) (.int .i64 0)).setCell (p := ⟨w.heap.size, 6, none⟩) (Nat.le_refl _) (.int .i64 0)).setCell (p := ⟨w.heap.size, 7, none⟩) (Nat.le_refl _) (.slice none 0 0))
    refine bodyPost_ret (v := .tuple #[wdV 0 0 0 0 0 0 0 (.slice none 0 0), .int .i64 3]) (by simp [results, Tryd.results18, go_sem, z0, z1, z2, z3, z4, z5, z6, z7]) rfl ⟨.inl ⟨by rw [HPP.out]; exact HD.out, rfl⟩, HF.out⟩
  · have HD : Hid (decW p = some PW) := Lib.hid (HCK.out true hok)
    rw [hok] at HIS
    have HPK : Hid (PW.k = (k : Int) ∧ PW.o = (o : Int) ∧ PW.s = (s : Int)) := Lib.hid (by rw [HPW.out]; exact ⟨rfl, rfl, rfl⟩)
    clear hok HCK
    go_wp2_with (first | (go_at_call 64; refine HW6.out.mono ?_; rintro e W7 ⟨rfl, rfl⟩) | (go_at_call 47; refine HIS.out.mono ?_; rintro e W7 ⟨rfl, k7⟩; have RB7 := HRB2.out.below k7; have X7 := HX2.out.below k7; have HRB7 := Lib.hid RB7; have HB7 := Lib.hid (HB2.out.trans (k7.mono HB2.out.size)); clear k7 r0 r1 r2 r3 r4 r5 r6 r7 rf rl x0 x1 x2 x3 x4 x5 x6 x7 xl; have r0 := RB7.c 0 _ rfl; have r1 := RB7.c 1 _ rfl; have r2 := RB7.c 2 _ rfl; have r3 := RB7.c 3 _ rfl; have r4 := RB7.c 4 _ rfl; have r5 := RB7.c 5 _ rfl; have r6 := RB7.c 6 _ rfl; have r7 := RB7.c 7 _ rfl; have rf := RB7.fz; have rl := RB7.lt; have x0 := X7.c 0 _ rfl; have x1 := X7.c 1 _ rfl; have x2 := X7.c 2 _ rfl; have x3 := X7.c 3 _ rfl; have x4 := X7.c 4 _ rfl; have x5 := X7.c 5 _ rfl; have x6 := X7.c 6 _ rfl; have x7 := X7.c 7 _ rfl; have xl := X7.lt; clear RB7 X7))
    have RBf := ((((((((HRB7.out.set 0 (by simp [zeroW]) (.int .i64 (k : Int))).set 1 (by simp [zeroW]) (.int .i64 (o : Int))).set 2 (by simp [zeroW]) (.int .i64 (s : Int))).set 3 (by simp [zeroW]) (.int .i64 0)).set 4 (by simp [zeroW]) (.int .i64 0)).set 5 (by simp [zeroW]) (.int .i64 0)).set 6 (by simp [zeroW]) (.int .i64 0)).set 7 (by simp [zeroW]) (.slice none 0 0))
    have z0 := RBf.c 0 _ rfl
    have z1 := RBf.c 1 _ rfl
    have z2 := RBf.c 2 _ rfl
    have z3 := RBf.c 3 _ rfl
    have z4 := RBf.c 4 _ rfl
    have z5 := RBf.c 5 _ rfl
    have z6 := RBf.c 6 _ rfl
    have z7 := RBf.c 7 _ rfl
    have HF : Hid (Below w.heap.size w _) := Lib.hid ((((((((HB7.out.setCell (p := ⟨w.heap.size, 0, none⟩) (Nat.le_refl _) (.int .i64 (k : Int))).setCell (p := ⟨w.heap.size, 1, none⟩) (Nat.le_refl _) (.int .i64 (o : Int))).setCell (p := ⟨w.heap.size, 2, none⟩) (Nat.le_refl _) (.int .i64 (s : Int))).setCell (p := ⟨w.heap.size, 3, none⟩) (Nat.le_refl _) (.int .i64 0)).setCell (p := ⟨w.heap.size, 4, none⟩) (Nat.le_refl _) (.int .i64 0)).setCell (p := ⟨w.heap.size, 5, none⟩) (Nat.le_refl _) (.int .i64 0)).setCell (p := ⟨w.heap.size, 6, none⟩) (Nat.le_refl _) (.int .i64 0)).setCell (p := ⟨w.heap.size, 7, none⟩) (Nat.le_refl _) (.slice none 0 0))
    refine bodyPost_ret (v := .tuple #[wdV (k : Int) (o : Int) (s : Int) 0 0 0 0 (.slice none 0 0), .int .i64 0]) (by simp [results, Tryd.results18, go_sem, z0, z1, z2, z3, z4, z5, z6, z7]) rfl ⟨.inr ⟨by rw [HPP.out]; exact HD.out, by rw [HPK.out.1, HPK.out.2.1, HPK.out.2.2]⟩, HF.out⟩
end Go.Proofs.YtdffldlcbihjmaaDoor
