/- The reference's Decode of a record (written by gen/refdec.py). -/
import Derived.Test.YtpccneikblbhdaaRefNum
import Derived.Test.YtpccneikblbhdaaRecDec
import Derived.BigGuard
import Derived.BigGuardPart
import Derived.BigCall
set_option linter.unusedSimpArgs false
set_option linter.unusedVariables false
namespace Go.Proofs.Ytpccneikblbhdaa
open Go.RowKit

/-- What is read, one number at a time. -/
theorem pR_each (l : List Int) : pR (some l) = ⟨⟨((rNum (some l)).1 : Nat), ((rNum (rNum (some l)).2).1 : Nat), (rBytes (rNum (rNum (some l)).2).2).1, ((rNum (rBytes (rNum (rNum (some l)).2).2).2).1 : Nat), ((rNum (rNum (rBytes (rNum (rNum (some l)).2).2).2).2).1 : Nat), ((rNum (some l)).1 : Nat),
    (rBytes (rNum (rNum (rNum (rNum (rBytes (rNum (rNum (some l)).2).2).2).2).2).2).2).1, (rNum (rNum (rNum (rBytes (rNum (rNum (some l)).2).2).2).2).2).1 == 1, ((rNum (rNum (rNum (rNum (rBytes (rNum (rNum (some l)).2).2).2).2).2).2).1 : Nat)⟩, (rNum (rNum (rNum (rBytes (rNum (rNum (some l)).2).2).2).2).2).1, (rBytes (rNum (rNum (rNum (rNum (rBytes (rNum (rNum (some l)).2).2).2).2).2).2).2).2⟩ := rfl
set_option maxRecDepth 100000 in
set_option maxHeartbeats 8000000 in
theorem ref_dec (A : Option Addr) (l : List Int) (c : Nat) (w : World) (hby : ByL w A l) (hb : isBy l) (hn : A = none → l.length = 0 ∧ c = 0) (hl : l.length ≤ 100000) (hc : l.length ≤ c) (hcm : c ≤ maxLen)
    (hIs : ∀ (o s : Int) (key : ByteArray) (ml ct vo : Int) (A : Option Addr) (n c : Nat) (gone : Bool) (tt : Int) (w : World), Calls Try.prog 29 #[recV o s key ml ct vo A n c gone tt] w fun e w' => e = .returned (.bool (okN o s key.size ml ct vo n gone tt)) ∧ Below w.heap.size w w') :
    Calls Try.prog 21 #[.slice A l.length c] w fun e w' => DecRes l w w' e ∧ Below w.heap.size w w' := by
  have HZ : Hid (Below w.heap.size w ((w.alloc (recO 0 0 ⟨#[]⟩ 0 0 0 none 0 0 false 0)).alloc (.cells #[.slice A l.length c, .bool false] 72))) := Lib.hid (by (repeat' (first | (with_reducible exact Below.refl _ _) | (with_reducible assumption) | (with_reducible refine Below.trans ?_ (Below.mono (by with_reducible assumption) ?_)) | (with_reducible refine Below.alloc ?_ ?_ _) | (with_reducible refine Below.setCell ?_ ?_ _) | (with_reducible refine below_drewN ?_ _) | (with_reducible refine Below.drew ?_) | go_size)))
  have HRB : Hid (XB ((w.alloc (recO 0 0 ⟨#[]⟩ 0 0 0 none 0 0 false 0)).alloc (.cells #[.slice A l.length c, .bool false] 72)) w.heap.size zeroR) := Lib.hid ((XB.new w _ _).below ((Below.refl _ _).alloc (Nat.le_refl _) _))
  have HR0 : Hid (Rd (fun i => i < w.heap.size) ((w.alloc (recO 0 0 ⟨#[]⟩ 0 0 0 none 0 0 false 0)).alloc (.cells #[.slice A l.length c, .bool false] 72)) (w.heap.size + 1) (some l)) := Lib.hid
    ⟨by omega, by simp, by simp, by simp, (fun e => by cases e), fun bs e => by
      injection e with e
      subst e
      exact ⟨A, c, by simp [World.cell?_alloc_new, go_sem], by simp [go_sem], hc, hcm, hby.below HZ.out, (fun ad had hp => by
        obtain ⟨B, O, e1, e2, _⟩ := hby hp
        rw [had] at e1
        injection e1 with e1
        subst e1
        exact ⟨e2, rfl⟩), hb, hn⟩⟩
  have HPR := Lib.hid (pR_each l)
  have HIS := Lib.hid hIs
  have hz2 : ((w.alloc (recO 0 0 ⟨#[]⟩ 0 0 0 none 0 0 false 0)).alloc (.cells #[.slice A l.length c, .bool false] 72)).heap.size = w.heap.size + 2 := by simp
  have hl0 : rLeft (some l) ≤ 100000 := hl
  clear hby hb hn hl hc hcm hIs
  go_enter Try.func21, Try.ntmps21
  go_wp2_with fail
  generalize (w.alloc (recO 0 0 ⟨#[]⟩ 0 0 0 none 0 0 false 0)).alloc (.cells #[.slice A l.length c, .bool false] 72) = Z at *
  refine (rr_num (w.heap.size + 1) (some l) Z HR0.out (by omega)).mono ?_; rintro e W1 ⟨rfl, p1⟩
  have hl1 : rLeft (rNum (some l)).2 ≤ 100000 := Nat.le_trans (rNum_left (some l)) hl0
  have HRB1 := Lib.hid (HRB.out.only p1.only (by omega))
  have HB1 := Lib.hid (HZ.out.trans (p1.only.below (by omega) HZ.out.size))
  have HR1 := Lib.hid p1.rd
  have z1 := p1.only.size
  clear p1 HR0 HRB HZ
  go_wp2_with fail
  refine (rr_num (w.heap.size + 1) _ W1 HR1.out (by omega)).mono ?_; rintro e W2 ⟨rfl, p2⟩
  have hl2 : rLeft (rNum (rNum (some l)).2).2 ≤ 100000 := Nat.le_trans (rNum_left _) hl1
  have HRB2 := Lib.hid (HRB1.out.only p2.only (by omega))
  have HB2 := Lib.hid (HB1.out.trans (p2.only.below (by omega) HB1.out.size))
  have HR2 := Lib.hid p2.rd
  have z2 := p2.only.size
  clear p2 HR1 HRB1 HB1
  go_wp2_with fail
  generalize ((rNum (some l)).1 : Nat) = o at *
  generalize ((rNum (rNum (some l)).2).1 : Nat) = s at *
  generalize (rNum (rNum (some l)).2).2 = st2 at *
  have HBY2 := Lib.hid (rBytes_by HR2.out.by_).2
  have hl3 : rLeft (rBytes st2).2 ≤ 100000 := Nat.le_trans (rBytes_left st2).1 hl2
  refine (rr_bytes (w.heap.size + 1) st2 W2 HR2.out (by omega)).mono ?_; rintro e W3 ⟨ht, p3⟩
  obtain ⟨A3, c3, rfl, y3, n3, _, _, f3⟩ := ht
  have hcv := run_str W3 A3 (rBytes st2).1 c3 y3 HBY2.out (fun e => (n3 e).1)
  have hky : Hid (kL (strB (rBytes st2).1) = (rBytes st2).1) := Lib.hid (kL_str HBY2.out)
  have HRB3 := Lib.hid (HRB2.out.only p3.only (by omega))
  have HB3 := Lib.hid (HB2.out.trans (p3.only.below (by omega) HB2.out.size))
  have HR3 := Lib.hid p3.rd
  have z3 := p3.only.size
  clear p3 HR2 HRB2 HB2 y3 n3 f3
  generalize (rBytes st2).2 = st3 at *
  have HSTR : Hid (strB (rBytes st2).1 = strB (rBytes st2).1) := Lib.hid rfl
  generalize strB (rBytes st2).1 = KB at *
  go_wp2_with fail
  have k4 : Below W3.heap.size W3 (W3.alloc (recO o s KB 0 0 0 none 0 0 false 0)).drew := ((Below.refl _ _).alloc (Nat.le_refl _) _).trans ⟨rfl, rfl, rfl, Nat.le_refl _, fun _ _ => rfl⟩
  have X4 : XB (W3.alloc (recO o s KB 0 0 0 none 0 0 false 0)).drew W3.heap.size [.int .i64 o, .int .i64 s, .string KB, .int .i64 0, .int .i64 0, .int .i64 0, .slice none 0 0, .bool false, .int .i64 0] := (XB.new W3 _ _).below ⟨rfl, rfl, rfl, Nat.le_refl _, fun _ _ => rfl⟩
  have z4 : (W3.alloc (recO o s KB 0 0 0 none 0 0 false 0)).drew.heap.size = W3.heap.size + 1 := by show (W3.alloc _).heap.size = _; simp
  have x0 : (W3.alloc (recO o s KB 0 0 0 none 0 0 false 0)).cell? ⟨W3.heap.size, 0, none⟩ = some (.int .i64 o) := (XB.new W3 _ _).c 0 _ rfl
  have HX4 := Lib.hid X4
  have HR4 := Lib.hid (HR3.out.below k4)
  have HRB4 := Lib.hid (HRB3.out.below k4)
  have HB4 := Lib.hid (HB3.out.trans (k4.mono HB3.out.size))
  clear X4 HR3 HRB3 HB3 hcv k4
  refine wp_region_held_drew (S := (fun w' => w'.cell? ⟨W3.heap.size, 0, none⟩ = some (.int .i64 o))) (by kernel_rfl) ?_ (fun hHeld => ?_)
  · exact x0
  refine wpAnyH_take (i := 0) (v := ?_) rfl (by kernel_rfl) (by kernel_rfl) (by kernel_rfl) (fun _ _ _ h => h) (Or.inl ⟨by rfl, ?_⟩) (by assumption) ?_
  rotate_left
  · intro w' hSw; (try dsimp only at hSw); go_simp; (try with_reducible rfl)
  (try simp only [Act.put, List.setIfInBounds_toArray, List.set_cons_zero, List.set_cons_succ, List.getElem_toArray, List.getElem_cons_succ, List.getElem_cons_zero])
  refine wpAnyH_take (i := 2) (v := ?_) rfl (by kernel_rfl) (by kernel_rfl) (by kernel_rfl) (fun _ _ _ h => h) (Or.inl ⟨by rfl, ?_⟩) (by assumption) ?_
  rotate_left
  · intro w' hSw; (try dsimp only at hSw); go_simp; (try with_reducible rfl)
  (try simp only [Act.put, List.setIfInBounds_toArray, List.set_cons_zero, List.set_cons_succ, List.getElem_toArray, List.getElem_cons_succ, List.getElem_cons_zero])
  refine wpAnyH_take (i := 5) (v := ?_) rfl (by kernel_rfl) (by kernel_rfl) (by kernel_rfl) (fun _ _ _ h => h) (Or.inl ⟨by rfl, ?_⟩) (by assumption) ?_
  rotate_left
  · intro w' hSw; (try dsimp only at hSw); go_simp; (try with_reducible rfl)
  (try simp only [Act.put, List.setIfInBounds_toArray, List.set_cons_zero, List.set_cons_succ, List.getElem_toArray, List.getElem_cons_succ, List.getElem_cons_zero])
  refine wpAnyH_take (i := 6) (v := ?_) rfl (by kernel_rfl) (by kernel_rfl) (by kernel_rfl) (fun _ _ _ h => h) (Or.inl ⟨by rfl, ?_⟩) (by assumption) ?_
  rotate_left
  · intro w' hSw; (try dsimp only at hSw); go_simp; (try with_reducible rfl)
  (try simp only [Act.put, List.setIfInBounds_toArray, List.set_cons_zero, List.set_cons_succ, List.getElem_toArray, List.getElem_cons_succ, List.getElem_cons_zero])
  refine wpAnyH_ready (rs := [1]) (by kernel_rfl) (by simp) ?_
  refine AllReadyH.cons rfl (fun K hK => ?_) AllReadyH.nil
  go_simp
  refine (rr_num (w.heap.size + 1) st3 _ HR4.out (by omega)).mono ?_; rintro e W5 ⟨rfl, p5⟩
  have X5 := HX4.out.only p5.only (by omega)
  have HX5 := Lib.hid X5
  have HR5 := Lib.hid p5.rd
  have HRB5 := Lib.hid (HRB4.out.only p5.only (by omega))
  have HB5 := Lib.hid (HB4.out.trans (p5.only.below (by omega) HB4.out.size))
  have z5 := p5.only.size
  (try dsimp only)
  refine hK.out _ _ ?_ (fun hHeld => ?_)
  · exact X5.c 0 _ rfl
  clear hK K
  (try simp only [Act.put, List.setIfInBounds_toArray, List.set_cons_zero, List.set_cons_succ, List.getElem_toArray, List.getElem_cons_succ, List.getElem_cons_zero])
  refine wpAnyH_ready (rs := [3]) (by kernel_rfl) (by simp) ?_
  refine AllReadyH.cons rfl (fun K hK => ?_) AllReadyH.nil
  go_simp
  have hl4 : rLeft (rNum st3).2 ≤ 100000 := Nat.le_trans (rNum_left _) hl3
  refine (rr_num (w.heap.size + 1) _ _ HR5.out (by omega)).mono ?_; rintro e W6 ⟨rfl, p6⟩
  have X6 := HX5.out.only p6.only (by omega)
  have HX6 := Lib.hid X6
  have HR6 := Lib.hid p6.rd
  have HRB6 := Lib.hid (HRB5.out.only p6.only (by omega))
  have HB6 := Lib.hid (HB5.out.trans (p6.only.below (by omega) HB5.out.size))
  have z6 := p6.only.size
  (try dsimp only)
  refine hK.out _ _ ?_ (fun hHeld => ?_)
  · exact X6.c 0 _ rfl
  clear hK K
  (try simp only [Act.put, List.setIfInBounds_toArray, List.set_cons_zero, List.set_cons_succ, List.getElem_toArray, List.getElem_cons_succ, List.getElem_cons_zero])
  refine wpAnyH_take (i := 4) (v := ?_) rfl (by kernel_rfl) (by kernel_rfl) (by kernel_rfl) (fun _ _ _ h => h) (Or.inl ⟨by rfl, ?_⟩) (by assumption) ?_
  rotate_left
  · intro w' hSw; (try dsimp only at hSw); go_simp; (try with_reducible rfl)
  (try simp only [Act.put, List.setIfInBounds_toArray, List.set_cons_zero, List.set_cons_succ, List.getElem_toArray, List.getElem_cons_succ, List.getElem_cons_zero])
  refine wpAnyH_take (i := 7) (v := ?_) rfl (by kernel_rfl) (by kernel_rfl) (by kernel_rfl) (fun _ _ _ h => h) (Or.inl ⟨by rfl, ?_⟩) (by assumption) ?_
  rotate_left
  · intro w' hSw; (try dsimp only at hSw); go_simp; (try with_reducible rfl)
  (try simp only [Act.put, List.setIfInBounds_toArray, List.set_cons_zero, List.set_cons_succ, List.getElem_toArray, List.getElem_cons_succ, List.getElem_cons_zero])
  refine wpAnyH_take (i := 8) (v := ?_) rfl (by kernel_rfl) (by kernel_rfl) (by kernel_rfl) (fun _ _ _ h => h) (Or.inl ⟨by rfl, ?_⟩) (by assumption) ?_
  rotate_left
  · intro w' hSw; (try dsimp only at hSw); go_simp; (try with_reducible rfl)
  (try simp only [Act.put, List.setIfInBounds_toArray, List.set_cons_zero, List.set_cons_succ, List.getElem_toArray, List.getElem_cons_succ, List.getElem_cons_zero])
  generalize ((rNum st3).1 : Nat) = ml at *
  generalize ((rNum (rNum st3).2).1 : Nat) = ct at *
  have hl5 : rLeft (rNum (rNum st3).2).2 ≤ 100000 := Nat.le_trans (rNum_left _) hl4
  generalize (rNum (rNum st3).2).2 = st5 at *
  clear hHeld
  have x0 := X6.c 0 _ rfl
  have x3 := X6.c 3 _ rfl
  have x4 := X6.c 4 _ rfl
  have x5 := X6.c 5 _ rfl
  have x6 := X6.c 6 _ rfl
  have x7 := X6.c 7 _ rfl
  have x8 := X6.c 8 _ rfl
  have xf3 := X6.fz 3
  have xf4 := X6.fz 4
  have xf5 := X6.fz 5
  have xf6 := X6.fz 6
  have xf7 := X6.fz 7
  have xf8 := X6.fz 8
  have xl := X6.lt
  refine wpAnyH_ready (rs := [9]) (by kernel_rfl) (by simp) ?_
  refine AllReadyH.cons rfl (fun K hK => ?_) AllReadyH.nil
  go_simp
  refine hK.out _ _ ?_ (fun hHeld => ?_)
  · exact ((((((X6.set 3 (by simp) (.int .i64 ml)).set 4 (by simp) (.int .i64 ct)).set 5 (by simp) (.int .i64 o)).set 6 (by simp) (.slice none 0 0)).set 7 (by simp) (.bool false)).set 8 (by simp) (.int .i64 0)).c 0 _ rfl
  clear hK K hHeld
  (try simp only [Act.put, List.setIfInBounds_toArray, List.set_cons_zero, List.set_cons_succ, List.getElem_toArray, List.getElem_cons_succ, List.getElem_cons_zero])
  refine wpAnyH_done (by kernel_rfl) ?_ _
  clear x0 x3 x4 x5 x6 x7 x8 xf3 xf4 xf5 xf6 xf7 xf8 xl X6 X5
  go_wp2_with fail
  have X7 := ((((((HX6.out.set 3 (by simp) (.int .i64 ml)).set 4 (by simp) (.int .i64 ct)).set 5 (by simp) (.int .i64 o)).set 6 (by simp) (.slice none 0 0)).set 7 (by simp) (.bool false)).set 8 (by simp) (.int .i64 0))
  have RB7 := ((((((HRB6.out.other (p := ⟨W3.heap.size, 3, none⟩) (show W3.heap.size ≠ w.heap.size by omega) (.int .i64 ml)).other (p := ⟨W3.heap.size, 4, none⟩) (show W3.heap.size ≠ w.heap.size by omega) (.int .i64 ct)).other (p := ⟨W3.heap.size, 5, none⟩) (show W3.heap.size ≠ w.heap.size by omega) (.int .i64 o)).other (p := ⟨W3.heap.size, 6, none⟩) (show W3.heap.size ≠ w.heap.size by omega) (.slice none 0 0)).other (p := ⟨W3.heap.size, 7, none⟩) (show W3.heap.size ≠ w.heap.size by omega) (.bool false)).other (p := ⟨W3.heap.size, 8, none⟩) (show W3.heap.size ≠ w.heap.size by omega) (.int .i64 0))
  have hO7 : Only W3.heap.size W6 ((((((W6.setCell ⟨W3.heap.size, 3, none⟩ (.int .i64 ml)).setCell ⟨W3.heap.size, 4, none⟩ (.int .i64 ct)).setCell ⟨W3.heap.size, 5, none⟩ (.int .i64 o)).setCell ⟨W3.heap.size, 6, none⟩ (.slice none 0 0)).setCell ⟨W3.heap.size, 7, none⟩ (.bool false)).setCell ⟨W3.heap.size, 8, none⟩ (.int .i64 0)) := (((((((Only.refl W3.heap.size W6).setB (o := 3) (.int .i64 ml)).setB (o := 4) (.int .i64 ct)).setB (o := 5) (.int .i64 o)).setB (o := 6) (.slice none 0 0)).setB (o := 7) (.bool false)).setB (o := 8) (.int .i64 0))
  have R7 := HR6.out.but (S := fun i => i = W3.heap.size) (But.of_only hO7 rfl) (show w.heap.size + 1 ≠ W3.heap.size by omega) (fun i e => by subst e; show ¬ W3.heap.size < w.heap.size; omega)
  have B7 := HB6.out.trans (hO7.below (B := w.heap.size) (by omega) HB6.out.size)
  have z7 := hO7.size
  generalize ((((((W6.setCell ⟨W3.heap.size, 3, none⟩ (.int .i64 ml)).setCell ⟨W3.heap.size, 4, none⟩ (.int .i64 ct)).setCell ⟨W3.heap.size, 5, none⟩ (.int .i64 o)).setCell ⟨W3.heap.size, 6, none⟩ (.slice none 0 0)).setCell ⟨W3.heap.size, 7, none⟩ (.bool false)).setCell ⟨W3.heap.size, 8, none⟩ (.int .i64 0)) = W7 at *
  have HX7 := Lib.hid X7
  have HR7 := Lib.hid R7
  have HRB7 := Lib.hid RB7
  have HB7 := Lib.hid B7
  clear X7 R7 RB7 B7 hO7 HX6 HR6 HRB6 HB6
  refine (rr_num (w.heap.size + 1) st5 W7 HR7.out (by omega)).mono ?_; rintro e W8 ⟨rfl, p8⟩
  have HX8 := Lib.hid (HX7.out.only p8.only (by omega))
  have HR8 := Lib.hid p8.rd
  have HRB8 := Lib.hid (HRB7.out.only p8.only (by omega))
  have HB8 := Lib.hid (HB7.out.trans (p8.only.below (by omega) HB7.out.size))
  have z8 := p8.only.size
  clear p8 HX7 HR7 HRB7 HB7
  have hl8 : rLeft (rNum st5).2 ≤ 100000 := Nat.le_trans (rNum_left _) hl5
  generalize ((rNum st5).1 : Nat) = gn at *
  generalize (rNum st5).2 = st8 at *
  have X8 := HX8.out
  have x7 := X8.c 7 _ rfl
  have xf7 := X8.fz 7
  have xl := X8.lt
  clear X8
  go_wp2_with fail
  clear xl x7 xf7
  have X9 := (HX8.out.set 7 (by simp) (.bool ((gn : Int) == 1)))
  have RB9 := (HRB8.out.other (p := ⟨W3.heap.size, 7, none⟩) (show W3.heap.size ≠ w.heap.size by omega) (.bool ((gn : Int) == 1)))
  have hO9 : Only W3.heap.size W8 (W8.setCell ⟨W3.heap.size, 7, none⟩ (.bool ((gn : Int) == 1))) := ((Only.refl W3.heap.size W8).setB (o := 7) (.bool ((gn : Int) == 1)))
  have R9 := HR8.out.but (S := fun i => i = W3.heap.size) (But.of_only hO9 rfl) (show w.heap.size + 1 ≠ W3.heap.size by omega) (fun i e => by subst e; show ¬ W3.heap.size < w.heap.size; omega)
  have B9 := HB8.out.trans (hO9.below (B := w.heap.size) (by omega) HB8.out.size)
  have z9 := hO9.size
  generalize (W8.setCell ⟨W3.heap.size, 7, none⟩ (.bool ((gn : Int) == 1))) = W9 at *
  have HX9 := Lib.hid X9
  have HR9 := Lib.hid R9
  have HRB9 := Lib.hid RB9
  have HB9 := Lib.hid B9
  clear X9 R9 RB9 B9 hO9 HX8 HR8 HRB8 HB8
  refine (rr_num (w.heap.size + 1) st8 W9 HR9.out (by omega)).mono ?_; rintro e W10 ⟨rfl, p10⟩
  have HX10 := Lib.hid (HX9.out.only p10.only (by omega))
  have HR10 := Lib.hid p10.rd
  have HRB10 := Lib.hid (HRB9.out.only p10.only (by omega))
  have HB10 := Lib.hid (HB9.out.trans (p10.only.below (by omega) HB9.out.size))
  have z10 := p10.only.size
  clear p10 HX9 HR9 HRB9 HB9
  have hl10 : rLeft (rNum st8).2 ≤ 100000 := Nat.le_trans (rNum_left _) hl8
  generalize ((rNum st8).1 : Nat) = tt at *
  generalize (rNum st8).2 = st10 at *
  have X10 := HX10.out
  have x8 := X10.c 8 _ rfl
  have xf8 := X10.fz 8
  have xl := X10.lt
  clear X10
  go_wp2_with fail
  clear xl x8 xf8
  have X11 := (HX10.out.set 8 (by simp) (.int .i64 tt))
  have RB11 := (HRB10.out.other (p := ⟨W3.heap.size, 8, none⟩) (show W3.heap.size ≠ w.heap.size by omega) (.int .i64 tt))
  have hO11 : Only W3.heap.size W10 (W10.setCell ⟨W3.heap.size, 8, none⟩ (.int .i64 tt)) := ((Only.refl W3.heap.size W10).setB (o := 8) (.int .i64 tt))
  have R11 := HR10.out.but (S := fun i => i = W3.heap.size) (But.of_only hO11 rfl) (show w.heap.size + 1 ≠ W3.heap.size by omega) (fun i e => by subst e; show ¬ W3.heap.size < w.heap.size; omega)
  have B11 := HB10.out.trans (hO11.below (B := w.heap.size) (by omega) HB10.out.size)
  have z11 := hO11.size
  generalize (W10.setCell ⟨W3.heap.size, 8, none⟩ (.int .i64 tt)) = W11 at *
  have HX11 := Lib.hid X11
  have HR11 := Lib.hid R11
  have HRB11 := Lib.hid RB11
  have HB11 := Lib.hid B11
  clear X11 R11 RB11 B11 hO11 HX10 HR10 HRB10 HB10
  have HBV := Lib.hid (rBytes_by HR11.out.by_).2
  refine (rr_bytes (w.heap.size + 1) st10 W11 HR11.out (by omega)).mono ?_; rintro e W12 ⟨ht, p12⟩
  obtain ⟨A20, c20, rfl, y12, n12, _, _, f12⟩ := ht
  have HX12 := Lib.hid (HX11.out.only p12.only (by omega))
  have HR12 := Lib.hid p12.rd
  have HRB12 := Lib.hid (HRB11.out.only p12.only (by omega))
  have HB12 := Lib.hid (HB11.out.trans (p12.only.below (by omega) HB11.out.size))
  have z12 := p12.only.size
  have HV12 := Lib.hid (And.intro y12 (And.intro n12 f12))
  clear p12 HX11 HR11 HRB11 HB11 y12 n12 f12
  generalize (rBytes st10).2 = st20 at *
  generalize (rBytes st10).1 = val at *
  have X12 := HX12.out
  have x6 := X12.c 6 _ rfl
  have xf6 := X12.fz 6
  have xl := X12.lt
  clear X12
  go_wp2_with fail
  clear xl x6 xf6
  have X13 := (HX12.out.set 6 (by simp) (.slice A20 val.length c20))
  have RB13 := (HRB12.out.other (p := ⟨W3.heap.size, 6, none⟩) (show W3.heap.size ≠ w.heap.size by omega) (.slice A20 val.length c20))
  have hO13 : Only W3.heap.size W12 (W12.setCell ⟨W3.heap.size, 6, none⟩ (.slice A20 val.length c20)) := ((Only.refl W3.heap.size W12).setB (o := 6) (.slice A20 val.length c20))
  have R13 := HR12.out.but (S := fun i => i = W3.heap.size) (But.of_only hO13 rfl) (show w.heap.size + 1 ≠ W3.heap.size by omega) (fun i e => by subst e; show ¬ W3.heap.size < w.heap.size; omega)
  have B13 := HB12.out.trans (hO13.below (B := w.heap.size) (by omega) HB12.out.size)
  have z13 := hO13.size
  have V13 := HV12.out.1.only hO13 (fun ad had => by have := (HV12.out.2.2 ad had).1; omega)
  generalize (W12.setCell ⟨W3.heap.size, 6, none⟩ (.slice A20 val.length c20)) = W13 at *
  have HX13 := Lib.hid X13
  have HR13 := Lib.hid R13
  have HRB13 := Lib.hid RB13
  have HB13 := Lib.hid B13
  clear X13 R13 RB13 B13 hO13 HX12 HR12 HRB12 HB12
  have HW20 := Lib.hid (rr_whole (w.heap.size + 1) st20 W13 HR13.out)
  have HV20 : Hid (ByL W13 A20 val ∧ (A20 = none → val.length = 0) ∧ ∀ ad, A20 = some ad → w.heap.size ≤ ad.block) := Lib.hid ⟨V13, fun e => (HV12.out.2.1 e).1, fun ad had => by have := (HV12.out.2.2 ad had).1; omega⟩
  have HAD : Hid (∀ ad, A20 = some ad → w.heap.size + 1 ≤ ad.block) := Lib.hid (fun ad had => by have := (HV12.out.2.2 ad had).1; omega)
  have X20 := HX13.out
  have RB20 := HRB13.out
  have HX20 := Lib.hid X20
  have HRB20 := Lib.hid RB20
  have HB20 := Lib.hid HB13.out
  clear HX13 HRB13 HB13 HR13 V13 HV12
  generalize W13 = W20 at *
  have r0 := RB20.c 0 _ rfl
  have r1 := RB20.c 1 _ rfl
  have r2 := RB20.c 2 _ rfl
  have r3 := RB20.c 3 _ rfl
  have r4 := RB20.c 4 _ rfl
  have r5 := RB20.c 5 _ rfl
  have r6 := RB20.c 6 _ rfl
  have r7 := RB20.c 7 _ rfl
  have r8 := RB20.c 8 _ rfl
  have rf := RB20.fz
  have rl := RB20.lt
  have x0 := X20.c 0 _ rfl
  have x1 := X20.c 1 _ rfl
  have x2 := X20.c 2 _ rfl
  have x3 := X20.c 3 _ rfl
  have x4 := X20.c 4 _ rfl
  have x5 := X20.c 5 _ rfl
  have x6 := X20.c 6 _ rfl
  have x7 := X20.c 7 _ rfl
  have x8 := X20.c 8 _ rfl
  have xl := X20.lt
  clear X20 RB20
  by_cases hwh : st20 = some []
  rotate_left
  · have t0 : decide (st20 = some []) = false := by simpa using hwh
    rw [t0] at HW20
    have HD : Hid (decR l = none) := Lib.hid (by unfold decR; rw [HPR.out]; rw [if_neg (fun h => hwh h.1)])
    clear t0
    go_wp2_with (go_at_call 43; refine HW20.out.mono ?_; rintro e W21 ⟨rfl, rfl⟩)
    have RBf := (((((((((HRB20.out.set 0 (by simp [zeroR]) (.int .i64 0)).set 1 (by simp [zeroR]) (.int .i64 0)).set 2 (by simp [zeroR]) (.string ⟨#[]⟩)).set 3 (by simp [zeroR]) (.int .i64 0)).set 4 (by simp [zeroR]) (.int .i64 0)).set 5 (by simp [zeroR]) (.int .i64 0)).set 6 (by simp [zeroR]) (.slice none 0 0)).set 7 (by simp [zeroR]) (.bool false)).set 8 (by simp [zeroR]) (.int .i64 0))
    have z0 := RBf.c 0 _ rfl
    have z1 := RBf.c 1 _ rfl
    have z2 := RBf.c 2 _ rfl
    have z3 := RBf.c 3 _ rfl
    have z4 := RBf.c 4 _ rfl
    have z5 := RBf.c 5 _ rfl
    have z6 := RBf.c 6 _ rfl
    have z7 := RBf.c 7 _ rfl
    have z8 := RBf.c 8 _ rfl
    have HF : Hid (Below w.heap.size w _) := Lib.hid ((((((((((HB20.out.setCell (p := ⟨w.heap.size, 0, none⟩) (Nat.le_refl _) (.int .i64 0)).setCell (p := ⟨w.heap.size, 1, none⟩) (Nat.le_refl _) (.int .i64 0)).setCell (p := ⟨w.heap.size, 2, none⟩) (Nat.le_refl _) (.string ⟨#[]⟩)).setCell (p := ⟨w.heap.size, 3, none⟩) (Nat.le_refl _) (.int .i64 0)).setCell (p := ⟨w.heap.size, 4, none⟩) (Nat.le_refl _) (.int .i64 0)).setCell (p := ⟨w.heap.size, 5, none⟩) (Nat.le_refl _) (.int .i64 0)).setCell (p := ⟨w.heap.size, 6, none⟩) (Nat.le_refl _) (.slice none 0 0)).setCell (p := ⟨w.heap.size, 7, none⟩) (Nat.le_refl _) (.bool false)).setCell (p := ⟨w.heap.size, 8, none⟩) (Nat.le_refl _) (.int .i64 0)))
    refine bodyPost_ret (v := .tuple #[recV 0 0 ⟨#[]⟩ 0 0 0 none 0 0 false 0, .int .i64 3]) (by simp [results, Try.results21, go_sem, z0, z1, z2, z3, z4, z5, z6, z7, z8]) rfl ⟨.inl ⟨HD.out, rfl⟩, HF.out⟩
  have t0 : decide (st20 = some []) = true := by simpa using hwh
  rw [t0] at HW20
  clear t0
  by_cases hgt : 1 < gn
  · have HD : Hid (decR l = none) := Lib.hid (by unfold decR; rw [HPR.out]; rw [if_neg (fun h => by have := h.2.1; simp only at this; omega)])
    have t1 : decide ((1 : Int) < (gn : Int)) = true := by simp; omega
    have t1' : decide (1 < gn) = true := by simpa using hgt
    clear hgt hwh
    go_wp2_with (go_at_call 43; refine HW20.out.mono ?_; rintro e W21 ⟨rfl, rfl⟩)
    have RBf := (((((((((HRB20.out.set 0 (by simp [zeroR]) (.int .i64 0)).set 1 (by simp [zeroR]) (.int .i64 0)).set 2 (by simp [zeroR]) (.string ⟨#[]⟩)).set 3 (by simp [zeroR]) (.int .i64 0)).set 4 (by simp [zeroR]) (.int .i64 0)).set 5 (by simp [zeroR]) (.int .i64 0)).set 6 (by simp [zeroR]) (.slice none 0 0)).set 7 (by simp [zeroR]) (.bool false)).set 8 (by simp [zeroR]) (.int .i64 0))
    have z0 := RBf.c 0 _ rfl
    have z1 := RBf.c 1 _ rfl
    have z2 := RBf.c 2 _ rfl
    have z3 := RBf.c 3 _ rfl
    have z4 := RBf.c 4 _ rfl
    have z5 := RBf.c 5 _ rfl
    have z6 := RBf.c 6 _ rfl
    have z7 := RBf.c 7 _ rfl
    have z8 := RBf.c 8 _ rfl
    have HF : Hid (Below w.heap.size w _) := Lib.hid ((((((((((HB20.out.setCell (p := ⟨w.heap.size, 0, none⟩) (Nat.le_refl _) (.int .i64 0)).setCell (p := ⟨w.heap.size, 1, none⟩) (Nat.le_refl _) (.int .i64 0)).setCell (p := ⟨w.heap.size, 2, none⟩) (Nat.le_refl _) (.string ⟨#[]⟩)).setCell (p := ⟨w.heap.size, 3, none⟩) (Nat.le_refl _) (.int .i64 0)).setCell (p := ⟨w.heap.size, 4, none⟩) (Nat.le_refl _) (.int .i64 0)).setCell (p := ⟨w.heap.size, 5, none⟩) (Nat.le_refl _) (.int .i64 0)).setCell (p := ⟨w.heap.size, 6, none⟩) (Nat.le_refl _) (.slice none 0 0)).setCell (p := ⟨w.heap.size, 7, none⟩) (Nat.le_refl _) (.bool false)).setCell (p := ⟨w.heap.size, 8, none⟩) (Nat.le_refl _) (.int .i64 0)))
    refine bodyPost_ret (v := .tuple #[recV 0 0 ⟨#[]⟩ 0 0 0 none 0 0 false 0, .int .i64 3]) (by simp [results, Try.results21, go_sem, z0, z1, z2, z3, z4, z5, z6, z7, z8]) rfl ⟨.inl ⟨HD.out, rfl⟩, HF.out⟩
  have t1 : decide ((1 : Int) < (gn : Int)) = false := by simp; omega
  have t1' : decide (1 < gn) = false := by simpa using hgt
  have HIS20 := Lib.hid (HIS.out o s KB ml ct o A20 val.length c20 ((gn : Int) == 1) tt W20)
  have hgi : ((gn : Int) == 1) = (gn == 1) := by rw [Bool.eq_iff_iff]; simp; omega
  have hok : okR ⟨o, s, (rBytes st2).1, ml, ct, o, val, gn == 1, tt⟩ = okN o s KB.size ml ct o val.length ((gn : Int) == 1) tt := by
    rw [okR_n]
    show okN o s (rBytes st2).1.length ml ct o val.length (gn == 1) tt = _
    rw [← hky.out, kL_len, hgi]
  have HGI := Lib.hid hgi
  have HKE : Hid (strB (rBytes st2).1 = KB) := Lib.hid (by rw [← hky.out, str_kL])
  have HDD : Hid (∀ b, okN o s KB.size ml ct o val.length ((gn : Int) == 1) tt = b → decR l = if b then some ⟨o, s, (rBytes st2).1, ml, ct, o, val, gn == 1, tt⟩ else none) := Lib.hid (fun b hbb => by
    unfold decR
    rw [HPR.out]
    simp only
    rw [hok, hbb]
    cases b
    · rw [if_neg (fun h => by cases h.2.2)]; rfl
    · rw [if_pos ⟨hwh, by omega, rfl⟩]; rfl)
  have HNE : Hid (∀ ad, A20 = some ad → w.heap.size + 1 ≤ ad.block) := Lib.hid (fun ad had => HAD.out ad had)
  clear hgi hok hgt hwh
  cases hk : okN o s KB.size ml ct o val.length ((gn : Int) == 1) tt
  · have HD : Hid (decR l = none) := Lib.hid (HDD.out false hk)
    rw [hk] at HIS20
    clear hk HDD
    go_wp2_with (first | (go_at_call 43; refine HW20.out.mono ?_; rintro e W21 ⟨rfl, rfl⟩) | (go_at_call 29; refine HIS20.out.mono ?_; rintro e W21 ⟨rfl, k21⟩; have X21 := HX20.out.below k21; have RB21 := HRB20.out.below k21; have HRB21 := Lib.hid RB21; have HB21 := Lib.hid (HB20.out.trans (k21.mono HB20.out.size)); clear k21 x0 x1 x2 x3 x4 x5 x6 x7 x8 xl r0 r1 r2 r3 r4 r5 r6 r7 r8 rf rl; have x0 := X21.c 0 _ rfl; have x1 := X21.c 1 _ rfl; have x2 := X21.c 2 _ rfl; have x3 := X21.c 3 _ rfl; have x4 := X21.c 4 _ rfl; have x5 := X21.c 5 _ rfl; have x6 := X21.c 6 _ rfl; have x7 := X21.c 7 _ rfl; have x8 := X21.c 8 _ rfl; have xl := X21.lt; have r0 := RB21.c 0 _ rfl; have r1 := RB21.c 1 _ rfl; have r2 := RB21.c 2 _ rfl; have r3 := RB21.c 3 _ rfl; have r4 := RB21.c 4 _ rfl; have r5 := RB21.c 5 _ rfl; have r6 := RB21.c 6 _ rfl; have r7 := RB21.c 7 _ rfl; have r8 := RB21.c 8 _ rfl; have rf := RB21.fz; have rl := RB21.lt))
    have RBf := (((((((((HRB21.out.set 0 (by simp [zeroR]) (.int .i64 0)).set 1 (by simp [zeroR]) (.int .i64 0)).set 2 (by simp [zeroR]) (.string ⟨#[]⟩)).set 3 (by simp [zeroR]) (.int .i64 0)).set 4 (by simp [zeroR]) (.int .i64 0)).set 5 (by simp [zeroR]) (.int .i64 0)).set 6 (by simp [zeroR]) (.slice none 0 0)).set 7 (by simp [zeroR]) (.bool false)).set 8 (by simp [zeroR]) (.int .i64 0))
    have z0 := RBf.c 0 _ rfl
    have z1 := RBf.c 1 _ rfl
    have z2 := RBf.c 2 _ rfl
    have z3 := RBf.c 3 _ rfl
    have z4 := RBf.c 4 _ rfl
    have z5 := RBf.c 5 _ rfl
    have z6 := RBf.c 6 _ rfl
    have z7 := RBf.c 7 _ rfl
    have z8 := RBf.c 8 _ rfl
    have HF : Hid (Below w.heap.size w _) := Lib.hid ((((((((((HB21.out.setCell (p := ⟨w.heap.size, 0, none⟩) (Nat.le_refl _) (.int .i64 0)).setCell (p := ⟨w.heap.size, 1, none⟩) (Nat.le_refl _) (.int .i64 0)).setCell (p := ⟨w.heap.size, 2, none⟩) (Nat.le_refl _) (.string ⟨#[]⟩)).setCell (p := ⟨w.heap.size, 3, none⟩) (Nat.le_refl _) (.int .i64 0)).setCell (p := ⟨w.heap.size, 4, none⟩) (Nat.le_refl _) (.int .i64 0)).setCell (p := ⟨w.heap.size, 5, none⟩) (Nat.le_refl _) (.int .i64 0)).setCell (p := ⟨w.heap.size, 6, none⟩) (Nat.le_refl _) (.slice none 0 0)).setCell (p := ⟨w.heap.size, 7, none⟩) (Nat.le_refl _) (.bool false)).setCell (p := ⟨w.heap.size, 8, none⟩) (Nat.le_refl _) (.int .i64 0)))
    refine bodyPost_ret (v := .tuple #[recV 0 0 ⟨#[]⟩ 0 0 0 none 0 0 false 0, .int .i64 3]) (by simp [results, Try.results21, go_sem, z0, z1, z2, z3, z4, z5, z6, z7, z8]) rfl ⟨.inl ⟨HD.out, rfl⟩, HF.out⟩
  · have HD := Lib.hid (HDD.out true hk)
    rw [hk] at HIS20
    clear hk HDD
    go_wp2_with (first | (go_at_call 43; refine HW20.out.mono ?_; rintro e W21 ⟨rfl, rfl⟩) | (go_at_call 29; refine HIS20.out.mono ?_; rintro e W21 ⟨rfl, k21⟩; have X21 := HX20.out.below k21; have RB21 := HRB20.out.below k21; have HRB21 := Lib.hid RB21; have HB21 := Lib.hid (HB20.out.trans (k21.mono HB20.out.size)); have HV21 := Lib.hid (HV20.out.1.below k21); clear k21 x0 x1 x2 x3 x4 x5 x6 x7 x8 xl r0 r1 r2 r3 r4 r5 r6 r7 r8 rf rl; have x0 := X21.c 0 _ rfl; have x1 := X21.c 1 _ rfl; have x2 := X21.c 2 _ rfl; have x3 := X21.c 3 _ rfl; have x4 := X21.c 4 _ rfl; have x5 := X21.c 5 _ rfl; have x6 := X21.c 6 _ rfl; have x7 := X21.c 7 _ rfl; have x8 := X21.c 8 _ rfl; have xl := X21.lt; have r0 := RB21.c 0 _ rfl; have r1 := RB21.c 1 _ rfl; have r2 := RB21.c 2 _ rfl; have r3 := RB21.c 3 _ rfl; have r4 := RB21.c 4 _ rfl; have r5 := RB21.c 5 _ rfl; have r6 := RB21.c 6 _ rfl; have r7 := RB21.c 7 _ rfl; have r8 := RB21.c 8 _ rfl; have rf := RB21.fz; have rl := RB21.lt))
    have RBf := (((((((((HRB21.out.set 0 (by simp [zeroR]) (.int .i64 o)).set 1 (by simp [zeroR]) (.int .i64 s)).set 2 (by simp [zeroR]) (.string KB)).set 3 (by simp [zeroR]) (.int .i64 ml)).set 4 (by simp [zeroR]) (.int .i64 ct)).set 5 (by simp [zeroR]) (.int .i64 o)).set 6 (by simp [zeroR]) (.slice A20 val.length c20)).set 7 (by simp [zeroR]) (.bool ((gn : Int) == 1))).set 8 (by simp [zeroR]) (.int .i64 tt))
    have z0 := RBf.c 0 _ rfl
    have z1 := RBf.c 1 _ rfl
    have z2 := RBf.c 2 _ rfl
    have z3 := RBf.c 3 _ rfl
    have z4 := RBf.c 4 _ rfl
    have z5 := RBf.c 5 _ rfl
    have z6 := RBf.c 6 _ rfl
    have z7 := RBf.c 7 _ rfl
    have z8 := RBf.c 8 _ rfl
    have HF : Hid (Below w.heap.size w _) := Lib.hid ((((((((((HB21.out.setCell (p := ⟨w.heap.size, 0, none⟩) (Nat.le_refl _) (.int .i64 o)).setCell (p := ⟨w.heap.size, 1, none⟩) (Nat.le_refl _) (.int .i64 s)).setCell (p := ⟨w.heap.size, 2, none⟩) (Nat.le_refl _) (.string KB)).setCell (p := ⟨w.heap.size, 3, none⟩) (Nat.le_refl _) (.int .i64 ml)).setCell (p := ⟨w.heap.size, 4, none⟩) (Nat.le_refl _) (.int .i64 ct)).setCell (p := ⟨w.heap.size, 5, none⟩) (Nat.le_refl _) (.int .i64 o)).setCell (p := ⟨w.heap.size, 6, none⟩) (Nat.le_refl _) (.slice A20 val.length c20)).setCell (p := ⟨w.heap.size, 7, none⟩) (Nat.le_refl _) (.bool ((gn : Int) == 1))).setCell (p := ⟨w.heap.size, 8, none⟩) (Nat.le_refl _) (.int .i64 tt)))
    have HVF := Lib.hid (HV21.out.but (S := fun i => i = w.heap.size) (But.of_only ((((((((((Only.refl w.heap.size W21).setB (o := 0) (.int .i64 o)).setB (o := 1) (.int .i64 s)).setB (o := 2) (.string KB)).setB (o := 3) (.int .i64 ml)).setB (o := 4) (.int .i64 ct)).setB (o := 5) (.int .i64 o)).setB (o := 6) (.slice A20 val.length c20)).setB (o := 7) (.bool ((gn : Int) == 1))).setB (o := 8) (.int .i64 tt)) rfl) (fun _ ad had e => by have := HNE.out ad had; omega))
    refine bodyPost_ret (v := .tuple #[recV o s KB ml ct o A20 val.length c20 ((gn : Int) == 1) tt, .int .i64 0]) (by simp [results, Try.results21, go_sem, z0, z1, z2, z3, z4, z5, z6, z7, z8]) rfl ⟨.inr ⟨_, A20, c20, HD.out, by rw [HGI.out, HKE.out], HVF.out, HV20.out.2.1, HV20.out.2.2⟩, HF.out⟩
end Go.Proofs.Ytpccneikblbhdaa
