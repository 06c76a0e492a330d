/- Stage 3: LeapPrint: any table as text, or refused; parsed again it is the table: for every table. (for every table) -/
import Derived.Test.YtonleiffbfdikaaDoorDoor3
import Derived.Test.YtonleiffbfdikaaDoorLeapOwn
import Derived.Test.YtonleiffbfdikaaDoorRef3Prt
import Derived.Test.YtonleiffbfdikaaDoorParseTab2
set_option linter.unusedSimpArgs false
set_option linter.unusedVariables false
namespace Go.Proofs.YtonleiffbfdikaaDoor
open Go.ChangeShapes Go.WideShapes Go.ChangeAt Go.RowKit Go.Joins

/-- A copy of a table's leaps. -/
def Own1 (w' : World) (n : Nat) (z : Nat → Int) (x : Int) (e : Ending) : Prop := ∃ A c, e = .returned (.agg #[.slice A n c, .int .i64 x]) ∧ FlatAt w' A 2 n z
theorem own_some (ad : Addr) (n c : Nat) (x : Int) (z : Nat → Int) (w : World) (hz : FlatAt w (some ad) 2 n z) (hn : n ≤ 300) (h0 : 0 < n) :
    Calls Tryd.prog 21 #[.agg #[.slice (some ad) n c, .int .i64 x]] w fun e w' => Own1 w' n z x e ∧ Below w.heap.size w w' := by
  have hb := hz.bd
  refine (own_yes ad n c x z w hz hn h0).mono ?_
  rintro e w' ⟨⟨g, cap, rfl, _, hr⟩, hb'⟩
  obtain ⟨A, c', e1, hf, _⟩ := own_flat2 hr hb
  exact ⟨⟨A, c', by rw [e1], hf⟩, hb'⟩
set_option maxRecDepth 100000 in
set_option maxHeartbeats 4000000 in
theorem own_nil (x : Int) (z : Nat → Int) (w : World) :
    Calls Tryd.prog 21 #[.agg #[.slice none 0 0, .int .i64 x]] w fun e w' => Own1 w' 0 z x e ∧ Below w.heap.size w w' := by
  have HBX : Below w.heap.size w ((w.alloc (.cells #[.slice none 0 0, .int .i64 x] 24)).alloc (.cells #[.slice none 0 0, .int .i64 0] 24)) := by (repeat' (first | (with_reducible exact Below.refl _ _) | (with_reducible assumption) | (with_reducible refine Below.trans ?_ (Below.mono (by with_reducible assumption) ?_)) | (with_reducible refine Below.alloc ?_ ?_ _) | (with_reducible refine Below.setCell ?_ ?_ _) | (with_reducible refine below_drewN ?_ _) | (with_reducible refine Below.drew ?_) | go_size))
  go_enter Tryd.func21, Tryd.ntmps21
  go_wp2_with fail
  go_region
  all_goals
    go_wp2_with fail
    refine bodyPost_ret (v := .agg #[.slice (some ⟨w.heap.size + 1 + 1, 0, none⟩) 0 0, .int .i64 x]) (by simp [results, Tryd.results21, go_sem]) rfl ⟨⟨_, _, rfl, FlatAt.empty _ _ _ _⟩, by (repeat' (first | (with_reducible exact Below.refl _ _) | (with_reducible assumption) | (with_reducible refine Below.trans ?_ (Below.mono (by with_reducible assumption) ?_)) | (with_reducible refine Below.alloc ?_ ?_ _) | (with_reducible refine Below.setCell ?_ ?_ _) | (with_reducible refine below_drewN ?_ _) | (with_reducible refine Below.drew ?_) | go_size))⟩
set_option maxRecDepth 100000 in
set_option maxHeartbeats 4000000 in
theorem own_empty (ad : Addr) (c : Nat) (x : Int) (z : Nat → Int) (w : World) :
    Calls Tryd.prog 21 #[.agg #[.slice (some ad) 0 c, .int .i64 x]] w fun e w' => Own1 w' 0 z x e ∧ Below w.heap.size w w' := by
  have HBX : Below w.heap.size w ((w.alloc (.cells #[.slice (some ad) 0 c, .int .i64 x] 24)).alloc (.cells #[.slice none 0 0, .int .i64 0] 24)) := by (repeat' (first | (with_reducible exact Below.refl _ _) | (with_reducible assumption) | (with_reducible refine Below.trans ?_ (Below.mono (by with_reducible assumption) ?_)) | (with_reducible refine Below.alloc ?_ ?_ _) | (with_reducible refine Below.setCell ?_ ?_ _) | (with_reducible refine below_drewN ?_ _) | (with_reducible refine Below.drew ?_) | go_size))
  have hl : ∀ w : World, (loadCellsFrom ad 0 0 #[]).run Tryd.prog w = .ok #[] w := fun w => by simp [loadCellsFrom]
  have hs : ∀ (w : World) (p : Addr), (storeCells p []).run Tryd.prog w = .ok () w := fun w p => by simp [storeCells]
  go_enter Tryd.func21, Tryd.ntmps21
  go_wp2_with fail
  go_region
  all_goals
    go_wp2_with fail
    refine bodyPost_ret (v := .agg #[.slice (some ⟨w.heap.size + 1 + 1, 0, none⟩) 0 0, .int .i64 x]) (by simp [results, Tryd.results21, go_sem]) rfl ⟨⟨_, _, rfl, FlatAt.empty _ _ _ _⟩, by (repeat' (first | (with_reducible exact Below.refl _ _) | (with_reducible assumption) | (with_reducible refine Below.trans ?_ (Below.mono (by with_reducible assumption) ?_)) | (with_reducible refine Below.alloc ?_ ?_ _) | (with_reducible refine Below.setCell ?_ ?_ _) | (with_reducible refine below_drewN ?_ _) | (with_reducible refine Below.drew ?_) | go_size))⟩
theorem ref3_print_no (A : Option Addr) (n c : Nat) (x : Int) (z : Nat → Int) (w : World) (hz : FlatAt w A 2 n z) (hn : n ≤ maxLen) (ht : ¬ IsTab z n x) :
    Calls Tryd.prog 22 #[.agg #[.slice A n c, .int .i64 x]] w fun e w' => e = .returned (.tuple #[.string ⟨#[]⟩, .int .i64 1]) ∧ Below w.heap.size w w' := by
  have HB0 : Below w.heap.size w (w.alloc (.cells #[.slice A n c, .int .i64 x] 24)) := by (repeat' (first | (with_reducible exact Below.refl _ _) | (with_reducible assumption) | (with_reducible refine Below.trans ?_ (Below.mono (by with_reducible assumption) ?_)) | (with_reducible refine Below.alloc ?_ ?_ _) | (with_reducible refine Below.setCell ?_ ?_ _) | (with_reducible refine below_drewN ?_ _) | (with_reducible refine Below.drew ?_) | go_size))
  have HI := Lib.hid (ref3_is A n c x z _ false (hz.below HB0) hn (by simp [ht]))
  clear hz hn ht
  go_enter Tryd.func22, Tryd.ntmps22
  go_wp2_with fail
  refine HI.out.mono ?_; rintro e w1 ⟨rfl, hb1⟩
  have HB1 := HB0.trans (hb1.mono HB0.size)
  clear hb1
  go_wp2
  go_ret2
  exact ⟨rfl, HB1⟩
theorem print_out (A : Option Addr) (n c : Nat) (x : Int) (w : World) (h : 300 < n) :
    Calls Tryd.prog 5 #[.agg #[.slice A n c, .int .i64 x]] w fun e w' => e = .returned (.bool true) ∧ Below w.heap.size w w' := by
  have k1 : decide ((300 : Int) < (n : Int)) = true := by simp only [decide_eq_true_eq]; omega
  clear h
  go_enter Tryd.func5, Tryd.ntmps5
  go_wp2
  go_ret
  go_light
  exact ⟨rfl, by (repeat' (first | (with_reducible exact Below.refl _ _) | (with_reducible assumption) | (with_reducible refine Below.trans ?_ (Below.mono (by with_reducible assumption) ?_)) | (with_reducible refine Below.alloc ?_ ?_ _) | (with_reducible refine Below.setCell ?_ ?_ _) | (with_reducible refine below_drewN ?_ _) | (with_reducible refine Below.drew ?_) | go_size))⟩
set_option maxRecDepth 100000 in
set_option maxHeartbeats 2000000 in
theorem print_no (A : Option Addr) (n c : Nat) (x : Int) (z : Nat → Int) (w : World) (hm : Mx w) (hz : FlatAt w A 2 n z) (hn : n ≤ 300) (ht : ¬ IsTab z n x)
    (hO : ∀ w', FlatAt w' A 2 n z → Calls Tryd.prog 21 #[.agg #[.slice A n c, .int .i64 x]] w' fun e w'' => Own1 w'' n z x e ∧ Below w'.heap.size w' w'') :
    Calls Tryd.prog 5 #[.agg #[.slice A n c, .int .i64 x]] w fun e w' => e = .returned (.bool true) ∧ Below w.heap.size w w' := by
  have HB0 : Below w.heap.size w (w.alloc (.cells #[.slice A n c, .int .i64 x] 24)) := by (repeat' (first | (with_reducible exact Below.refl _ _) | (with_reducible assumption) | (with_reducible refine Below.trans ?_ (Below.mono (by with_reducible assumption) ?_)) | (with_reducible refine Below.alloc ?_ ?_ _) | (with_reducible refine Below.setCell ?_ ?_ _) | (with_reducible refine below_drewN ?_ _) | (with_reducible refine Below.drew ?_) | go_size))
  have X0 : Tb (w.alloc (.cells #[.slice A n c, .int .i64 x] 24)) w.heap.size (.slice A n c) x := ⟨by simp [go_sem], by simp [go_sem], by simp [go_sem], by simp [go_sem], by simp⟩
  have HO := Lib.hid (hO _ (hz.below HB0))
  have HZ := Lib.hid hz
  have HM := Lib.hid hm
  have HT := Lib.hid ht
  have k1 : decide ((300 : Int) < (n : Int)) = false := by simp only [decide_eq_false_iff_not]; omega
  clear hO hz hm ht
  go_enter Tryd.func5, Tryd.ntmps5
  go_wp2_with fail
  refine HO.out.mono ?_; rintro e w1 ⟨⟨A1, c1, rfl, hf1⟩, hb1⟩
  have HB1 := HB0.trans (hb1.mono HB0.size)
  have X1 := X0.below hb1
  clear hb1 X0 HO HB0
  go_wp2_with fail
  refine (leap_print_no A1 n c1 x z w1 hf1 (by unfold maxLen; omega) HT.out).mono ?_; rintro e w2 ⟨rfl, hb2⟩
  have HB2 := HB1.trans (hb2.mono HB1.size)
  obtain ⟨y0, y1, yf0, yf1, yl⟩ := X1.below hb2
  clear hb2 X1 HB1 hf1
  go_wp2_with fail
  refine (ref3_print_no A n c x z w2 (HZ.out.below HB2) (by unfold maxLen; omega) HT.out).mono ?_; rintro e w3 ⟨rfl, hb3⟩
  have HB3 := HB2.trans (hb3.mono HB2.size)
  clear hb3 HB2 y0 y1 yf0 yf1 yl
  go_wp2_with fail
  refine (known3 _ (HM.out.below HB3)).mono ?_; rintro e w4 ⟨rfl, hb4⟩
  have HB4 := HB3.trans (hb4.mono HB3.size)
  clear hb4
  go_wp2
  go_ret
  exact ⟨rfl, HB4⟩
set_option maxRecDepth 100000 in
set_option maxHeartbeats 4000000 in
theorem print_yes (ad : Addr) (n c : Nat) (x : Int) (z : Nat → Int) (w : World) (hm : Mx w) (ht : Tab w) (hz : FlatAt w (some ad) 2 n z) (hT : IsTab z n x) :
    Calls Tryd.prog 5 #[.agg #[.slice (some ad) n c, .int .i64 x]] w fun e w' => e = .returned (.bool true) ∧ Below w.heap.size w w' := by
  have HB0 : Below w.heap.size w (w.alloc (.cells #[.slice (some ad) n c, .int .i64 x] 24)) := by (repeat' (first | (with_reducible exact Below.refl _ _) | (with_reducible assumption) | (with_reducible refine Below.trans ?_ (Below.mono (by with_reducible assumption) ?_)) | (with_reducible refine Below.alloc ?_ ?_ _) | (with_reducible refine Below.setCell ?_ ?_ _) | (with_reducible refine below_drewN ?_ _) | (with_reducible refine Below.drew ?_) | go_size))
  have X0 : Tb (w.alloc (.cells #[.slice (some ad) n c, .int .i64 x] 24)) w.heap.size (.slice (some ad) n c) x := ⟨by simp [go_sem], by simp [go_sem], by simp [go_sem], by simp [go_sem], by simp⟩
  have n1 : 1 ≤ n := hT.1
  have n100 : n ≤ 100 := hT.2.1
  have HBD := Lib.hid hz.bd
  have HO := Lib.hid (own_some ad n c x z _ (hz.below HB0) (by omega) (by omega))
  have HZ := Lib.hid hz
  have HM := Lib.hid hm
  have HTB := Lib.hid ht
  have HT := Lib.hid hT
  have PP := Lib.hid fun (w : World) (h : Mx w) => parse_tab n x z w h HT.out HBD.out
  have P1 := Lib.hid fun (A : Option Addr) (c : Nat) (w : World) (h : FlatAt w A 2 n z) (h2 : Tab w) => leap_print_yes A n c x z w h h2 HT.out
  have P2 := Lib.hid fun (A : Option Addr) (c : Nat) (w : World) (h : FlatAt w A 2 n z) => ref3_print_yes A n c x z w h HT.out
  generalize strOf (tabB z n x) = TXT at *
  have k1 : decide ((300 : Int) < (n : Int)) = false := by simp only [decide_eq_false_iff_not]; omega
  clear hz hm ht hT
  go_enter Tryd.func5, Tryd.ntmps5
  go_wp2_with fail
  refine HO.out.mono ?_; rintro e w1 ⟨⟨A1, c1, rfl, hf1⟩, hb1⟩
  have HB1 := HB0.trans (hb1.mono HB0.size)
  have X1 := X0.below hb1
  clear hb1 X0 HO HB0
  go_wp2_with fail
  refine (P1.out A1 c1 w1 hf1 (HTB.out.below HB1)).mono ?_; rintro e w2 ⟨rfl, hb2⟩
  have HB2 := HB1.trans (hb2.mono HB1.size)
  have X2 := Lib.hid (X1.below hb2)
  obtain ⟨y0, y1, yf0, yf1, yl⟩ := X1.below hb2
  clear hb2 X1 HB1 hf1
  go_wp2_with fail
  refine (P2.out (some ad) c w2 (HZ.out.below HB2)).mono ?_; rintro e w3 ⟨rfl, hb3⟩
  have HB3 := HB2.trans (hb3.mono HB2.size)
  have X3 := Lib.hid (X2.out.below hb3)
  clear hb3 HB2 y0 y1 yf0 yf1 yl X2
  go_wp2_with fail
  refine (PP.out w3 (HM.out.below HB3)).mono ?_; rintro e w4 ⟨⟨A4, c4, rfl, hf4⟩, hb4⟩
  have HB4 := HB3.trans (hb4.mono HB3.size)
  have HW : Below w4.heap.size w4 (w4.alloc (.cells #[.slice A4 n c4, .int .i64 x] 24)) := by (repeat' (first | (with_reducible exact Below.refl _ _) | (with_reducible assumption) | (with_reducible refine Below.trans ?_ (Below.mono (by with_reducible assumption) ?_)) | (with_reducible refine Below.alloc ?_ ?_ _) | (with_reducible refine Below.setCell ?_ ?_ _) | (with_reducible refine below_drewN ?_ _) | (with_reducible refine Below.drew ?_) | go_size))
  have X5 := (X3.out.below hb4).below HW
  have HB5 := HB4.trans (HW.mono HB4.size)
  have hf5 := hf4.below HW
  obtain ⟨y0, y1, yf0, yf1, yl⟩ := X5
  clear hb4 HB3 X3 hf4 HW HB4
  go_wp2_with fail
  refine (tables_same A4 (some ad) n c4 c x z _ hf5 (HZ.out.below HB5) (by omega)).mono ?_; rintro e w6 ⟨rfl, hb6⟩
  have HB6 := HB5.trans (hb6.mono HB5.size)
  clear hb6 y0 y1 yf0 yf1 yl hf5 HB5
  go_wp2_with fail
  refine (known3 _ (HM.out.below HB6)).mono ?_; rintro e w7 ⟨rfl, hb7⟩
  have HB7 := HB6.trans (hb7.mono HB6.size)
  clear hb7
  go_wp2
  go_ret
  exact ⟨rfl, HB7⟩
end Go.Proofs.YtonleiffbfdikaaDoor
