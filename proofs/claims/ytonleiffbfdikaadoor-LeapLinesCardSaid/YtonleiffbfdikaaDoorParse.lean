/- leap.parseEnd, leap.parseLeap: the lines that a table's text is made of. -/
import Derived.Test.YtonleiffbfdikaaDoorDig
import Derived.Test.YtonleiffbfdikaaDoorCells
import Derived.Test.YtonleiffbfdikaaDoorSplitL
import Derived.Test.YtonleiffbfdikaaDoorCutL
import Derived.Test.YtonleiffbfdikaaDoorCutPL
set_option linter.unusedSimpArgs false
set_option linter.unusedVariables false
namespace Go.Proofs.YtonleiffbfdikaaDoor
open Go.RowKit

/-- The library's bound on short texts holds some number. -/
def Mx (w : World) : Prop := ∃ m : Int, w.cell? ⟨1, 0, none⟩ = some (.int .i64 m)
theorem Mx.below {w w' : World} (h : Mx w) (k : Below w.heap.size w w') : Mx w' := by
  obtain ⟨m, hm⟩ := h
  exact ⟨m, (k.cell (p := ⟨_, 0, none⟩) (cell_lt hm)).trans hm⟩
theorem ba_eta (A : ByteArray) : (⟨A.data.toList.toArray⟩ : ByteArray) = A := rfl
theorem split_ok (s sep : ByteArray) (w : World) (hm : Mx w) (hs : s.size < 4294967281) (h1 : 1 ≤ sep.size) :
    Calls Tryd.prog 35 #[.string s, .string sep] w fun e w' => e = .returned (.slice (some ⟨w.heap.size, 0, none⟩) (Lib.countB s sep + 1) (Lib.countB s sep + 1)) ∧ w' = w.alloc (.cells ((Lib.splitB sep 0 (Lib.countB s sep) s).map Value.string).toArray 9) := by
  obtain ⟨m, hm⟩ := hm
  exact Any.strings_Split Tryd.lays146 (by kernel_rfl) s sep m w hs hm h1
theorem cut_ok (s sep A D : ByteArray) (b : Bool) (w : World) (hm : Mx w) (hs : s.size < 4294967281) (hc : Lib.cut s.data.toList sep.data.toList = (A.data.toList, D.data.toList, b)) :
    Calls Tryd.prog 51 #[.string s, .string sep] w fun e w' => e = .returned (.tuple #[.string A, .string D, .bool b]) ∧ Below w.heap.size w w' := by
  obtain ⟨m, hm⟩ := hm
  have h := Any.strings_Cut Tryd.lays145 s sep m w hs hm
  rw [hc] at h
  exact h.mono fun e w' ⟨he, n, hw⟩ => ⟨he, by rw [hw]; exact below_drewN (Below.refl _ _) n⟩
theorem cutp_ok (s p A : ByteArray) (b : Bool) (w : World) (h1 : Lib.trimPrefix s.data.toList p.data.toList = A.data.toList) (h2 : Lib.hasPrefix s.data.toList p.data.toList = b) :
    Calls Tryd.prog 49 #[.string s, .string p] w fun e w' => e = .returned (.tuple #[.string A, .bool b]) ∧ w = w' := by
  have h := Any.strings_CutPrefix Tryd.lays103 s p w
  rw [h1, h2] at h
  exact h.mono fun e w' ⟨he, hw⟩ => ⟨he, hw.symm⟩
def expT : ByteArray := ⟨#[101, 120, 112, 105, 114, 101, 115, 32]⟩
theorem parseEnd_no (s A : ByteArray) (w : World) (h1 : Lib.trimPrefix s.data.toList expT.data.toList = A.data.toList) (h2 : Lib.hasPrefix s.data.toList expT.data.toList = false) :
    Calls Tryd.prog 36 #[.string s] w fun e w' => e = .returned (.tuple #[.int .i64 0, .bool false]) ∧ Below w.heap.size w w' := by
  have HC := Lib.hid (cutp_ok s expT A false w h1 h2)
  have HB := Below.refl w.heap.size w
  clear h1 h2
  go_enter Tryd.func36, Tryd.ntmps36
  go_wp2_with fail
  refine HC.out.mono ?_; rintro e w' ⟨rfl, rfl⟩
  go_wp2
  go_ret2
  exact ⟨rfl, HB⟩
theorem parseEnd_yes (s A : ByteArray) (y m d n : Int) (w : World) (h1 : Lib.trimPrefix s.data.toList expT.data.toList = A.data.toList) (h2 : Lib.hasPrefix s.data.toList expT.data.toList = true) (hD : DateText A y m d) (hn : Cal.num y m d = n) :
    Calls Tryd.prog 36 #[.string s] w fun e w' => e = .returned (.tuple #[.int .i64 n, .bool true]) ∧ Below w.heap.size w w' := by
  have HC := Lib.hid (cutp_ok s expT A true w h1 h2)
  have HD := Lib.hid (parseDay_yes A y m d n w hD hn)
  clear h1 h2 hD hn
  go_enter Tryd.func36, Tryd.ntmps36
  go_wp2_with fail
  refine HC.out.mono ?_; rintro e w' ⟨rfl, rfl⟩
  go_wp2_with fail
  refine HD.out.mono ?_; rintro e w1 ⟨rfl, hb1⟩
  go_wp2
  go_ret2
  exact ⟨rfl, hb1⟩
/-- The number that digits tell; 1001, if it is above 1000. -/
def capGo : List UInt8 → Int → Int
  | [], n => n
  | c :: r, n => capGo r (min (n * 10 + ((c.toNat : Int) - 48)) 1001)
def spT : ByteArray := ⟨#[32]⟩
def CapRel (l : List UInt8) (k : Nat) (n v : Int) : Prop := capGo (l.drop k) n = v ∧ 0 ≤ n ∧ n ≤ 1001
theorem capGo_step {l : List UInt8} {k : Nat} (h : k < l.length) {n : Int} : capGo (l.drop k) n = capGo (l.drop (k + 1)) (min (n * 10 + ((l[k].toNat : Int) - 48)) 1001) := by
  rw [List.drop_eq_getElem_cons h]; rfl
structure DigitsOk (D : ByteArray) : Prop where
  pos : 1 ≤ D.size
  le : D.size ≤ 100000
  dig : ∀ k (h : k < D.size), 48 ≤ ((D[k]'h).toNat : Int) ∧ ((D[k]'h).toNat : Int) ≤ 57
  lead : D.size = 1 ∨ ∀ h : 0 < D.size, (D[0]'h).toNat ≠ 48
set_option maxRecDepth 100000 in
set_option maxHeartbeats 4000000 in
theorem parseLeap_yes (s A D : ByteArray) (y m d n v : Int) (w : World) (hm : Mx w) (hs : s.size < 4294967281) (hc : Lib.cut s.data.toList spT.data.toList = (A.data.toList, D.data.toList, true)) (hD : DateText A y m d) (hn : Cal.num y m d = n) (hg : DigitsOk D) (hv : capGo D.data.toList 0 = v) :
    Calls Tryd.prog 37 #[.string s] w fun e w' => e = .returned (.tuple #[.agg #[.int .i64 n, .int .i64 v], .bool true]) ∧ Below w.heap.size w w' := by
  have HB0 : Below w.heap.size w (w.alloc (.cells #[.int .i64 0, .int .i64 0] 33)) := by (repeat' (first | (with_reducible exact Below.refl _ _) | (with_reducible assumption) | (with_reducible refine Below.trans ?_ (Below.mono (by with_reducible assumption) ?_)) | (with_reducible refine Below.alloc ?_ ?_ _) | (with_reducible refine Below.setCell ?_ ?_ _) | (with_reducible refine below_drewN ?_ _) | (with_reducible refine Below.drew ?_) | go_size))
  have J0 := Ints2.new w 0 0 33
  have HC := Lib.hid (cut_ok s spT A D true _ (hm.below HB0) hs hc)
  have HD := Lib.hid fun w => parseDay_yes A y m d n w hD hn
  have HG := Lib.hid hg
  have h0 : Hid (CapRel D.data.toList 0 0 v) := ⟨hv, by omega, by omega⟩
  have hdl : Hid (D.data.toList.length = D.size) := by show _ = _; rw [Array.length_toList]; rfl
  have p0 : 0 < D.size := hg.pos
  have p0' : (1 : Int) ≤ D.size := by omega
  have hne : D.toList.isEmpty = false := by
    rw [Lib.toList_data]
    have := hdl.out
    cases h : D.data.toList with
    | nil => rw [h] at this; simp at this; omega
    | cons a t => rfl
  have hmaxl := hg.le
  have l0 : decide ((1 : Int) < (D.size : Int)) = false ∨ (decide ((1 : Int) < (D.size : Int)) = true ∧ (((D[0]'p0).toNat : Int) == 48) = false) := by
    rcases hg.lead with h | h
    · left; simp only [decide_eq_false_iff_not]; omega
    · by_cases h1 : D.size = 1
      · left; simp only [decide_eq_false_iff_not]; omega
      · right
        have := h p0
        exact ⟨by simp only [decide_eq_true_eq]; omega, by simp; omega⟩
  clear hc hD hn hg hv hm
  rcases l0 with l1 | ⟨l1, l2⟩
  all_goals
    go_enter Tryd.func37, Tryd.ntmps37
    go_wp2_with fail
    refine HC.out.mono ?_; rintro e w1 ⟨rfl, hb1⟩
    go_wp2_with fail
    refine (HD.out _).mono ?_; rintro e w2 ⟨rfl, hb2⟩
    have hb12 := hb1.trans (hb2.mono hb1.size)
    have J2 := J0.below hb12 (by simp)
    have HB2 := HB0.trans (hb12.mono HB0.size)
    clear hb1 hb2 hb12 J0 HB0
    go_wp2_with fail
    go_loop [9, 45] (fun q i => ∃ (k : Nat) (x : Int), k ≤ D.size ∧ i = .int .i64 k ∧ q = .int .i64 x ∧ CapRel D.data.toList k x v) (fun _ i => D.size - (intOf i).toNat)
    case atStart => exact ⟨0, 0, Nat.zero_le _, rfl, rfl, h0.out⟩
    case round =>
      obtain ⟨k, x, hk, rfl, rfl, hr⟩ := hrel
      clear h0
      by_cases hlt : k < D.size
      · have hl : k < D.data.toList.length := by rw [hdl.out]; exact hlt
        have hst := capGo_step hl (n := x)
        have hgl : D.data.toList[k] = D[k]'hlt := rfl
        rw [hgl] at hst
        obtain ⟨d1, d2, d3⟩ := hr
        rw [d1] at hst
        obtain ⟨c1, c2⟩ := HG.out.dig k hlt
        have HST : Hid (CapRel D.data.toList (k + 1) (min (x * 10 + (((D[k]'hlt).toNat : Int) - 48)) 1001) v) := ⟨hst.symm, by omega, by omega⟩
        clear hst d1 hgl hl
        go_wp2
        go_round
        case rel => exact ⟨k + 1, _, by omega, by go_num, rfl, HST.out⟩
        case measure => simp [intOf]; omega
      · obtain rfl : k = D.size := by omega
        obtain ⟨d1, d2, d3⟩ := hr
        rw [List.drop_of_length_le (by rw [hdl.out]; exact Nat.le_refl _)] at d1
        have HV : Hid (x = v) := d1
        have R := (J2.set0 n).set1 x
        have R0 := R.c0
        have R1 := R.c1
        obtain ⟨j0, j1, f0, f1, lt⟩ := J2
        clear d1 d3 R
        go_wp2
        refine bodyPost_ret (v := .tuple #[.agg #[.int .i64 n, .int .i64 x], .bool true]) (by simp [results, Tryd.results37, go_sem, R0, R1]) rfl ⟨by rw [HV.out], ?_⟩
        go_light
        (repeat' (first | (with_reducible exact Below.refl _ _) | (with_reducible assumption) | (with_reducible refine Below.trans ?_ (Below.mono (by with_reducible assumption) ?_)) | (with_reducible refine Below.alloc ?_ ?_ _) | (with_reducible refine Below.setCell ?_ ?_ _) | (with_reducible refine below_drewN ?_ _) | (with_reducible refine Below.drew ?_) | go_size))
set_option maxRecDepth 100000 in
theorem parseLeap_no (s A D : ByteArray) (w : World) (hm : Mx w) (hs : s.size < 4294967281) (hc : Lib.cut s.data.toList spT.data.toList = (A.data.toList, D.data.toList, true)) (hA : A.size ≠ 10) :
    Calls Tryd.prog 37 #[.string s] w fun e w' => e = .returned (.tuple #[.agg #[.int .i64 0, .int .i64 0], .bool false]) ∧ Below w.heap.size w w' := by
  have HB0 : Below w.heap.size w (w.alloc (.cells #[.int .i64 0, .int .i64 0] 33)) := by (repeat' (first | (with_reducible exact Below.refl _ _) | (with_reducible assumption) | (with_reducible refine Below.trans ?_ (Below.mono (by with_reducible assumption) ?_)) | (with_reducible refine Below.alloc ?_ ?_ _) | (with_reducible refine Below.setCell ?_ ?_ _) | (with_reducible refine below_drewN ?_ _) | (with_reducible refine Below.drew ?_) | go_size))
  have J0 := Ints2.new w 0 0 33
  have HC := Lib.hid (cut_ok s spT A D true _ (hm.below HB0) hs hc)
  have HD := Lib.hid fun w => parseDay_len A w hA
  clear hc hm hA
  go_enter Tryd.func37, Tryd.ntmps37
  go_wp2_with fail
  refine HC.out.mono ?_; rintro e w1 ⟨rfl, hb1⟩
  go_wp2_with fail
  refine (HD.out _).mono ?_; rintro e w2 ⟨rfl, hb2⟩
  have hb12 := hb1.trans (hb2.mono hb1.size)
  have J2 := J0.below hb12 (by simp)
  have HB2 := HB0.trans (hb12.mono HB0.size)
  have R := (J2.set0 0).set1 0
  have R0 := R.c0
  have R1 := R.c1
  obtain ⟨j0, j1, f0, f1, lt⟩ := J2
  clear hb1 hb2 hb12 J0 HB0 R
  go_wp2
  refine bodyPost_ret (v := .tuple #[.agg #[.int .i64 0, .int .i64 0], .bool false]) (by simp [results, Tryd.results37, go_sem, R0, R1]) rfl ⟨rfl, ?_⟩
  go_light
  (repeat' (first | (with_reducible exact Below.refl _ _) | (with_reducible assumption) | (with_reducible refine Below.trans ?_ (Below.mono (by with_reducible assumption) ?_)) | (with_reducible refine Below.alloc ?_ ?_ _) | (with_reducible refine Below.setCell ?_ ?_ _) | (with_reducible refine below_drewN ?_ _) | (with_reducible refine Below.drew ?_) | go_size))
end Go.Proofs.YtonleiffbfdikaaDoor
