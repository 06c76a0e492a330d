/- cal.digits, cal.Parse of a text that is a date; leap.parseDay. -/
import Derived.Test.YtonleiffbfdikaaDoorCalC
import Derived.Test.YtonleiffbfdikaaDoorOnly
set_option linter.unusedSimpArgs false
set_option linter.unusedVariables false
namespace Go.Proofs.YtonleiffbfdikaaDoor
open Go.RowKit

/-- The number that decimal digits tell, behind n; -1: there is something else. -/
def digGo : List UInt8 → Int → Int
  | [], n => n
  | c :: r, n => if 48 ≤ (c.toNat : Int) ∧ (c.toNat : Int) ≤ 57 then digGo r (n * 10 + (c.toNat - 48)) else -1
def pow10 : Nat → Int
  | 0 => 1
  | k + 1 => pow10 k * 10
theorem pow10_le : ∀ k, k ≤ 10 → 1 ≤ pow10 k ∧ pow10 k ≤ 10000000000 := by decide
theorem digGo_step {l : List UInt8} {k : Nat} (h : k < l.length) {n : Int} : digGo (l.drop k) n = if 48 ≤ (l[k].toNat : Int) ∧ (l[k].toNat : Int) ≤ 57 then digGo (l.drop (k + 1)) (n * 10 + (l[k].toNat - 48)) else -1 := by
  rw [List.drop_eq_getElem_cons h]; rfl
def DigRel (l : List UInt8) (k : Nat) (n v : Int) : Prop := digGo (l.drop k) n = v ∧ 0 ≤ n ∧ n < pow10 k
set_option maxHeartbeats 1000000 in
theorem cal_digits (s : ByteArray) (w : World) (hs : s.size ≤ 10) : Calls Tryd.prog 78 #[.string s] w fun e w' => e = .returned (.int .i64 (digGo s.data.toList 0)) ∧ w' = w := by
  have hsz : s.data.toList.length = s.size := by rw [Array.length_toList]; rfl
  have hd0 : Hid (DigRel s.data.toList 0 0 (digGo s.data.toList 0)) := ⟨rfl, by omega, by decide⟩
  generalize digGo s.data.toList 0 = v at *
  have HS := Lib.hid hsz
  clear hsz
  go_enter Tryd.func78, Tryd.ntmps78
  go_wp2
  go_loop [3, 7] (fun n i => ∃ (k : Nat) (m : Int), k ≤ s.size ∧ i = .int .i64 k ∧ n = .int .i64 m ∧ DigRel s.data.toList k m v) (fun _ i => s.size - (intOf i).toNat)
  case atStart => exact ⟨0, 0, Nat.zero_le _, rfl, rfl, hd0.out⟩
  case round =>
    obtain ⟨k, m, hk, rfl, rfl, hd⟩ := hrel
    clear hd0
    by_cases hlt : k < s.size
    · have hl : k < s.data.toList.length := by rw [HS.out]; exact hlt
      have hst := digGo_step hl (n := m)
      have hgl : s.data.toList[k] = s[k]'hlt := rfl
      rw [hgl] at hst
      obtain ⟨d1, d2, d3⟩ := hd
      rw [d1] at hst
      have hp := pow10_le k (by omega)
      have hp1 : pow10 (k + 1) = pow10 k * 10 := rfl
      by_cases c1 : ((s[k]'hlt).toNat : Int) < 48
      · rw [if_neg (by omega)] at hst
        have HST := Lib.hid hst
        clear d1 hgl hl hp hp1 hst
        go_wp2
        go_ret
        go_light
        exact ⟨ret_int HST.out.symm, rfl⟩
      by_cases c2 : 57 < ((s[k]'hlt).toNat : Int)
      · rw [if_neg (by omega)] at hst
        have HST := Lib.hid hst
        clear d1 hgl hl hp hp1 hst
        go_wp2
        go_ret
        go_light
        exact ⟨ret_int HST.out.symm, rfl⟩
      rw [if_pos (by omega)] at hst
      have HST : Hid (DigRel s.data.toList (k + 1) (m * 10 + (((s[k]'hlt).toNat : Int) - 48)) v) := ⟨hst.symm, by omega, by rw [hp1]; omega⟩
      have hb2 : m * 10 + 10 ≤ 100000000000 := by omega
      clear hst hp1 d1 hgl hl d3 hp
      go_wp2
      go_round
      case rel => exact ⟨k + 1, m * 10 + (((s[k]'hlt).toNat : Int) - 48), by omega, by go_num, rfl, HST.out⟩
      case measure => simp [intOf]; omega
    · obtain rfl : k = s.size := by omega
      obtain ⟨d1, d2, d3⟩ := hd
      rw [List.drop_of_length_le (by rw [HS.out]; exact Nat.le_refl _)] at d1
      have HD : Hid (m = v) := d1
      clear d1 d3
      go_wp2
      go_ret
      exact ⟨ret_int HD.out, rfl⟩
/-- A text of ten bytes that is a date: its numbers. -/
structure DateText (s : ByteArray) (y m d : Int) : Prop where
  size : s.size = 10
  h4 : ∀ h : 4 < s.size, (s[4]'h).toNat = 45
  h7 : ∀ h : 7 < s.size, (s[7]'h).toNat = 45
  ey : digGo (s.extract 0 4).data.toList 0 = y
  em : digGo (s.extract 5 7).data.toList 0 = m
  ed : digGo (s.extract 8 s.size).data.toList 0 = d
  v : Cal.Vld y m d
set_option maxRecDepth 100000 in
set_option maxHeartbeats 1000000 in
theorem cal_parse_yes (s : ByteArray) (y m d : Int) (w : World) (h : DateText s y m d) : Calls Tryd.prog 65 #[.string s] w fun e w' => e = .returned (.tuple #[.agg #[.int .i64 y, .int .i64 m, .int .i64 d], .int .i64 0]) ∧ Below w.heap.size w w' := by
  obtain ⟨hsz, h4, h7, hy, hm, hd, hv⟩ := h
  have l4 : 4 < s.size := by omega
  have l7 : 7 < s.size := by omega
  have g4 := h4 l4
  have g7 := h7 l7
  have b4 : ((s[4]'l4).toNat : Int) = 45 := by omega
  have b7 : ((s[7]'l7).toNat : Int) = 45 := by omega
  have HSZ := Lib.hid hsz
  clear h4 h7 g4 g7
  have hs10 : (s.size : Int) = 10 := by omega
  have D1 : Hid (∀ w, Calls Tryd.prog 78 #[.string (s.extract 0 4)] w fun e w' => e = .returned (.int .i64 y) ∧ w' = w) := fun w => by rw [← hy]; exact cal_digits _ w (by rw [ByteArray.size_extract]; omega)
  have D2 : Hid (∀ w, Calls Tryd.prog 78 #[.string (s.extract 5 7)] w fun e w' => e = .returned (.int .i64 m) ∧ w' = w) := fun w => by rw [← hm]; exact cal_digits _ w (by rw [ByteArray.size_extract]; omega)
  have D3 : Hid (∀ w, Calls Tryd.prog 78 #[.string (s.extract 8 s.size)] w fun e w' => e = .returned (.int .i64 d) ∧ w' = w) := fun w => by rw [← hd]; exact cal_digits _ w (by rw [ByteArray.size_extract]; omega)
  clear hy hm hd
  clear hsz
  go_enter Tryd.func65, Tryd.ntmps65
  go_wp2_with fail
  go_quiet ((go_at_call 78; (first | with_reducible exact Calls.quiet_of_same (D1.out _) | with_reducible exact Calls.quiet_of_same (D2.out _) | with_reducible exact Calls.quiet_of_same (D3.out _))))
  go_wp2_with fail
  refine (cal_is_yes y m d _ hv).mono ?_; rintro e w1 ⟨rfl, hb1⟩
  have J0 := (((Ints3.new w 0 0 0 48).drewN nq).alloc (.cells #[.int .i64 y, .int .i64 m, .int .i64 d] 48)).below hb1 (by simp; try omega)
  have x0 : w1.cell? ⟨w.heap.size + 1, 0, none⟩ = some (.int .i64 y) := (hb1.cell (p := ⟨w.heap.size + 1, 0, none⟩) (by simp)).trans (by simp [go_sem])
  have x1 : w1.cell? ⟨w.heap.size + 1, 1, none⟩ = some (.int .i64 m) := (hb1.cell (p := ⟨w.heap.size + 1, 1, none⟩) (by simp)).trans (by simp [go_sem])
  have x2 : w1.cell? ⟨w.heap.size + 1, 2, none⟩ = some (.int .i64 d) := (hb1.cell (p := ⟨w.heap.size + 1, 2, none⟩) (by simp)).trans (by simp [go_sem])
  have R := ((J0.set0 y).set1 m).set2 d
  have R0 := R.c0
  have R1 := R.c1
  have R2 := R.c2
  have HB1 : Below w.heap.size w w1 := Below.trans (show Below w.heap.size w _ from (by (repeat' (first | (with_reducible exact Below.refl _ _) | (with_reducible assumption) | (with_reducible refine Below.trans ?_ (Below.mono (by with_reducible assumption) ?_)) | (with_reducible refine Below.alloc ?_ ?_ _) | (with_reducible refine Below.setCell ?_ ?_ _) | (with_reducible refine below_drewN ?_ _) | (with_reducible refine Below.drew ?_) | go_size)))) (hb1.mono (by simp; try omega))
  obtain ⟨j0, j1, j2, f0, f1, f2, lt⟩ := J0
  clear hb1 R
  go_wp2
  refine bodyPost_ret (v := .tuple #[.agg #[.int .i64 y, .int .i64 m, .int .i64 d], .int .i64 0]) (by simp [results, Tryd.results65, go_sem, R0, R1, R2]) rfl ⟨rfl, ?_⟩
  go_light
  (repeat' (first | (with_reducible exact Below.refl _ _) | (with_reducible assumption) | (with_reducible refine Below.trans ?_ (Below.mono (by with_reducible assumption) ?_)) | (with_reducible refine Below.alloc ?_ ?_ _) | (with_reducible refine Below.setCell ?_ ?_ _) | (with_reducible refine below_drewN ?_ _) | (with_reducible refine Below.drew ?_) | go_size))
theorem cal_parse_len (s : ByteArray) (w : World) (h : s.size ≠ 10) : Calls Tryd.prog 65 #[.string s] w fun e w' => e = .returned (.tuple #[.agg #[.int .i64 0, .int .i64 0, .int .i64 0], .int .i64 10]) ∧ Below w.heap.size w w' := by
  have h1 : ((s.size : Int) == 10) = false := by simp; omega
  have h2 : ((s.size : Int) != 10) = true := by simp; omega
  have R := (((Ints3.new w 0 0 0 48).set0 0).set1 0).set2 0
  have R0 := R.c0
  have R1 := R.c1
  have R2 := R.c2
  clear R h
  go_enter Tryd.func65, Tryd.ntmps65
  go_wp2
  refine bodyPost_ret (v := .tuple #[.agg #[.int .i64 0, .int .i64 0, .int .i64 0], .int .i64 10]) (by simp [results, Tryd.results65, go_sem, R0, R1, R2]) rfl ⟨rfl, ?_⟩
  go_light
  (repeat' (first | (with_reducible exact Below.refl _ _) | (with_reducible assumption) | (with_reducible refine Below.trans ?_ (Below.mono (by with_reducible assumption) ?_)) | (with_reducible refine Below.alloc ?_ ?_ _) | (with_reducible refine Below.setCell ?_ ?_ _) | (with_reducible refine below_drewN ?_ _) | (with_reducible refine Below.drew ?_) | go_size))
theorem parseDay_yes (s : ByteArray) (y m d n : Int) (w : World) (h : DateText s y m d) (hn : Cal.num y m d = n) : Calls Tryd.prog 50 #[.string s] w fun e w' => e = .returned (.tuple #[.int .i64 n, .bool true]) ∧ Below w.heap.size w w' := by
  have HN := Lib.hid hn
  have HV := Lib.hid h.v
  have HD := Lib.hid h
  clear hn h
  go_enter Tryd.func50, Tryd.ntmps50
  go_wp2_with fail
  refine (cal_parse_yes s y m d _ HD.out).mono ?_; rintro e w1 ⟨rfl, hb1⟩
  go_wp2_with fail
  refine (cal_days_yes y m d _ HV.out).mono ?_; rintro e w2 ⟨rfl, hb2⟩
  have HB2 : Below w.heap.size w w2 := hb1.trans (Below.trans ((Below.refl w1.heap.size w1).alloc (Nat.le_refl _) (.cells #[.int .i64 y, .int .i64 m, .int .i64 d] 48) |>.mono hb1.size) (hb2.mono (by simp; have := hb1.size; omega)))
  rw [HN.out]
  clear hb1 hb2
  go_wp2
  go_ret2
  exact ⟨rfl, HB2⟩
theorem parseDay_len (s : ByteArray) (w : World) (h : s.size ≠ 10) : Calls Tryd.prog 50 #[.string s] w fun e w' => e = .returned (.tuple #[.int .i64 0, .bool false]) ∧ Below w.heap.size w w' := by
  have HD := Lib.hid h
  clear h
  go_enter Tryd.func50, Tryd.ntmps50
  go_wp2_with fail
  refine (cal_parse_len s _ HD.out).mono ?_; rintro e w1 ⟨rfl, hb1⟩
  have z1 := hb1.size
  go_wp2
  go_ret2
  go_light
  exact ⟨rfl, by (repeat' (first | (with_reducible exact Below.refl _ _) | (with_reducible assumption) | (with_reducible refine Below.trans ?_ (Below.mono (by with_reducible assumption) ?_)) | (with_reducible refine Below.alloc ?_ ?_ _) | (with_reducible refine Below.setCell ?_ ?_ _) | (with_reducible refine below_drewN ?_ _) | (with_reducible refine Below.drew ?_) | go_size))⟩
end Go.Proofs.YtonleiffbfdikaaDoor
