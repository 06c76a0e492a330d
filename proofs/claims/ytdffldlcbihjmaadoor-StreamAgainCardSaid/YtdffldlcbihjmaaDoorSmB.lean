/- stream: the two sides, but what sends, takes, says. -/
import Derived.Test.YtdffldlcbihjmaaDoorSmA
import Derived.Test.YtdffldlcbihjmaaDoorRecDec
import Derived.BigQuiet
import Derived.Lib.QuietBelow
set_option linter.unusedSimpArgs false
set_option linter.unusedVariables false
namespace Go.Proofs.YtdffldlcbihjmaaDoor
open Go.RowKit Go.Sort

abbrev outC (f t a s n : Int) : List Value := [.int .i64 f, .int .i64 t, .int .i64 a, .int .i64 s, .int .i64 n]
abbrev inC (f o a : Int) : List Value := [.int .i64 f, .int .i64 o, .int .i64 a]
def placesB (a b : Int) : Bool := decide (0 ≤ a) && (decide (a < 5) && (decide (0 ≤ b) && (decide (b < 5) && decide (a ≠ b))))
set_option maxRecDepth 100000 in
set_option maxHeartbeats 4000000 in
theorem st_places (a b : Int) (w : World) : Calls Tryd.prog 70 #[.int .i64 a, .int .i64 b] w fun e w' => e = .returned (.bool (placesB a b)) ∧ w = w' := by
  by_cases h1 : 0 ≤ a
  rotate_left
  · have e : placesB a b = false := by simp [placesB, h1]
    rw [e]
    go_enter Tryd.func70, Tryd.ntmps70
    go_wp2
    go_ret
    exact ⟨rfl, rfl⟩
  by_cases h2 : a < 5
  rotate_left
  · have e : placesB a b = false := by simp [placesB, h2]
    rw [e]
    go_enter Tryd.func70, Tryd.ntmps70
    go_wp2
    go_ret
    exact ⟨rfl, rfl⟩
  by_cases h3 : 0 ≤ b
  rotate_left
  · have e : placesB a b = false := by simp [placesB, h3]
    rw [e]
    go_enter Tryd.func70, Tryd.ntmps70
    go_wp2
    go_ret
    exact ⟨rfl, rfl⟩
  by_cases h4 : b < 5
  rotate_left
  · have e : placesB a b = false := by simp [placesB, h4]
    rw [e]
    go_enter Tryd.func70, Tryd.ntmps70
    go_wp2
    go_ret
    exact ⟨rfl, rfl⟩
  have e : placesB a b = decide (a ≠ b) := by simp [placesB, h1, h2, h3, h4]
  rw [e]
  by_cases h5 : a = b
  · have h5' : (a != b) = false := by simpa using h5
    have h6 : decide (a ≠ b) = false := by simpa using h5
    rw [h6]
    clear h6
    have H5 := Lib.hid h5
    clear h5 e
    go_enter Tryd.func70, Tryd.ntmps70
    go_wp2
    go_ret
    exact ⟨rfl, rfl⟩
  · have h5' : (a != b) = true := by simpa using h5
    have h6 : decide (a ≠ b) = true := by simpa using h5
    rw [h6]
    clear h6 e
    go_enter Tryd.func70, Tryd.ntmps70
    go_wp2
    go_ret
    exact ⟨rfl, rfl⟩
def newOk (f t a : Int) : Bool := placesB f t && (decide (0 ≤ a) && decide (a ≤ 1099511627776))
/-- A side that is made, or none. -/
def NewRes (cs : List Value) (ok : Bool) (w w' : World) (e : Ending) : Prop := (ok = false ∧ e = .returned (.tuple #[.pointer none, .int .i64 1]) ∧ Below w.heap.size w w') ∨
  (ok = true ∧ ∃ b, e = .returned (.tuple #[.pointer (some ⟨b, 0, none⟩), .int .i64 0]) ∧ w.heap.size ≤ b ∧ XB w' b cs ∧ Below w.heap.size w w')
set_option maxRecDepth 100000 in
set_option maxHeartbeats 4000000 in
theorem st_new_out (f t a : Int) (w : World) : Calls Tryd.prog 25 #[.int .i64 f, .int .i64 t, .int .i64 a] w fun e w' => NewRes (outC f t a a 0) (newOk f t a) w w' e := by
  have HP := Lib.hid (st_places f t w)
  cases hp : placesB f t
  · rw [hp] at HP
    have e : newOk f t a = false := by simp [newOk, hp]
    rw [e]
    clear e hp
    go_enter Tryd.func25, Tryd.ntmps25
    go_wp2_with (go_at_call 70; refine HP.out.mono ?_; rintro e w1 ⟨rfl, rfl⟩)
    go_ret2
    exact .inl ⟨rfl, rfl, Below.refl _ _⟩
  rw [hp] at HP
  by_cases h1 : 0 ≤ a
  rotate_left
  · have e : newOk f t a = false := by simp [newOk, h1]
    rw [e]
    have h1' : a < 0 := by omega
    clear e hp h1
    go_enter Tryd.func25, Tryd.ntmps25
    go_wp2_with (go_at_call 70; refine HP.out.mono ?_; rintro e w1 ⟨rfl, rfl⟩)
    go_ret2
    exact .inl ⟨rfl, rfl, Below.refl _ _⟩
  have h1' : ¬ a < 0 := by omega
  by_cases h2 : a ≤ 1099511627776
  rotate_left
  · have e : newOk f t a = false := by simp [newOk, h2]
    rw [e]
    have h2' : 1099511627776 < a := by omega
    clear e hp h1 h2
    go_enter Tryd.func25, Tryd.ntmps25
    go_wp2_with (go_at_call 70; refine HP.out.mono ?_; rintro e w1 ⟨rfl, rfl⟩)
    go_ret2
    exact .inl ⟨rfl, rfl, Below.refl _ _⟩
  · have e : newOk f t a = true := by simp [newOk, h1, h2, hp]
    rw [e]
    have h2' : ¬ 1099511627776 < a := by omega
    clear e hp h1 h2
    go_enter Tryd.func25, Tryd.ntmps25
    go_wp2_with (go_at_call 70; refine HP.out.mono ?_; rintro e w1 ⟨rfl, rfl⟩)
    go_ret2
    exact .inr ⟨rfl, _, rfl, Nat.le_refl _, XB.new w _ _, by (repeat' (first | (with_reducible exact Below.refl _ _) | (with_reducible assumption) | (with_reducible refine Below.trans ?_ (Below.mono (by with_reducible assumption) ?_)) | (with_reducible refine Below.alloc ?_ ?_ _) | (with_reducible refine Below.setCell ?_ ?_ _) | (with_reducible refine below_drewN ?_ _) | (with_reducible refine Below.drew ?_) | go_size))⟩
set_option maxRecDepth 100000 in
set_option maxHeartbeats 4000000 in
theorem st_new_in (f t a : Int) (w : World) : Calls Tryd.prog 38 #[.int .i64 f, .int .i64 t, .int .i64 a] w fun e w' => NewRes (inC f t a) (newOk f t a) w w' e := by
  have HP := Lib.hid (st_places f t w)
  cases hp : placesB f t
  · rw [hp] at HP
    have e : newOk f t a = false := by simp [newOk, hp]
    rw [e]
    clear e hp
    go_enter Tryd.func38, Tryd.ntmps38
    go_wp2_with (go_at_call 70; refine HP.out.mono ?_; rintro e w1 ⟨rfl, rfl⟩)
    go_ret2
    exact .inl ⟨rfl, rfl, Below.refl _ _⟩
  rw [hp] at HP
  by_cases h1 : 0 ≤ a
  rotate_left
  · have e : newOk f t a = false := by simp [newOk, h1]
    rw [e]
    have h1' : a < 0 := by omega
    clear e hp h1
    go_enter Tryd.func38, Tryd.ntmps38
    go_wp2_with (go_at_call 70; refine HP.out.mono ?_; rintro e w1 ⟨rfl, rfl⟩)
    go_ret2
    exact .inl ⟨rfl, rfl, Below.refl _ _⟩
  have h1' : ¬ a < 0 := by omega
  by_cases h2 : a ≤ 1099511627776
  rotate_left
  · have e : newOk f t a = false := by simp [newOk, h2]
    rw [e]
    have h2' : 1099511627776 < a := by omega
    clear e hp h1 h2
    go_enter Tryd.func38, Tryd.ntmps38
    go_wp2_with (go_at_call 70; refine HP.out.mono ?_; rintro e w1 ⟨rfl, rfl⟩)
    go_ret2
    exact .inl ⟨rfl, rfl, Below.refl _ _⟩
  · have e : newOk f t a = true := by simp [newOk, h1, h2, hp]
    rw [e]
    have h2' : ¬ 1099511627776 < a := by omega
    clear e hp h1 h2
    go_enter Tryd.func38, Tryd.ntmps38
    go_wp2_with (go_at_call 70; refine HP.out.mono ?_; rintro e w1 ⟨rfl, rfl⟩)
    go_ret2
    exact .inr ⟨rfl, _, rfl, Nat.le_refl _, XB.new w _ _, by (repeat' (first | (with_reducible exact Below.refl _ _) | (with_reducible assumption) | (with_reducible refine Below.trans ?_ (Below.mono (by with_reducible assumption) ?_)) | (with_reducible refine Below.alloc ?_ ?_ _) | (with_reducible refine Below.setCell ?_ ?_ _) | (with_reducible refine below_drewN ?_ _) | (with_reducible refine Below.drew ?_) | go_size))⟩
end Go.Proofs.YtdffldlcbihjmaaDoor
