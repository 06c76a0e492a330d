/- Stage 4: ScaleTables (written by gen/s4e.py). -/
import Derived.Test.YtklahiogcpojmaaS4D
import Derived.Test.YtklahiogcpojmaaRef3Off
import Derived.BigGuard
import Derived.BigGuardPart
import Derived.BigCall
set_option linter.unusedSimpArgs false
set_option linter.unusedVariables false
namespace Go.Proofs.Ytklahiogcpojmaa
open Go.ChangeShapes Go.WideShapes Go.ChangeAt Go.RowKit Go.Joins

def IsAns (A : Option Addr) (n c : Nat) (x : Int) (z : Nat → Int) (v : Bool) : Prop := ∀ w : World, FlatAt w A 2 n z → Calls Try.prog 19 #[.agg #[.slice A n c, .int .i64 x]] w fun e w' => e = .returned (.bool v) ∧ Below w.heap.size w w'
def TaiAns (A : Option Addr) (n c : Nat) (x d m : Int) (z : Nat → Int) (t : Int) : Prop := ∀ w : World, FlatAt w A 2 n z → Calls Try.prog 17 #[.agg #[.slice A n c, .int .i64 x], .agg #[.int .i64 d, .int .i64 m]] w fun e w' => e = .returned (.tuple #[.int .i64 t, .int .i64 0]) ∧ Below w.heap.size w w'
def OffAns (A : Option Addr) (n c : Nat) (x d : Int) (z : Nat → Int) (t : Int) : Prop := ∀ w : World, FlatAt w A 2 n z → Calls Try.prog 22 #[.agg #[.slice A n c, .int .i64 x], .int .i64 d] w fun e w' => e = .returned (.int .i64 t) ∧ Below w.heap.size w w'
set_option maxHeartbeats 2000000 in
theorem tables_long (A : Option Addr) (n c : Nat) (x : Int) (A' : Option Addr) (n' c' : Nat) (x' d m : Int) (w : World) (h : 200 < n ∨ (n ≤ 200 ∧ 200 < n')) :
    Calls Try.prog 7 #[.agg #[.slice A n c, .int .i64 x], .agg #[.slice A' n' c', .int .i64 x'], .int .i64 d, .int .i64 m] w fun e w' => e = .returned (.bool true) ∧ Below w.heap.size w w' := by
  rcases h with h | ⟨h, h2⟩
  · have h' : (200 : Int) < (n : Int) := by omega
    go_enter Try.func7, Try.ntmps7
    go_wp2_with (go_at_call 14; refine (known4 _).mono ?_; rintro e w5 ⟨rfl, hb5⟩; obtain ⟨hc5, hf5⟩ := bcell hb5; have hz5 := hb5.size; (try simp only [World.size_alloc, World.size_setCell, World.heap_drewN] at hb5 hc5 hf5 hz5); (try have ha05 : w.heap.size < w5.heap.size := by omega); (try have ha15 : w.heap.size + 1 < w5.heap.size := by omega); (try have ha25 : w.heap.size + 2 < w5.heap.size := by omega); (try have hal5 : w.heap.size ≤ w5.heap.size := by omega); (try have ham5 : w.heap.size < w5.heap.size + 2 := by omega))
    go_ret
    go_light
    exact ⟨rfl, by (repeat' (first | (with_reducible exact Below.refl _ _) | (with_reducible assumption) | (with_reducible refine Below.trans ?_ (Below.mono (by with_reducible assumption) ?_)) | (with_reducible refine Below.alloc ?_ ?_ _) | (with_reducible refine Below.setCell ?_ ?_ _) | (with_reducible refine below_drewN ?_ _) | (with_reducible refine Below.drew ?_) | go_size))⟩
  · have h' : (n : Int) ≤ 200 := by omega
    have h2' : (200 : Int) < (n' : Int) := by omega
    go_enter Try.func7, Try.ntmps7
    go_wp2_with (go_at_call 14; refine (known4 _).mono ?_; rintro e w5 ⟨rfl, hb5⟩; obtain ⟨hc5, hf5⟩ := bcell hb5; have hz5 := hb5.size; (try simp only [World.size_alloc, World.size_setCell, World.heap_drewN] at hb5 hc5 hf5 hz5); (try have ha05 : w.heap.size < w5.heap.size := by omega); (try have ha15 : w.heap.size + 1 < w5.heap.size := by omega); (try have ha25 : w.heap.size + 2 < w5.heap.size := by omega); (try have hal5 : w.heap.size ≤ w5.heap.size := by omega); (try have ham5 : w.heap.size < w5.heap.size + 2 := by omega))
    go_ret
    go_light
    exact ⟨rfl, by (repeat' (first | (with_reducible exact Below.refl _ _) | (with_reducible assumption) | (with_reducible refine Below.trans ?_ (Below.mono (by with_reducible assumption) ?_)) | (with_reducible refine Below.alloc ?_ ?_ _) | (with_reducible refine Below.setCell ?_ ?_ _) | (with_reducible refine below_drewN ?_ _) | (with_reducible refine Below.drew ?_) | go_size))⟩
set_option maxRecDepth 100000 in
set_option maxHeartbeats 4000000 in
theorem tables_no1 (A : Option Addr) (n c : Nat) (x : Int) (A' : Option Addr) (n' c' : Nat) (x' d m : Int) (z z' : Nat → Int) (w : World) (hz : FlatAt w A 2 n z) (hz' : FlatAt w A' 2 n' z') (hn : n ≤ 200) (hn' : n' ≤ 200) (hi : IsAns A n c x z false) :
    Calls Try.prog 7 #[.agg #[.slice A n c, .int .i64 x], .agg #[.slice A' n' c', .int .i64 x'], .int .i64 d, .int .i64 m] w fun e w' => e = .returned (.bool true) ∧ Below w.heap.size w w' := by
  have h' : decide ((200 : Int) < (n : Int)) = false := by simp; omega
  have h2' : decide ((200 : Int) < (n' : Int)) = false := by simp; omega
  clear hn hn'
  have HB0 : Below w.heap.size w ((w.alloc (.cells #[.slice A n c, .int .i64 x] 30)).alloc (.cells #[.slice A' n' c', .int .i64 x'] 30)) := by (repeat' (first | (with_reducible exact Below.refl _ _) | (with_reducible assumption) | (with_reducible refine Below.trans ?_ (Below.mono (by with_reducible assumption) ?_)) | (with_reducible refine Below.alloc ?_ ?_ _) | (with_reducible refine Below.setCell ?_ ?_ _) | (with_reducible refine below_drewN ?_ _) | (with_reducible refine Below.drew ?_) | go_size))
  have HZ := Lib.hid hz
  have HZ' := Lib.hid hz'
  clear hz hz'
  have HI := Lib.hid hi
  clear hi
  go_enter Try.func7, Try.ntmps7
  go_wp2_with fail
  refine (HI.out _ (HZ.out.below HB0)).mono ?_; rintro e w1 ⟨rfl, hb1⟩
  have HB1 : Below w.heap.size w w1 := HB0.trans (hb1.mono HB0.size)
  have p0 : w1.cell? ⟨w.heap.size, 0, none⟩ = some (.slice A n c) := (hb1.cell (p := ⟨w.heap.size, 0, none⟩) (by simp; try omega)).trans (by simp [go_sem])
  have p1 : w1.cell? ⟨w.heap.size, 1, none⟩ = some (.int .i64 x) := (hb1.cell (p := ⟨w.heap.size, 1, none⟩) (by simp; try omega)).trans (by simp [go_sem])
  have p2 : w1.cell? ⟨w.heap.size + 1, 0, none⟩ = some (.slice A' n' c') := (hb1.cell (p := ⟨w.heap.size + 1, 0, none⟩) (by simp; try omega)).trans (by simp [go_sem])
  have p3 : w1.cell? ⟨w.heap.size + 1, 1, none⟩ = some (.int .i64 x') := (hb1.cell (p := ⟨w.heap.size + 1, 1, none⟩) (by simp; try omega)).trans (by simp [go_sem])
  have z1 : w.heap.size + 1 < w1.heap.size := by have := hb1.size; simp at this; omega
  have z1' : w.heap.size < w1.heap.size := by omega
  clear hb1
  go_wp2_with (go_at_call 14; refine (known4 _).mono ?_; rintro e w5 ⟨rfl, hb5⟩; obtain ⟨hc5, hf5⟩ := bcell hb5; have hz5 := hb5.size; (try simp only [World.size_alloc, World.size_setCell, World.heap_drewN] at hb5 hc5 hf5 hz5); (try have ha05 : w.heap.size < w5.heap.size := by omega); (try have ha15 : w.heap.size + 1 < w5.heap.size := by omega); (try have ha25 : w.heap.size + 2 < w5.heap.size := by omega); (try have hal5 : w.heap.size ≤ w5.heap.size := by omega); (try have ham5 : w.heap.size < w5.heap.size + 2 := by omega))
  go_ret
  go_light
  exact ⟨rfl, by (repeat' (first | (with_reducible exact Below.refl _ _) | (with_reducible assumption) | (with_reducible refine Below.trans ?_ (Below.mono (by with_reducible assumption) ?_)) | (with_reducible refine Below.alloc ?_ ?_ _) | (with_reducible refine Below.setCell ?_ ?_ _) | (with_reducible refine below_drewN ?_ _) | (with_reducible refine Below.drew ?_) | go_size))⟩

set_option maxRecDepth 100000 in
set_option maxHeartbeats 4000000 in
theorem tables_no2 (A : Option Addr) (n c : Nat) (x : Int) (A' : Option Addr) (n' c' : Nat) (x' d m : Int) (z z' : Nat → Int) (w : World) (hz : FlatAt w A 2 n z) (hz' : FlatAt w A' 2 n' z') (hn : n ≤ 200) (hn' : n' ≤ 200) (hi : IsAns A n c x z true) (hi' : IsAns A' n' c' x' z' false) :
    Calls Try.prog 7 #[.agg #[.slice A n c, .int .i64 x], .agg #[.slice A' n' c', .int .i64 x'], .int .i64 d, .int .i64 m] w fun e w' => e = .returned (.bool true) ∧ Below w.heap.size w w' := by
  have h' : decide ((200 : Int) < (n : Int)) = false := by simp; omega
  have h2' : decide ((200 : Int) < (n' : Int)) = false := by simp; omega
  clear hn hn'
  have HB0 : Below w.heap.size w ((w.alloc (.cells #[.slice A n c, .int .i64 x] 30)).alloc (.cells #[.slice A' n' c', .int .i64 x'] 30)) := by (repeat' (first | (with_reducible exact Below.refl _ _) | (with_reducible assumption) | (with_reducible refine Below.trans ?_ (Below.mono (by with_reducible assumption) ?_)) | (with_reducible refine Below.alloc ?_ ?_ _) | (with_reducible refine Below.setCell ?_ ?_ _) | (with_reducible refine below_drewN ?_ _) | (with_reducible refine Below.drew ?_) | go_size))
  have HZ := Lib.hid hz
  have HZ' := Lib.hid hz'
  clear hz hz'
  have HI := Lib.hid hi
  have HI' := Lib.hid hi'
  clear hi hi'
  go_enter Try.func7, Try.ntmps7
  go_wp2_with fail
  refine (HI.out _ (HZ.out.below HB0)).mono ?_; rintro e w1 ⟨rfl, hb1⟩
  have HB1 : Below w.heap.size w w1 := HB0.trans (hb1.mono HB0.size)
  have p0 : w1.cell? ⟨w.heap.size, 0, none⟩ = some (.slice A n c) := (hb1.cell (p := ⟨w.heap.size, 0, none⟩) (by simp; try omega)).trans (by simp [go_sem])
  have p1 : w1.cell? ⟨w.heap.size, 1, none⟩ = some (.int .i64 x) := (hb1.cell (p := ⟨w.heap.size, 1, none⟩) (by simp; try omega)).trans (by simp [go_sem])
  have p2 : w1.cell? ⟨w.heap.size + 1, 0, none⟩ = some (.slice A' n' c') := (hb1.cell (p := ⟨w.heap.size + 1, 0, none⟩) (by simp; try omega)).trans (by simp [go_sem])
  have p3 : w1.cell? ⟨w.heap.size + 1, 1, none⟩ = some (.int .i64 x') := (hb1.cell (p := ⟨w.heap.size + 1, 1, none⟩) (by simp; try omega)).trans (by simp [go_sem])
  have z1 : w.heap.size + 1 < w1.heap.size := by have := hb1.size; simp at this; omega
  have z1' : w.heap.size < w1.heap.size := by omega
  clear hb1
  go_wp2_with fail
  refine (HI'.out _ (HZ'.out.below HB1)).mono ?_; rintro e w2 ⟨rfl, hb2⟩
  have HB2 : Below w.heap.size w w2 := HB1.trans (hb2.mono HB1.size)
  have p0 := (hb2.cell (p := ⟨w.heap.size, 0, none⟩) z1').trans p0
  have p1 := (hb2.cell (p := ⟨w.heap.size, 1, none⟩) z1').trans p1
  have p2 := (hb2.cell (p := ⟨w.heap.size + 1, 0, none⟩) z1).trans p2
  have p3 := (hb2.cell (p := ⟨w.heap.size + 1, 1, none⟩) z1).trans p3
  have z2 := Nat.lt_of_lt_of_le z1 hb2.size
  have z2' : w.heap.size < w2.heap.size := by omega
  clear hb2
  go_wp2_with (go_at_call 14; refine (known4 _).mono ?_; rintro e w5 ⟨rfl, hb5⟩; obtain ⟨hc5, hf5⟩ := bcell hb5; have hz5 := hb5.size; (try simp only [World.size_alloc, World.size_setCell, World.heap_drewN] at hb5 hc5 hf5 hz5); (try have ha05 : w.heap.size < w5.heap.size := by omega); (try have ha15 : w.heap.size + 1 < w5.heap.size := by omega); (try have ha25 : w.heap.size + 2 < w5.heap.size := by omega); (try have hal5 : w.heap.size ≤ w5.heap.size := by omega); (try have ham5 : w.heap.size < w5.heap.size + 2 := by omega))
  go_ret
  go_light
  exact ⟨rfl, by (repeat' (first | (with_reducible exact Below.refl _ _) | (with_reducible assumption) | (with_reducible refine Below.trans ?_ (Below.mono (by with_reducible assumption) ?_)) | (with_reducible refine Below.alloc ?_ ?_ _) | (with_reducible refine Below.setCell ?_ ?_ _) | (with_reducible refine below_drewN ?_ _) | (with_reducible refine Below.drew ?_) | go_size))⟩

set_option maxRecDepth 100000 in
set_option maxHeartbeats 4000000 in
theorem tables_no3 (A : Option Addr) (n c : Nat) (x : Int) (A' : Option Addr) (n' c' : Nat) (x' d m : Int) (z z' : Nat → Int) (w : World) (hz : FlatAt w A 2 n z) (hz' : FlatAt w A' 2 n' z') (hn : n ≤ 200) (hn' : n' ≤ 200) (hi : IsAns A n c x z true) (hi' : IsAns A' n' c' x' z' true) (h : d < -100000 ∨ (-100000 ≤ d ∧ 100000 < d) ∨ (-100000 ≤ d ∧ d ≤ 100000 ∧ m < 0) ∨ (-100000 ≤ d ∧ d ≤ 100000 ∧ 0 ≤ m ∧ 86399000000000 ≤ m)) :
    Calls Try.prog 7 #[.agg #[.slice A n c, .int .i64 x], .agg #[.slice A' n' c', .int .i64 x'], .int .i64 d, .int .i64 m] w fun e w' => e = .returned (.bool true) ∧ Below w.heap.size w w' := by
  have h' : decide ((200 : Int) < (n : Int)) = false := by simp; omega
  have h2' : decide ((200 : Int) < (n' : Int)) = false := by simp; omega
  clear hn hn'
  have HB0 : Below w.heap.size w ((w.alloc (.cells #[.slice A n c, .int .i64 x] 30)).alloc (.cells #[.slice A' n' c', .int .i64 x'] 30)) := by (repeat' (first | (with_reducible exact Below.refl _ _) | (with_reducible assumption) | (with_reducible refine Below.trans ?_ (Below.mono (by with_reducible assumption) ?_)) | (with_reducible refine Below.alloc ?_ ?_ _) | (with_reducible refine Below.setCell ?_ ?_ _) | (with_reducible refine below_drewN ?_ _) | (with_reducible refine Below.drew ?_) | go_size))
  have HZ := Lib.hid hz
  have HZ' := Lib.hid hz'
  clear hz hz'
  have HI := Lib.hid hi
  have HI' := Lib.hid hi'
  clear hi hi'
  rcases (show d < -100000 ∨ (-100000 ≤ d ∧ 100000 < d) ∨ (-100000 ≤ d ∧ d ≤ 100000 ∧ m < 0) ∨ (-100000 ≤ d ∧ d ≤ 100000 ∧ 0 ≤ m ∧ 86399000000000 ≤ m ∧ decide (86399000000000 ≤ m) = true ∧ decide (m < 86399000000000) = false ∧ (!decide (m < 86399000000000)) = true ∧ decide (m ≥ 86399000000000) = true) from by rcases h with h | ⟨h1, h⟩ | ⟨h1, h2, h⟩ | ⟨h1, h2, h3, h⟩ <;> simp <;> omega) with h | ⟨h1, h⟩ | ⟨h1, h2, h⟩ | ⟨h1, h2, h3, h, h5, h6, h7, h8⟩
  all_goals
    go_enter Try.func7, Try.ntmps7
    go_wp2_with fail
    refine (HI.out _ (HZ.out.below HB0)).mono ?_; rintro e w1 ⟨rfl, hb1⟩
    have HB1 : Below w.heap.size w w1 := HB0.trans (hb1.mono HB0.size)
    have p0 : w1.cell? ⟨w.heap.size, 0, none⟩ = some (.slice A n c) := (hb1.cell (p := ⟨w.heap.size, 0, none⟩) (by simp; try omega)).trans (by simp [go_sem])
    have p1 : w1.cell? ⟨w.heap.size, 1, none⟩ = some (.int .i64 x) := (hb1.cell (p := ⟨w.heap.size, 1, none⟩) (by simp; try omega)).trans (by simp [go_sem])
    have p2 : w1.cell? ⟨w.heap.size + 1, 0, none⟩ = some (.slice A' n' c') := (hb1.cell (p := ⟨w.heap.size + 1, 0, none⟩) (by simp; try omega)).trans (by simp [go_sem])
    have p3 : w1.cell? ⟨w.heap.size + 1, 1, none⟩ = some (.int .i64 x') := (hb1.cell (p := ⟨w.heap.size + 1, 1, none⟩) (by simp; try omega)).trans (by simp [go_sem])
    have z1 : w.heap.size + 1 < w1.heap.size := by have := hb1.size; simp at this; omega
    have z1' : w.heap.size < w1.heap.size := by omega
    clear hb1
    go_wp2_with fail
    refine (HI'.out _ (HZ'.out.below HB1)).mono ?_; rintro e w2 ⟨rfl, hb2⟩
    have HB2 : Below w.heap.size w w2 := HB1.trans (hb2.mono HB1.size)
    have p0 := (hb2.cell (p := ⟨w.heap.size, 0, none⟩) z1').trans p0
    have p1 := (hb2.cell (p := ⟨w.heap.size, 1, none⟩) z1').trans p1
    have p2 := (hb2.cell (p := ⟨w.heap.size + 1, 0, none⟩) z1).trans p2
    have p3 := (hb2.cell (p := ⟨w.heap.size + 1, 1, none⟩) z1).trans p3
    have z2 := Nat.lt_of_lt_of_le z1 hb2.size
    have z2' : w.heap.size < w2.heap.size := by omega
    clear hb2
    go_wp2_with (go_at_call 14; refine (known4 _).mono ?_; rintro e w5 ⟨rfl, hb5⟩; obtain ⟨hc5, hf5⟩ := bcell hb5; have hz5 := hb5.size; (try simp only [World.size_alloc, World.size_setCell, World.heap_drewN] at hb5 hc5 hf5 hz5); (try have ha05 : w.heap.size < w5.heap.size := by omega); (try have ha15 : w.heap.size + 1 < w5.heap.size := by omega); (try have ha25 : w.heap.size + 2 < w5.heap.size := by omega); (try have hal5 : w.heap.size ≤ w5.heap.size := by omega); (try have ham5 : w.heap.size < w5.heap.size + 2 := by omega))
    go_ret
    go_light
    exact ⟨rfl, by (repeat' (first | (with_reducible exact Below.refl _ _) | (with_reducible assumption) | (with_reducible refine Below.trans ?_ (Below.mono (by with_reducible assumption) ?_)) | (with_reducible refine Below.alloc ?_ ?_ _) | (with_reducible refine Below.setCell ?_ ?_ _) | (with_reducible refine below_drewN ?_ _) | (with_reducible refine Below.drew ?_) | go_size))⟩

set_option maxRecDepth 100000 in
set_option maxHeartbeats 8000000 in
theorem tables_in (A : Option Addr) (n c : Nat) (x : Int) (A' : Option Addr) (n' c' : Nat) (x' d m : Int) (z z' : Nat → Int) (w : World) (hz : FlatAt w A 2 n z) (hz' : FlatAt w A' 2 n' z') (hn : n ≤ 200) (hn' : n' ≤ 200) (hi : IsAns A n c x z true) (hi' : IsAns A' n' c' x' z' true) (h1 : -100000 ≤ d) (h2 : d ≤ 100000) (h3 : 0 ≤ m) (h4 : m < 86399000000000) (va vb oa ob : Int) (ht : TaiAns A n c x d m z va) (ht' : TaiAns A' n' c' x' d m z' vb) (ho : OffAns A n c x d z oa) (ho' : OffAns A' n' c' x' d z' ob)
    (s1 : IntKind.i64.wrap (va - vb) = (oa - ob) * 1000000000) (s2 : IntKind.i64.wrap (oa - ob) = oa - ob) (s3 : IntKind.i64.wrap ((oa - ob) * 1000000000) = (oa - ob) * 1000000000) :
    Calls Try.prog 7 #[.agg #[.slice A n c, .int .i64 x], .agg #[.slice A' n' c', .int .i64 x'], .int .i64 d, .int .i64 m] w fun e w' => e = .returned (.bool true) ∧ Below w.heap.size w w' := by
  have h' : decide ((200 : Int) < (n : Int)) = false := by simp; omega
  have h2' : decide ((200 : Int) < (n' : Int)) = false := by simp; omega
  clear hn hn'
  have HB0 : Below w.heap.size w ((w.alloc (.cells #[.slice A n c, .int .i64 x] 30)).alloc (.cells #[.slice A' n' c', .int .i64 x'] 30)) := by (repeat' (first | (with_reducible exact Below.refl _ _) | (with_reducible assumption) | (with_reducible refine Below.trans ?_ (Below.mono (by with_reducible assumption) ?_)) | (with_reducible refine Below.alloc ?_ ?_ _) | (with_reducible refine Below.setCell ?_ ?_ _) | (with_reducible refine below_drewN ?_ _) | (with_reducible refine Below.drew ?_) | go_size))
  have HZ := Lib.hid hz
  have HZ' := Lib.hid hz'
  clear hz hz'
  have h4' : decide (86399000000000 ≤ m) = false := by simp; omega
  have j1 : decide (d < -100000) = false := by simp; omega
  have j2 : decide (100000 < d) = false := by simp; omega
  have j3 : decide (m < 0) = false := by simp; omega
  have h5' : decide (m < 86399000000000) = true := by simp; omega
  have h6' : (!decide (m < 86399000000000)) = false := by simp; omega
  have h7' : decide (m ≥ 86399000000000) = false := by simp; omega
  have HI := Lib.hid hi
  have HI' := Lib.hid hi'
  have HT := Lib.hid ht
  have HT' := Lib.hid ht'
  have HO := Lib.hid ho
  have HO' := Lib.hid ho'
  clear hi hi' ht ht' ho ho'
  go_enter Try.func7, Try.ntmps7
  go_wp2_with fail
  refine (HI.out _ (HZ.out.below HB0)).mono ?_; rintro e w1 ⟨rfl, hb1⟩
  have HB1 : Below w.heap.size w w1 := HB0.trans (hb1.mono HB0.size)
  have p0 : w1.cell? ⟨w.heap.size, 0, none⟩ = some (.slice A n c) := (hb1.cell (p := ⟨w.heap.size, 0, none⟩) (by simp; try omega)).trans (by simp [go_sem])
  have p1 : w1.cell? ⟨w.heap.size, 1, none⟩ = some (.int .i64 x) := (hb1.cell (p := ⟨w.heap.size, 1, none⟩) (by simp; try omega)).trans (by simp [go_sem])
  have p2 : w1.cell? ⟨w.heap.size + 1, 0, none⟩ = some (.slice A' n' c') := (hb1.cell (p := ⟨w.heap.size + 1, 0, none⟩) (by simp; try omega)).trans (by simp [go_sem])
  have p3 : w1.cell? ⟨w.heap.size + 1, 1, none⟩ = some (.int .i64 x') := (hb1.cell (p := ⟨w.heap.size + 1, 1, none⟩) (by simp; try omega)).trans (by simp [go_sem])
  have z1 : w.heap.size + 1 < w1.heap.size := by have := hb1.size; simp at this; omega
  have z1' : w.heap.size < w1.heap.size := by omega
  clear hb1
  go_wp2_with fail
  refine (HI'.out _ (HZ'.out.below HB1)).mono ?_; rintro e w2 ⟨rfl, hb2⟩
  have HB2 : Below w.heap.size w w2 := HB1.trans (hb2.mono HB1.size)
  have p0 := (hb2.cell (p := ⟨w.heap.size, 0, none⟩) z1').trans p0
  have p1 := (hb2.cell (p := ⟨w.heap.size, 1, none⟩) z1').trans p1
  have p2 := (hb2.cell (p := ⟨w.heap.size + 1, 0, none⟩) z1).trans p2
  have p3 := (hb2.cell (p := ⟨w.heap.size + 1, 1, none⟩) z1).trans p3
  have z2 := Nat.lt_of_lt_of_le z1 hb2.size
  have z2' : w.heap.size < w2.heap.size := by omega
  clear hb2
  go_wp2_with fail
  refine (HT.out _ (HZ.out.below HB2)).mono ?_; rintro e w3 ⟨rfl, hb3⟩
  have HB3 : Below w.heap.size w w3 := HB2.trans (hb3.mono HB2.size)
  have p0 := (hb3.cell (p := ⟨w.heap.size, 0, none⟩) z2').trans p0
  have p1 := (hb3.cell (p := ⟨w.heap.size, 1, none⟩) z2').trans p1
  have p2 := (hb3.cell (p := ⟨w.heap.size + 1, 0, none⟩) z2).trans p2
  have p3 := (hb3.cell (p := ⟨w.heap.size + 1, 1, none⟩) z2).trans p3
  have z3 := Nat.lt_of_lt_of_le z2 hb3.size
  have z3' : w.heap.size < w3.heap.size := by omega
  clear hb3
  go_wp2_with fail
  refine (HT'.out _ (HZ'.out.below HB3)).mono ?_; rintro e w4 ⟨rfl, hb4⟩
  have HB4 : Below w.heap.size w w4 := HB3.trans (hb4.mono HB3.size)
  have p0 := (hb4.cell (p := ⟨w.heap.size, 0, none⟩) z3').trans p0
  have p1 := (hb4.cell (p := ⟨w.heap.size, 1, none⟩) z3').trans p1
  have p2 := (hb4.cell (p := ⟨w.heap.size + 1, 0, none⟩) z3).trans p2
  have p3 := (hb4.cell (p := ⟨w.heap.size + 1, 1, none⟩) z3).trans p3
  have z4 := Nat.lt_of_lt_of_le z3 hb4.size
  have z4' : w.heap.size < w4.heap.size := by omega
  clear hb4
  go_wp2_with fail
  refine wp_region_held_drew (S := (fun w' => w'.cell? ⟨w.heap.size, 0, none⟩ = some (.slice A n c) ∧ w'.cell? ⟨w.heap.size, 1, none⟩ = some (.int .i64 x) ∧ w'.cell? ⟨w.heap.size + 1, 0, none⟩ = some (.slice A' n' c') ∧ w'.cell? ⟨w.heap.size + 1, 1, none⟩ = some (.int .i64 x'))) (by kernel_rfl) ?_ (fun hHeld => ?_)
  · exact ⟨p0, p1, p2, p3⟩
  refine wpAnyH_take (i := 0) (v := ?_) rfl (by kernel_rfl) (by kernel_rfl) (by kernel_rfl) (fun _ _ _ h => h) (Or.inl ⟨by rfl, ?_⟩) (by assumption) ?_
  rotate_left
  · intro w' hSw; (try dsimp only at hSw); go_simp; (try with_reducible rfl)
  (try simp only [Act.put, List.setIfInBounds_toArray, List.set_cons_zero, List.set_cons_succ, List.getElem_toArray, List.getElem_cons_succ, List.getElem_cons_zero])
  refine wpAnyH_take (i := 1) (v := ?_) rfl (by kernel_rfl) (by kernel_rfl) (by kernel_rfl) (fun _ _ _ h => h) (Or.inl ⟨by rfl, ?_⟩) (by assumption) ?_
  rotate_left
  · intro w' hSw; (try dsimp only at hSw); go_simp; (try with_reducible rfl)
  (try simp only [Act.put, List.setIfInBounds_toArray, List.set_cons_zero, List.set_cons_succ, List.getElem_toArray, List.getElem_cons_succ, List.getElem_cons_zero])
  refine wpAnyH_take (i := 2) (v := ?_) rfl (by kernel_rfl) (by kernel_rfl) (by kernel_rfl) (fun _ _ _ h => h) (Or.inl ⟨by rfl, ?_⟩) (by assumption) ?_
  rotate_left
  · intro w' hSw; (try dsimp only at hSw); go_simp; (try with_reducible rfl)
  (try simp only [Act.put, List.setIfInBounds_toArray, List.set_cons_zero, List.set_cons_succ, List.getElem_toArray, List.getElem_cons_succ, List.getElem_cons_zero])
  refine wpAnyH_take (i := 3) (v := ?_) rfl (by kernel_rfl) (by kernel_rfl) (by kernel_rfl) (fun _ _ _ h => h) (Or.inl ⟨by rfl, ?_⟩) (by assumption) ?_
  rotate_left
  · intro w' hSw; (try dsimp only at hSw); go_simp; (try with_reducible rfl)
  (try simp only [Act.put, List.setIfInBounds_toArray, List.set_cons_zero, List.set_cons_succ, List.getElem_toArray, List.getElem_cons_succ, List.getElem_cons_zero])
  refine wpAnyH_take (i := 4) (v := ?_) rfl (by kernel_rfl) (by kernel_rfl) (by kernel_rfl) (fun _ _ _ h => h) (Or.inl ⟨by rfl, ?_⟩) (by assumption) ?_
  rotate_left
  · intro w' hSw; (try dsimp only at hSw); go_simp; (try with_reducible rfl)
  (try simp only [Act.put, List.setIfInBounds_toArray, List.set_cons_zero, List.set_cons_succ, List.getElem_toArray, List.getElem_cons_succ, List.getElem_cons_zero])
  refine wpAnyH_take (i := 5) (v := ?_) rfl (by kernel_rfl) (by kernel_rfl) (by kernel_rfl) (fun _ _ _ h => h) (Or.inl ⟨by rfl, ?_⟩) (by assumption) ?_
  rotate_left
  · intro w' hSw; (try dsimp only at hSw); go_simp; (try with_reducible rfl)
  (try simp only [Act.put, List.setIfInBounds_toArray, List.set_cons_zero, List.set_cons_succ, List.getElem_toArray, List.getElem_cons_succ, List.getElem_cons_zero])
  refine wpAnyH_take (i := 6) (v := ?_) rfl (by kernel_rfl) (by kernel_rfl) (by kernel_rfl) (fun _ _ _ h => h) (Or.inl ⟨by rfl, ?_⟩) (by assumption) ?_
  rotate_left
  · intro w' hSw; (try dsimp only at hSw); go_simp; (try with_reducible rfl)
  (try simp only [Act.put, List.setIfInBounds_toArray, List.set_cons_zero, List.set_cons_succ, List.getElem_toArray, List.getElem_cons_succ, List.getElem_cons_zero])
  refine wpAnyH_take (i := 7) (v := ?_) rfl (by kernel_rfl) (by kernel_rfl) (by kernel_rfl) (fun _ _ _ h => h) (Or.inl ⟨by rfl, ?_⟩) (by assumption) ?_
  rotate_left
  · intro w' hSw; (try dsimp only at hSw); go_simp; (try with_reducible rfl)
  (try simp only [Act.put, List.setIfInBounds_toArray, List.set_cons_zero, List.set_cons_succ, List.getElem_toArray, List.getElem_cons_succ, List.getElem_cons_zero])
  refine wpAnyH_take (i := 8) (v := ?_) rfl (by kernel_rfl) (by kernel_rfl) (by kernel_rfl) (fun _ _ _ h => h) (Or.inl ⟨by rfl, ?_⟩) (by assumption) ?_
  rotate_left
  · intro w' hSw; (try dsimp only at hSw); go_simp; (try with_reducible rfl)
  (try simp only [Act.put, List.setIfInBounds_toArray, List.set_cons_zero, List.set_cons_succ, List.getElem_toArray, List.getElem_cons_succ, List.getElem_cons_zero])
  refine wpAnyH_take (i := 9) (v := ?_) rfl (by kernel_rfl) (by kernel_rfl) (by kernel_rfl) (fun _ _ _ h => h) (Or.inl ⟨by rfl, ?_⟩) (by assumption) ?_
  rotate_left
  · intro w' hSw; (try dsimp only at hSw); go_simp; (try with_reducible rfl)
  (try simp only [Act.put, List.setIfInBounds_toArray, List.set_cons_zero, List.set_cons_succ, List.getElem_toArray, List.getElem_cons_succ, List.getElem_cons_zero])
  refine wpAnyH_take (i := 10) (v := ?_) rfl (by kernel_rfl) (by kernel_rfl) (by kernel_rfl) (fun _ _ _ h => h) (Or.inl ⟨by rfl, ?_⟩) (by assumption) ?_
  rotate_left
  · intro w' hSw; (try dsimp only at hSw); go_simp; (try with_reducible rfl)
  (try simp only [Act.put, List.setIfInBounds_toArray, List.set_cons_zero, List.set_cons_succ, List.getElem_toArray, List.getElem_cons_succ, List.getElem_cons_zero])
  refine wpAnyH_take (i := 11) (v := ?_) rfl (by kernel_rfl) (by kernel_rfl) (by kernel_rfl) (fun _ _ _ h => h) (Or.inl ⟨by rfl, ?_⟩) (by assumption) ?_
  rotate_left
  · intro w' hSw; (try dsimp only at hSw); go_simp; (try with_reducible rfl)
  (try simp only [Act.put, List.setIfInBounds_toArray, List.set_cons_zero, List.set_cons_succ, List.getElem_toArray, List.getElem_cons_succ, List.getElem_cons_zero])
  refine wpAnyH_take (i := 13) (v := ?_) rfl (by kernel_rfl) (by kernel_rfl) (by kernel_rfl) (fun _ _ _ h => h) (Or.inl ⟨by rfl, ?_⟩) (by assumption) ?_
  rotate_left
  · intro w' hSw; (try dsimp only at hSw); go_simp; (try with_reducible rfl)
  (try simp only [Act.put, List.setIfInBounds_toArray, List.set_cons_zero, List.set_cons_succ, List.getElem_toArray, List.getElem_cons_succ, List.getElem_cons_zero])
  refine wpAnyH_take (i := 14) (v := ?_) rfl (by kernel_rfl) (by kernel_rfl) (by kernel_rfl) (fun _ _ _ h => h) (Or.inl ⟨by rfl, ?_⟩) (by assumption) ?_
  rotate_left
  · intro w' hSw; (try dsimp only at hSw); go_simp; (try with_reducible rfl)
  (try simp only [Act.put, List.setIfInBounds_toArray, List.set_cons_zero, List.set_cons_succ, List.getElem_toArray, List.getElem_cons_succ, List.getElem_cons_zero])
  refine wpAnyH_ready (rs := [12]) (by kernel_rfl) (by simp) ?_
  refine AllReadyH.cons rfl (fun K hK => ?_) AllReadyH.nil
  go_simp
  (go_at_call 22; refine (HO.out _ (HZ.out.below (by (repeat' (first | (with_reducible exact Below.refl _ _) | (with_reducible assumption) | (with_reducible refine Below.trans ?_ (Below.mono (by with_reducible assumption) ?_)) | (with_reducible refine Below.alloc ?_ ?_ _) | (with_reducible refine Below.setCell ?_ ?_ _) | (with_reducible refine below_drewN ?_ _) | (with_reducible refine Below.drew ?_) | go_size))))).mono ?_; rintro e wa ⟨rfl, hba⟩; have a0 := (hba.cell (p := ⟨w.heap.size, 0, none⟩) (by first | exact z4')).trans (by first | exact p0); have a1 := (hba.cell (p := ⟨w.heap.size, 1, none⟩) (by first | exact z4')).trans (by first | exact p1); have a2 := (hba.cell (p := ⟨w.heap.size + 1, 0, none⟩) (by first | exact z4)).trans (by first | exact p2); have a3 := (hba.cell (p := ⟨w.heap.size + 1, 1, none⟩) (by first | exact z4)).trans (by first | exact p3); have za : w.heap.size + 1 < wa.heap.size := Nat.lt_of_lt_of_le (by first | exact z4) hba.size; have za' : w.heap.size < wa.heap.size := (by omega); have HBa : Below w.heap.size w wa := Below.trans (by (repeat' (first | (with_reducible exact Below.refl _ _) | (with_reducible assumption) | (with_reducible refine Below.trans ?_ (Below.mono (by with_reducible assumption) ?_)) | (with_reducible refine Below.alloc ?_ ?_ _) | (with_reducible refine Below.setCell ?_ ?_ _) | (with_reducible refine below_drewN ?_ _) | (with_reducible refine Below.drew ?_) | go_size))) (hba.mono (Below.size (show Below w.heap.size w _ from (by (repeat' (first | (with_reducible exact Below.refl _ _) | (with_reducible assumption) | (with_reducible refine Below.trans ?_ (Below.mono (by with_reducible assumption) ?_)) | (with_reducible refine Below.alloc ?_ ?_ _) | (with_reducible refine Below.setCell ?_ ?_ _) | (with_reducible refine below_drewN ?_ _) | (with_reducible refine Below.drew ?_) | go_size)))))))
  (try dsimp only)
  refine hK.out _ _ ?_ (fun hHeld => ?_)
  · exact ⟨a0, a1, a2, a3⟩
  clear hK K
  (try simp only [Act.put, List.setIfInBounds_toArray, List.set_cons_zero, List.set_cons_succ, List.getElem_toArray, List.getElem_cons_succ, List.getElem_cons_zero])
  refine wpAnyH_ready (rs := [15]) (by kernel_rfl) (by simp) ?_
  refine AllReadyH.cons rfl (fun K hK => ?_) AllReadyH.nil
  go_simp
  (go_at_call 22; refine (HO'.out _ (HZ'.out.below (by (repeat' (first | (with_reducible exact Below.refl _ _) | (with_reducible assumption) | (with_reducible refine Below.trans ?_ (Below.mono (by with_reducible assumption) ?_)) | (with_reducible refine Below.alloc ?_ ?_ _) | (with_reducible refine Below.setCell ?_ ?_ _) | (with_reducible refine below_drewN ?_ _) | (with_reducible refine Below.drew ?_) | go_size))))).mono ?_; rintro e wb ⟨rfl, hbb⟩; have b0 := (hbb.cell (p := ⟨w.heap.size, 0, none⟩) (by first | exact za' | exact z4')).trans (by first | exact a0 | exact p0); have b1 := (hbb.cell (p := ⟨w.heap.size, 1, none⟩) (by first | exact za' | exact z4')).trans (by first | exact a1 | exact p1); have b2 := (hbb.cell (p := ⟨w.heap.size + 1, 0, none⟩) (by first | exact za | exact z4)).trans (by first | exact a2 | exact p2); have b3 := (hbb.cell (p := ⟨w.heap.size + 1, 1, none⟩) (by first | exact za | exact z4)).trans (by first | exact a3 | exact p3); have zb : w.heap.size + 1 < wb.heap.size := Nat.lt_of_lt_of_le (by first | exact za | exact z4) hbb.size; have zb' : w.heap.size < wb.heap.size := (by omega); have HBb : Below w.heap.size w wb := Below.trans (by (repeat' (first | (with_reducible exact Below.refl _ _) | (with_reducible assumption) | (with_reducible refine Below.trans ?_ (Below.mono (by with_reducible assumption) ?_)) | (with_reducible refine Below.alloc ?_ ?_ _) | (with_reducible refine Below.setCell ?_ ?_ _) | (with_reducible refine below_drewN ?_ _) | (with_reducible refine Below.drew ?_) | go_size))) (hbb.mono (Below.size (show Below w.heap.size w _ from (by (repeat' (first | (with_reducible exact Below.refl _ _) | (with_reducible assumption) | (with_reducible refine Below.trans ?_ (Below.mono (by with_reducible assumption) ?_)) | (with_reducible refine Below.alloc ?_ ?_ _) | (with_reducible refine Below.setCell ?_ ?_ _) | (with_reducible refine below_drewN ?_ _) | (with_reducible refine Below.drew ?_) | go_size)))))))
  (try dsimp only)
  refine hK.out _ _ ?_ (fun hHeld => ?_)
  · exact ⟨b0, b1, b2, b3⟩
  clear hK K
  (try simp only [Act.put, List.setIfInBounds_toArray, List.set_cons_zero, List.set_cons_succ, List.getElem_toArray, List.getElem_cons_succ, List.getElem_cons_zero])
  refine wpAnyH_take (i := 16) (v := ?_) rfl (by kernel_rfl) (by kernel_rfl) (by kernel_rfl) (fun _ _ _ h => h) (Or.inl ⟨by rfl, ?_⟩) (by assumption) ?_
  rotate_left
  · intro w' hSw; (try dsimp only at hSw); go_simp; (try with_reducible rfl)
  (try simp only [Act.put, List.setIfInBounds_toArray, List.set_cons_zero, List.set_cons_succ, List.getElem_toArray, List.getElem_cons_succ, List.getElem_cons_zero])
  refine wpAnyH_take (i := 17) (v := ?_) rfl (by kernel_rfl) (by kernel_rfl) (by kernel_rfl) (fun _ _ _ h => h) (Or.inl ⟨by rfl, ?_⟩) (by assumption) ?_
  rotate_left
  · intro w' hSw; (try dsimp only at hSw); go_simp; (try with_reducible rfl)
  (try simp only [Act.put, List.setIfInBounds_toArray, List.set_cons_zero, List.set_cons_succ, List.getElem_toArray, List.getElem_cons_succ, List.getElem_cons_zero])
  refine wpAnyH_take (i := 18) (v := ?_) rfl (by kernel_rfl) (by kernel_rfl) (by kernel_rfl) (fun _ _ _ h => h) (Or.inl ⟨by rfl, ?_⟩) (by assumption) ?_
  rotate_left
  · intro w' hSw; (try dsimp only at hSw); go_simp; (try with_reducible rfl)
  (try simp only [Act.put, List.setIfInBounds_toArray, List.set_cons_zero, List.set_cons_succ, List.getElem_toArray, List.getElem_cons_succ, List.getElem_cons_zero])
  refine wpAnyH_take (i := 19) (v := ?_) rfl (by kernel_rfl) (by kernel_rfl) (by kernel_rfl) (fun _ _ _ h => h) (Or.inl ⟨by rfl, ?_⟩) (by assumption) ?_
  rotate_left
  · intro w' hSw; (try dsimp only at hSw); go_simp; (try with_reducible rfl)
  (try simp only [Act.put, List.setIfInBounds_toArray, List.set_cons_zero, List.set_cons_succ, List.getElem_toArray, List.getElem_cons_succ, List.getElem_cons_zero])
  refine wpAnyH_take (i := 20) (v := ?_) rfl (by kernel_rfl) (by kernel_rfl) (by kernel_rfl) (fun _ _ _ h => h) (Or.inl ⟨by rfl, ?_⟩) (by assumption) ?_
  rotate_left
  · intro w' hSw; (try dsimp only at hSw); go_simp; (try with_reducible rfl)
  (try simp only [Act.put, List.setIfInBounds_toArray, List.set_cons_zero, List.set_cons_succ, List.getElem_toArray, List.getElem_cons_succ, List.getElem_cons_zero])
  refine wpAnyH_ready (rs := [21]) (by kernel_rfl) (by simp) ?_
  refine AllReadyH.cons rfl (fun K hK => ?_) AllReadyH.nil
  go_simp
  (go_at_call 14; refine (known4 _).mono ?_; rintro e wk ⟨rfl, hbk⟩; have k0 := (hbk.cell (p := ⟨w.heap.size, 0, none⟩) (by first | exact zb' | exact za' | exact z4')).trans (by first | exact b0 | exact a0 | exact p0); have k1 := (hbk.cell (p := ⟨w.heap.size, 1, none⟩) (by first | exact zb' | exact za' | exact z4')).trans (by first | exact b1 | exact a1 | exact p1); have k2 := (hbk.cell (p := ⟨w.heap.size + 1, 0, none⟩) (by first | exact zb | exact za | exact z4)).trans (by first | exact b2 | exact a2 | exact p2); have k3 := (hbk.cell (p := ⟨w.heap.size + 1, 1, none⟩) (by first | exact zb | exact za | exact z4)).trans (by first | exact b3 | exact a3 | exact p3); have zk : w.heap.size + 1 < wk.heap.size := Nat.lt_of_lt_of_le (by first | exact zb | exact za | exact z4) hbk.size; have zk' : w.heap.size < wk.heap.size := (by omega); have HBk : Below w.heap.size w wk := Below.trans (by (repeat' (first | (with_reducible exact Below.refl _ _) | (with_reducible assumption) | (with_reducible refine Below.trans ?_ (Below.mono (by with_reducible assumption) ?_)) | (with_reducible refine Below.alloc ?_ ?_ _) | (with_reducible refine Below.setCell ?_ ?_ _) | (with_reducible refine below_drewN ?_ _) | (with_reducible refine Below.drew ?_) | go_size))) (hbk.mono (Below.size (show Below w.heap.size w _ from (by (repeat' (first | (with_reducible exact Below.refl _ _) | (with_reducible assumption) | (with_reducible refine Below.trans ?_ (Below.mono (by with_reducible assumption) ?_)) | (with_reducible refine Below.alloc ?_ ?_ _) | (with_reducible refine Below.setCell ?_ ?_ _) | (with_reducible refine below_drewN ?_ _) | (with_reducible refine Below.drew ?_) | go_size)))))))
  (try dsimp only)
  refine hK.out _ _ ?_ (fun hHeld => ?_)
  · exact ⟨k0, k1, k2, k3⟩
  clear hK K
  (try simp only [Act.put, List.setIfInBounds_toArray, List.set_cons_zero, List.set_cons_succ, List.getElem_toArray, List.getElem_cons_succ, List.getElem_cons_zero])
  refine wpAnyH_take (i := 22) (v := ?_) rfl (by kernel_rfl) (by kernel_rfl) (by kernel_rfl) (fun _ _ _ h => h) (Or.inl ⟨by rfl, ?_⟩) (by assumption) ?_
  rotate_left
  · intro w' hSw; (try dsimp only at hSw); go_simp; (try with_reducible rfl)
  (try simp only [Act.put, List.setIfInBounds_toArray, List.set_cons_zero, List.set_cons_succ, List.getElem_toArray, List.getElem_cons_succ, List.getElem_cons_zero])
  refine wpAnyH_take (i := 23) (v := ?_) rfl (by kernel_rfl) (by kernel_rfl) (by kernel_rfl) (fun _ _ _ h => h) (Or.inl ⟨by rfl, ?_⟩) (by assumption) ?_
  rotate_left
  · intro w' hSw; (try dsimp only at hSw); go_simp; (try with_reducible rfl)
  (try simp only [Act.put, List.setIfInBounds_toArray, List.set_cons_zero, List.set_cons_succ, List.getElem_toArray, List.getElem_cons_succ, List.getElem_cons_zero])
  refine wpAnyH_done (by kernel_rfl) ?_ _
  go_wp2
  go_ret
  go_light
  exact ⟨rfl, by (repeat' (first | (with_reducible exact Below.refl _ _) | (with_reducible assumption) | (with_reducible refine Below.trans ?_ (Below.mono (by with_reducible assumption) ?_)) | (with_reducible refine Below.alloc ?_ ?_ _) | (with_reducible refine Below.setCell ?_ ?_ _) | (with_reducible refine below_drewN ?_ _) | (with_reducible refine Below.drew ?_) | go_size))⟩

theorem is_ans (A : Option Addr) (n c : Nat) (x : Int) (z : Nat → Int) (hn : n ≤ 200) : (IsTab z n x ∧ IsAns A n c x z true) ∨ IsAns A n c x z false := by
  by_cases h : IsTab z n x
  · exact .inl ⟨h, fun w hz => ref3_is A n c x z w true hz (by unfold maxLen; omega) ⟨fun _ => h, fun _ => rfl⟩⟩
  · exact .inr fun w hz => ref3_is A n c x z w false hz (by unfold maxLen; omega) ⟨fun k => (Bool.noConfusion k), fun k => (h k).elim⟩
theorem len_least {z : Nat → Int} {n : Nat} {x : Int} (h : IsTab z n x) (d : Int) : 86399 ≤ lenS z n d := by
  have s := begS_step h d
  unfold lenS
  omega
theorem tai_ans (A : Option Addr) (n c : Nat) (x d m : Int) (z : Nat → Int) (ht : IsTab z n x) (d0 : -100000 ≤ d) (d1 : d ≤ 100000) (n0 : 0 ≤ m) (n1 : m < 86399000000000) : TaiAns A n c x d m z (taiV z n d m) := by
  intro w hz
  have l := len_least ht d
  have l' : m < lenS z n d * 1000000000 := by omega
  have r := scale_tai_ok A n c x d m z w hz ht (by omega) (by omega) (by omega) l'
  rwa [tai_val ht d0 d1 (by omega) l'] at r

set_option maxRecDepth 100000 in
theorem scaleTables_lifted (os : Os) (started : os.Started) (H : Type) (enc : TypeId × Value → H) :
    ReturnsInHanded {} Try.checked os 7 .any (Rows.scaleTablesSpec.pre6 enc Try.prog Try.f7 Rows.scaleTablesRow.domain false) (Rows.scaleTablesSpec.post enc Try.prog Try.f7 false true false false) := by
  refine returnsInHanded_of_change_sized (C := Try.checked) law_own started (by kernel_rfl) Try.func7
    (ChangeSpec.witness6 (enc := enc) (C := Try.checked) false ⟨#[], #[.agg #[.slice none 0 0, .int .i64 0], .agg #[.slice none 0 0, .int .i64 0], .int .i64 0, .int .i64 0], []⟩ 8 (by kernel_rfl) (by kernel_rfl) (by kernel_rfl) (by kernel_rfl)) ?_
  intro W base args ds gs before hval0 hW hcnd hsz0 _
  have hval : ∀ (j : Nat) t v, Try.f7.params[j]? = some t → args[j]? = some v → Value.okWide Try.prog W .any base t v := hval0
  have hsz : (DataW.weightsEach Try.prog (Try.f7.params.toList ++ Rows.scaleTablesSpec.plain.varTypes Try.prog) (ds ++ gs)).all (· ≤ reachBytes) = true := hsz0
  have hW' := hW
  obtain ⟨p, q, hA0, hV, rfl, hfz, hnd⟩ := hW
  have hA : DataW.TrodAll enc Try.prog W 0 (fun _ => true) true Try.f7.params.toList args.toList ds p := hA0
  rw [Try.params7] at hA hval hsz
  have hsame : (Rows.scaleTablesSpec.fn H (ds ++ gs)).results = [.lit (.bool true)] ∧ (Rows.scaleTablesSpec.fn H (ds ++ gs)).args = ds ∧ (Rows.scaleTablesSpec.fn H (ds ++ gs)).vars = [] → ∀ W', Below W.heap.size W W' → Rows.scaleTablesSpec.post enc Try.prog Try.f7 false true false false W args (.bool true) W' :=
    fun h W' hb => law_post (tb := 4) hW' law_laid (by kernel_rfl) rfl Try.underlying4 h.1 h.2.1 rfl h.2.2 hb
  obtain ⟨v0, vs0, d0, ds0, p0, q0, hargs, rfl, rfl, h0, r0⟩ := trodAll_cons hA
  obtain ⟨v1, vs1, d1, ds1, p1, q1, rfl, rfl, rfl, h1, r1⟩ := trodAll_cons r0
  obtain ⟨v2, vs2, d2, ds2, p2, q2, rfl, rfl, rfl, h2, r2⟩ := trodAll_cons r1
  obtain ⟨v3, vs3, d3, ds3, p3, q3, rfl, rfl, rfl, h3, r3⟩ := trodAll_cons r2
  obtain ⟨rfl, rfl, rfl⟩ := trodAll_nil r3
  obtain rfl : args = #[v0, v1, v2, v3] := by cases args; simp_all
  obtain ⟨rfl, rfl⟩ := trodVars_none hV
  have hpost := hsame ⟨rfl, rfl, rfl⟩
  clear hsame hA0 hval0 hsz0
  obtain ⟨A, n, c, z, x, rfl, hn, hz, _⟩ := open_table (hval 0 30 v0 rfl rfl) h0
  obtain ⟨A', n', c', z', x', rfl, hn', hz', _⟩ := open_table (hval 1 30 v1 rfl rfl) h1
  obtain ⟨a2, rfl, _, _, wf2⟩ := open_int Try.underlying3 (hval 2 3 v2 rfl rfl) h2
  obtain ⟨a3, rfl, _, _, wf3⟩ := open_int Try.underlying3 (hval 3 3 v3 rfl rfl) h3
  by_cases h : 200 < n ∨ (n ≤ 200 ∧ 200 < n')
  · exact (tables_long A n c x A' n' c' x' a2 a3 W h).mono fun e W' ⟨he, hb⟩ => ⟨_, he, hpost W' hb⟩
  have g0 : n ≤ 200 := by omega
  have g1 : n' ≤ 200 := by omega
  rcases is_ans A n c x z g0 with ⟨t, i⟩ | i
  · rcases is_ans A' n' c' x' z' g1 with ⟨t', i'⟩ | i'
    · by_cases k : -100000 ≤ a2 ∧ a2 ≤ 100000 ∧ 0 ≤ a3 ∧ a3 < 86399000000000
      · obtain ⟨k0, k1, k2, k3⟩ := k
        have b := offK_bd t a2 n (Nat.le_refl _)
        have b' := offK_bd t' a2 n' (Nat.le_refl _)
        have e : taiV z n a2 a3 - taiV z' n' a2 a3 = (offK z a2 n - offK z' a2 n') * 1000000000 := by unfold taiV begS; omega
        exact (tables_in A n c x A' n' c' x' a2 a3 z z' W hz hz' g0 g1 i i' k0 k1 k2 k3 _ _ _ _ (tai_ans A n c x a2 a3 z t k0 k1 k2 k3) (tai_ans A' n' c' x' a2 a3 z' t' k0 k1 k2 k3) (fun w hw => ref3_offset_yes A n c x a2 z w hw t) (fun w hw => ref3_offset_yes A' n' c' x' a2 z' w hw t') (by rw [e]; exact IntWalk.i64_in _ (by omega)) (IntWalk.i64_in _ (by omega)) (IntWalk.i64_in _ (by omega))).mono fun e W' ⟨he, hb⟩ => ⟨_, he, hpost W' hb⟩
      · exact (tables_no3 A n c x A' n' c' x' a2 a3 z z' W hz hz' g0 g1 i i' (by omega)).mono fun e W' ⟨he, hb⟩ => ⟨_, he, hpost W' hb⟩
    · exact (tables_no2 A n c x A' n' c' x' a2 a3 z z' W hz hz' g0 g1 i i').mono fun e W' ⟨he, hb⟩ => ⟨_, he, hpost W' hb⟩
  · exact (tables_no1 A n c x A' n' c' x' a2 a3 z z' W hz hz' g0 g1 i).mono fun e W' ⟨he, hb⟩ => ⟨_, he, hpost W' hb⟩
theorem scaleTables_holds : Rows.ScaleTablesSaid :=
  OpenClaim.holds_of_wide 7 Try.f7 rfl rfl rfl rfl rfl rfl rfl ⟨rfl, rfl, rfl, rfl, rfl⟩ rfl rfl rfl rfl rfl (by kernel_rfl) Try.func7 (by kernel_rfl)
    (of_decide_eq_true (by kernel_rfl)) (by unfold Func.isWrapper; first | (rw [if_pos (by decide +kernel)]; kernel_rfl) | (rw [if_neg (by decide +kernel)]; exact ⟨rfl, rfl⟩))
    (fun os started H enc _ => scaleTables_lifted os started H enc)
end Go.Proofs.Ytklahiogcpojmaa
