/- stream: Need, Ack, Acked, Tick, Applied; nil sides. -/
import Derived.Test.YtdffldlcbihjmaaDoorSmB
set_option linter.unusedSimpArgs false
set_option linter.unusedVariables false
namespace Go.Proofs.YtdffldlcbihjmaaDoor
open Go.RowKit Go.Sort

/-- What is to be sent. -/
def needM (a s n last : Int) : Int × Bool := if s < last then (s + 1, true) else if a < last ∧ 4 ≤ n then (a + 1, true) else (0, false)
set_option maxRecDepth 100000 in
set_option maxHeartbeats 4000000 in
theorem st_need (b : Nat) (f t a s n last : Int) (w : World) (h : XB w b (outC f t a s n)) (ha : 0 ≤ a ∧ a ≤ 4611686018427387904) (hs : 0 ≤ s ∧ s ≤ 4611686018427387904) :
    Calls Tryd.prog 27 #[.pointer (some ⟨b, 0, none⟩), .int .i64 last] w fun e w' => e = .returned (.tuple #[.int .i64 (needM a s n last).1, .bool (needM a s n last).2]) ∧ w = w' := by
  have c2 := h.c 2 _ rfl
  have c3 := h.c 3 _ rfl
  have c4 := h.c 4 _ rfl
  have lt := h.lt
  have e1 : IntKind.i64.wrap (s + 1) = s + 1 := IntWalk.i64_in _ (by omega)
  have e2 : IntKind.i64.wrap (a + 1) = a + 1 := IntWalk.i64_in _ (by omega)
  clear h ha hs
  by_cases h1 : s < last
  · have e : needM a s n last = (s + 1, true) := by simp [needM, h1]
    rw [e]
    clear e
    go_enter Tryd.func27, Tryd.ntmps27
    go_wp2
    go_ret2
    exact ⟨rfl, rfl⟩
  by_cases h2 : a < last
  rotate_left
  · have e : needM a s n last = (0, false) := by simp [needM, h1, h2]
    rw [e]
    clear e
    go_enter Tryd.func27, Tryd.ntmps27
    go_wp2
    go_ret2
    exact ⟨rfl, rfl⟩
  by_cases h3 : 4 ≤ n
  · have e : needM a s n last = (a + 1, true) := by simp [needM, h1, h2, h3]
    rw [e]
    clear e
    go_enter Tryd.func27, Tryd.ntmps27
    go_wp2
    go_ret2
    exact ⟨rfl, rfl⟩
  · have e : needM a s n last = (0, false) := by simp [needM, h1, h3]
    rw [e]
    clear e
    go_enter Tryd.func27, Tryd.ntmps27
    go_wp2
    go_ret2
    exact ⟨rfl, rfl⟩
theorem st_acked (b : Nat) (f t a s n : Int) (w : World) (h : XB w b (outC f t a s n)) :
    Calls Tryd.prog 37 #[.pointer (some ⟨b, 0, none⟩)] w fun e w' => e = .returned (.int .i64 a) ∧ w = w' := by
  have c2 := h.c 2 _ rfl
  have lt := h.lt
  clear h
  go_enter Tryd.func37, Tryd.ntmps37
  go_wp2
  go_ret
  exact ⟨rfl, rfl⟩
theorem st_applied (b : Nat) (f t a : Int) (w : World) (h : XB w b (inC f t a)) :
    Calls Tryd.prog 45 #[.pointer (some ⟨b, 0, none⟩)] w fun e w' => e = .returned (.int .i64 a) ∧ w = w' := by
  have c2 := h.c 2 _ rfl
  have lt := h.lt
  clear h
  go_enter Tryd.func45, Tryd.ntmps45
  go_wp2
  go_ret
  exact ⟨rfl, rfl⟩
/-- A side that was written. -/
structure StPost (b : Nat) (cs : List Value) (w w' : World) : Prop where
  xb : XB w' b cs
  only : Only b w w'
def ackB (a s q : Int) : Bool := decide (a < q) && decide (q ≤ s)
set_option maxRecDepth 100000 in
set_option maxHeartbeats 4000000 in
theorem st_ack (b : Nat) (f t a s n q : Int) (w : World) (h : XB w b (outC f t a s n)) :
    Calls Tryd.prog 30 #[.pointer (some ⟨b, 0, none⟩), .int .i64 q] w fun e w' => e = .returned (.bool (ackB a s q)) ∧ StPost b (if ackB a s q = true then outC f t q s 0 else outC f t a s n) w w' := by
  have c2 := h.c 2 _ rfl
  have c3 := h.c 3 _ rfl
  have c4 := h.c 4 _ rfl
  have f2 := h.fz 2
  have f4 := h.fz 4
  have lt := h.lt
  have HX := Lib.hid h
  clear h
  by_cases h1 : a < q
  rotate_left
  · have e : ackB a s q = false := by simp [ackB, h1]
    rw [e]
    have h1' : q ≤ a := by omega
    clear e h1
    go_enter Tryd.func30, Tryd.ntmps30
    go_wp2
    go_ret
    exact ⟨rfl, HX.out, Only.refl _ _⟩
  have h1' : ¬ q ≤ a := by omega
  by_cases h2 : q ≤ s
  rotate_left
  · have e : ackB a s q = false := by simp [ackB, h2]
    rw [e]
    have h2' : s < q := by omega
    clear e h1 h2
    go_enter Tryd.func30, Tryd.ntmps30
    go_wp2
    go_ret
    exact ⟨rfl, HX.out, Only.refl _ _⟩
  · have e : ackB a s q = true := by simp [ackB, h1, h2]
    rw [e]
    have h2' : ¬ s < q := by omega
    clear e h1 h2
    have FIN : Hid (StPost b (outC f t q s 0) w ((w.setCell ⟨b, 2, none⟩ (.int .i64 q)).setCell ⟨b, 4, none⟩ (.int .i64 0))) := Lib.hid ⟨(HX.out.set 2 (by simp) (.int .i64 q)).set 4 (by simp) (.int .i64 0), by (repeat' (first | (with_reducible exact Only.refl _ _) | (with_reducible assumption) | (with_reducible refine Only.alloc ?_ _) | (with_reducible refine Only.setB ?_ _) | (refine Only.setCell ?_ (Or.inr ?_) _) | (with_reducible refine Only.drewN ?_ _) | (with_reducible refine Only.drew ?_) | (with_reducible refine Only.trans ?_ (by with_reducible assumption)) | (with_reducible refine Only.trans ?_ (Only.of_below (by with_reducible assumption))) | go_size))⟩
    go_enter Tryd.func30, Tryd.ntmps30
    go_wp2
    go_ret
    exact ⟨rfl, FIN.out⟩
def tickM (a s n : Int) : Int := if a < s then n + 1 else n
set_option maxRecDepth 100000 in
set_option maxHeartbeats 4000000 in
theorem st_tick (b : Nat) (f t a s n : Int) (w : World) (h : XB w b (outC f t a s n)) (hn : 0 ≤ n ∧ n ≤ 4611686018427387904) :
    Calls Tryd.prog 32 #[.pointer (some ⟨b, 0, none⟩)] w fun e w' => e = .returned (.tuple #[]) ∧ StPost b (outC f t a s (tickM a s n)) w w' := by
  have c2 := h.c 2 _ rfl
  have c3 := h.c 3 _ rfl
  have c4 := h.c 4 _ rfl
  have f4 := h.fz 4
  have lt := h.lt
  have e1 : IntKind.i64.wrap (n + 1) = n + 1 := IntWalk.i64_in _ (by omega)
  have HX := Lib.hid h
  clear h hn
  by_cases h1 : a < s
  · have e : tickM a s n = n + 1 := by simp [tickM, h1]
    rw [e]
    have hd : decide (a < s) = true := by simpa using h1
    clear e h1
    have FIN : Hid (∀ k, StPost b (outC f t a s (n + 1)) w ((w.drewN k).setCell ⟨b, 4, none⟩ (.int .i64 (n + 1)))) := Lib.hid (fun k => ⟨(HX.out.below (below_drewN (Below.refl _ _) k)).set 4 (by simp) (.int .i64 (n + 1)), by (repeat' (first | (with_reducible exact Only.refl _ _) | (with_reducible assumption) | (with_reducible refine Only.alloc ?_ _) | (with_reducible refine Only.setB ?_ _) | (refine Only.setCell ?_ (Or.inr ?_) _) | (with_reducible refine Only.drewN ?_ _) | (with_reducible refine Only.drew ?_) | (with_reducible refine Only.trans ?_ (by with_reducible assumption)) | (with_reducible refine Only.trans ?_ (Only.of_below (by with_reducible assumption))) | go_size))⟩)
    go_enter Tryd.func32, Tryd.ntmps32
    go_wp2_with fail
    go_quiet (fail)
    go_wp2
    exact bodyPost_end (by simp [results, Tryd.results32, go_sem]) rfl ⟨rfl, FIN.out _⟩
  · have e : tickM a s n = n := by simp [tickM, h1]
    rw [e]
    have hd : decide (a < s) = false := by simpa using h1
    clear e h1
    have FIN : Hid (∀ k, StPost b (outC f t a s n) w (w.drewN k)) := Lib.hid (fun k => ⟨HX.out.below (below_drewN (Below.refl _ _) k), by (repeat' (first | (with_reducible exact Only.refl _ _) | (with_reducible assumption) | (with_reducible refine Only.alloc ?_ _) | (with_reducible refine Only.setB ?_ _) | (refine Only.setCell ?_ (Or.inr ?_) _) | (with_reducible refine Only.drewN ?_ _) | (with_reducible refine Only.drew ?_) | (with_reducible refine Only.trans ?_ (by with_reducible assumption)) | (with_reducible refine Only.trans ?_ (Only.of_below (by with_reducible assumption))) | go_size))⟩)
    go_enter Tryd.func32, Tryd.ntmps32
    go_wp2_with fail
    go_quiet (fail)
    go_wp2
    exact bodyPost_end (by simp [results, Tryd.results32, go_sem]) rfl ⟨rfl, FIN.out _⟩
-- nil sides
theorem nil_need (last : Int) (w : World) : Calls Tryd.prog 27 #[.pointer none, .int .i64 last] w fun e w' => e = .returned (.tuple #[.int .i64 0, .bool false]) ∧ w = w' := by
  go_enter Tryd.func27, Tryd.ntmps27
  go_wp2
  go_ret2
  exact ⟨rfl, rfl⟩
theorem nil_send (v : Value) (w : World) (hv : ∃ A n c, v = .slice A n c) : Calls Tryd.prog 34 #[.pointer none, v] w fun e w' => e = .returned (.tuple #[.slice none 0 0, .int .i64 1]) ∧ w = w' := by
  obtain ⟨A, n, c, rfl⟩ := hv
  go_enter Tryd.func34, Tryd.ntmps34
  go_wp2
  go_ret2
  exact ⟨rfl, rfl⟩
theorem nil_ack (last : Int) (w : World) : Calls Tryd.prog 30 #[.pointer none, .int .i64 last] w fun e w' => e = .returned (.bool false) ∧ w = w' := by
  go_enter Tryd.func30, Tryd.ntmps30
  go_wp2
  go_ret
  exact ⟨rfl, rfl⟩
theorem nil_acked (w : World) : Calls Tryd.prog 37 #[.pointer none] w fun e w' => e = .returned (.int .i64 0) ∧ w = w' := by
  go_enter Tryd.func37, Tryd.ntmps37
  go_wp2
  go_ret
  exact ⟨rfl, rfl⟩
theorem nil_applied (w : World) : Calls Tryd.prog 45 #[.pointer none] w fun e w' => e = .returned (.int .i64 0) ∧ w = w' := by
  go_enter Tryd.func45, Tryd.ntmps45
  go_wp2
  go_ret
  exact ⟨rfl, rfl⟩
theorem nil_tick (w : World) : Calls Tryd.prog 32 #[.pointer none] w fun e w' => e = .returned (.tuple #[]) ∧ Below w.heap.size w w' := by
  have FIN : Hid (∀ k, Below w.heap.size w (w.drewN k)) := Lib.hid (fun k => by (repeat' (first | (with_reducible exact Below.refl _ _) | (with_reducible assumption) | (with_reducible refine Below.trans ?_ (Below.mono (by with_reducible assumption) ?_)) | (with_reducible refine Below.alloc ?_ ?_ _) | (with_reducible refine Below.setCell ?_ ?_ _) | (with_reducible refine below_drewN ?_ _) | (with_reducible refine Below.drew ?_) | go_size)))
  go_enter Tryd.func32, Tryd.ntmps32
  go_wp2_with fail
  go_quiet (fail)
  go_wp2
  exact bodyPost_end (by simp [results, Tryd.results32, go_sem]) rfl ⟨rfl, FIN.out _⟩
theorem nil_take (v : Value) (w : World) (hv : ∃ A n c, v = .slice A n c) : Calls Tryd.prog 40 #[.pointer none, v] w fun e w' => e = .returned (.slice none 0 0) ∧ w = w' := by
  obtain ⟨A, n, c, rfl⟩ := hv
  go_enter Tryd.func40, Tryd.ntmps40
  go_wp2
  go_ret
  exact ⟨rfl, rfl⟩
theorem nil_done (q : Int) (w : World) : Calls Tryd.prog 43 #[.pointer none, .int .i64 q] w fun e w' => e = .returned (.slice none 0 0) ∧ w = w' := by
  go_enter Tryd.func43, Tryd.ntmps43
  go_wp2
  go_ret
  exact ⟨rfl, rfl⟩
end Go.Proofs.YtdffldlcbihjmaaDoor
