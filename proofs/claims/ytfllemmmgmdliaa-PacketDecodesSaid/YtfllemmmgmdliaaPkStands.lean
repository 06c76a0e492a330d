/- stands, of what roomy made. -/
import Derived.Test.YtfllemmmgmdliaaPkRoomy
set_option linter.unusedSimpArgs false
set_option linter.unusedVariables false
namespace Go.Proofs.Ytfllemmmgmdliaa
open Go.RowKit

theorem rm_eq (f : Nat → Int) (n : Nat) : eqB n (rmF f n) n f = true := by
  simp only [eqB, decide_true, Bool.true_and, eqK_iff]
  intro j hj
  unfold rmF
  rw [if_pos hj]
set_option maxHeartbeats 1000000 in
theorem stands6 (g cap : Nat) (A : Option Addr) (n c : Nat) (f : Nat → Int) (w : World) (hn : n ≤ 1000) (hcap : n + 1 ≤ cap) (h : BytesAt w (some ⟨g, 0, none⟩) (n + 1) (rmF f n)) (h' : BytesAt w A n f) :
    Calls Try.prog 14 #[.slice (some ⟨g, 0, none⟩) (n + 1) cap, .slice A n c] w fun e w' => e = .returned (.bool true) ∧ ∃ q, w' = w.drewN q := by
  have hs : BytesAt w (some ⟨g, 0, none⟩) n (rmF f n) := fun h0 => by
    obtain ⟨B, O, e, h1, h2⟩ := h (by omega)
    exact ⟨B, O, e, h1, fun j hj => h2 j (by omega)⟩
  obtain ⟨B, O, e, _, hc⟩ := h (by omega)
  injection e with e
  injection e with e1 e2 _
  subst e1
  subst e2
  have x0 : w.cell? ⟨g, n, none⟩ = some (.int .u8 171) := by
    have := hc n (by omega)
    rwa [Nat.zero_add, show rmF f n n = 171 from by unfold rmF; rw [if_neg (by omega)]] at this
  have CS := Lib.hid (same6 (some ⟨g, 0, none⟩) n cap (rmF f n) A n c f w (by omega) (by omega) hs h')
  rw [rm_eq] at CS
  have k1 : (n : Int) ≤ (cap : Int) := by omega
  have k2 : (n : Int) ≤ 1000 := by omega
  have X0 := Lib.hid x0
  clear hc hs h h'
  go_enter Try.func14, Try.ntmps14
  go_wp2_with fail
  refine CS.out.mono ?_; rintro e w1 ⟨rfl, nq, rfl⟩
  have x1 : (w.drewN nq).cell? ⟨g, n, none⟩ = some (.int .u8 171) := X0.out
  clear x0
  go_wp2
  go_ret
  exact ⟨rfl, nq, rfl⟩
end Go.Proofs.Ytfllemmmgmdliaa
