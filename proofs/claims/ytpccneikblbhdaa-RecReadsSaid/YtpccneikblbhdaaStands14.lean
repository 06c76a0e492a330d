/- Stage 14: stands: the bytes that came in lie before the one byte laid behind them. -/
import Derived.Test.YtpccneikblbhdaaLSame14
set_option linter.unusedSimpArgs false
set_option linter.unusedVariables false
namespace Go.Proofs.Ytpccneikblbhdaa
open Go.RowKit

set_option maxRecDepth 100000 in
set_option maxHeartbeats 4000000 in
theorem stands14 (g cap : Nat) (A : Option Addr) (p : List Int) (c : Nat) (w : World) (hn : p.length ≤ 100000) (hcap : p.length + 1 ≤ cap) (h : ByL w (some ⟨g, 0, none⟩) (p ++ [171])) (h' : ByL w A p) :
    Calls Try.prog 22 #[.slice (some ⟨g, 0, none⟩) (p.length + 1) cap, .slice A p.length c] w fun e w' => e = .returned (.bool true) ∧ ∃ q, w' = w.drewN q := by
  have hs : ByL w (some ⟨g, 0, none⟩) p := by
    have q := h.take p.length
    rwa [List.take_left] at q
  have x0 : w.cell? ⟨g, p.length, none⟩ = some (.int .u8 171) := by
    obtain ⟨B, O, e, _, hc⟩ := h (by simp)
    injection e with e
    injection e with e1 e2 _
    subst e1
    subst e2
    have := hc p.length (.int .u8 171) (by simp [bC])
    rwa [Nat.zero_add] at this
  have CS := Lib.hid (lsame (some ⟨g, 0, none⟩) p cap A p c w (by omega) (by omega) hs h')
  rw [show decide (p = p) = true from by simp] at CS
  have k1 : (p.length : Int) ≤ (cap : Int) := by omega
  have k2 : (p.length : Int) ≤ 100000 := by omega
  have k3 : (p.length : Int) + 1 ≤ (cap : Int) := by omega
  have X0 := Lib.hid x0
  clear hs h h'
  go_enter Try.func22, Try.ntmps22
  go_wp2_with fail
  refine CS.out.mono ?_; rintro e w1 ⟨rfl, nq, rfl⟩
  have x1 : (w.drewN nq).cell? ⟨g, p.length, none⟩ = some (.int .u8 171) := X0.out
  clear x0
  go_wp2
  go_ret
  exact ⟨rfl, nq, rfl⟩
end Go.Proofs.Ytpccneikblbhdaa
