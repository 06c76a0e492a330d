/- Small facts of bytes in memory, where no octet is reached. -/
import Derived.Test.YtdjhpajmbddffaaOctMem
import Derived.Laws.MakeOwn
import Derived.Deep.RegionLaw
set_option linter.unusedSimpArgs false
set_option linter.unusedVariables false
namespace Go.Proofs.Ytdjhpajmbddffaa
open Go.RowKit

theorem empty_loads : (∀ (ad : Addr) (w : World), (loadCellsFrom ad 0 0 #[]).run Try.prog w = .ok #[] w) ∧ (∀ (w : World) (p : Addr), (storeCells p []).run Try.prog w = .ok () w) := ⟨fun ad w => by simp [loadCellsFrom], fun w p => by simp [storeCells]⟩
theorem own_base {w : World} {base base' : Nat} {e : TypeId} {size n : Nat} {v : Value} {xs : List Value} (hb : base' ≤ base) (h : w.ownsRow base e size v n xs) : w.ownsRow base' e size v n xs :=
  ⟨h.1, h.2.imp id (fun ⟨g, cap, cur, e, h1, h2⟩ => ⟨g, cap, cur, e, Nat.le_trans hb h1, h2⟩)⟩
end Go.Proofs.Ytdjhpajmbddffaa
