/- Stage 25: makeMap in a walk; the shape of what Check keeps. -/
import Derived.Test.YtdjhpajmbddffaaCo25
import Derived.Test.YtdjhpajmbddffaaWo25
import Derived.Test.YtdjhpajmbddffaaSr25
set_option linter.unusedSimpArgs false
set_option linter.unusedVariables false
namespace Go.Proofs.Ytdjhpajmbddffaa
open Go.RowKit

theorem run_mk {P : Program} (ty : TypeId) (w : World) : (Instr.makeMap ty none).run P w = .ok (.map (some w.heap.size)) (w.alloc (.map #[] 0)) := by
  simp [Instr.makeMap, newObj, go_sem]
  rfl
theorem wpList_mk {P : Program} {ops : Array Oper} {rest : List Oper} {o : Oper} {a : Go.Act} {w : World} {Q : Exit → Go.Act → World → Prop} (hg : o.guard = none) (ty : TypeId) (ho : o.op = .makeMap ty none)
    (h : wpList P ops Q rest (a.put o.dst (.map (some w.heap.size))) (w.alloc (.map #[] 0))) : wpList P ops Q (o :: rest) a w :=
  wpList_plain hg fun _ hK => by
    unfold Oper.wp execOp
    simp only [ho, Option.map_none, Sem.run_bind, run_mk, Result.andThen_ok]
    exact hK _ _ h
end Go.Proofs.Ytdjhpajmbddffaa
