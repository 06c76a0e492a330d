/- Stage 25: lookup and mapUpdate in a walk. -/
import Derived.Test.YtdjhpajmbddffaaMp25
import Derived.Test.YtdjhpajmbddffaaTk9
set_option linter.unusedSimpArgs false
set_option linter.unusedVariables false
namespace Go.Proofs.Ytdjhpajmbddffaa
open Go.RowKit

theorem wp_look {P : Program} {o : Oper} {a : Go.Act} {w : World} {K : Go.Act → World → Prop} {Q : Exit → Go.Act → World → Prop} (ty : TypeId) (m k : Operand) (ok : Bool) (ho : o.op = .lookup ty m k ok) (mv kv v : Value) (hm : a.eval m = mv) (hk : a.eval k = kv)
    (hr : (Instr.lookup ty mv kv ok).run P w = .ok v w) (h : K (a.put o.dst v) w) : o.wp P a w K Q := by
  unfold Oper.wp execOp
  simp only [ho, hm, hk, Sem.run_bind, hr, Result.andThen_ok]
  exact h
theorem wpList_look {P : Program} {ops : Array Oper} {rest : List Oper} {o : Oper} {a : Go.Act} {w : World} {Q : Exit → Go.Act → World → Prop} (hg : o.guard = none) (ty : TypeId) (m k : Operand) (ok : Bool) (ho : o.op = .lookup ty m k ok) (mv kv v : Value) (hm : a.eval m = mv) (hk : a.eval k = kv)
    (hr : (Instr.lookup ty mv kv ok).run P w = .ok v w) (h : wpList P ops Q rest (a.put o.dst v) w) : wpList P ops Q (o :: rest) a w :=
  wpList_plain hg fun _ hK => wp_look ty m k ok ho mv kv v hm hk hr (hK _ _ h)
theorem look_y {P : Program} {ops : Array Oper} {S : World → Prop} {o : Oper} {a : Go.Act} (hw : Region.wanted o (yielded ops a.tmps) = true) (ty : TypeId) (m k : Operand) (ok : Bool) (ho : o.op = .lookup ty m k ok) (mv kv v : Value) (hm : a.eval m = mv) (hk : a.eval k = kv)
    (hr : ∀ w, S w → (Instr.lookup ty mv kv ok).run P w = .ok v w) : YieldsIf P ops S o v a :=
  .inl ⟨hw, fun w hw' => by
    unfold execOp
    simp only [ho, hm, hk, Sem.run_bind, hr w hw', Result.andThen_ok]
    rfl⟩
theorem wp_upd {P : Program} {o : Oper} {a : Go.Act} {w w1 : World} {K : Go.Act → World → Prop} {Q : Exit → Go.Act → World → Prop} (ty : TypeId) (m k v : Operand) (ho : o.op = .mapUpdate ty m k v) (mv kv vv : Value) (hm : a.eval m = mv) (hk : a.eval k = kv) (hv : a.eval v = vv)
    (hr : (Instr.mapUpdate ty mv kv vv).run P w = .ok () w1) (h : K (a.put o.dst undef) w1) : o.wp P a w K Q := by
  unfold Oper.wp execOp
  simp only [ho, hm, hk, hv, Sem.run_bind, hr, Result.andThen_ok]
  exact h
end Go.Proofs.Ytdjhpajmbddffaa
