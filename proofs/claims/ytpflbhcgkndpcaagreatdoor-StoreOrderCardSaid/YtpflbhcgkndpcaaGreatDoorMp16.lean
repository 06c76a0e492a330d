/- Stage 16: maps of pointers, keyed by texts, of one entry at most. -/
import Derived.Test.YtpflbhcgkndpcaaGreatDoorBut
import Derived.Test.YtpflbhcgkndpcaaGreatDoorTk9
import Derived.WideMake
import Derived.WideKeyRuns
import Derived.DeepKeys3
set_option linter.unusedSimpArgs false
set_option linter.unusedVariables false
namespace Go.Proofs.YtpflbhcgkndpcaaGreatDoor
open Go.RowKit

/-- A map at a block is another one. -/
def setMap (w : World) (r : Nat) (o : Obj) : World := { w with heap := w.heap.setIfInBounds r o }
theorem setMap_size (w : World) (r : Nat) (o : Obj) : (setMap w r o).heap.size = w.heap.size := by simp [setMap]
theorem setMap_but (w : World) (r : Nat) (o : Obj) : But (fun k => k = r) w (setMap w r o) :=
  ⟨rfl, rfl, rfl, by rw [setMap_size]; exact Nat.le_refl _, fun k hk hn => by
    show (w.heap.setIfInBounds r o)[k]? = w.heap[k]?
    rw [Array.getElem?_setIfInBounds_ne (fun e => hn e.symm)]⟩
theorem setMap_at {w : World} {r : Nat} (o : Obj) (h : r < w.heap.size) : (setMap w r o).heap[r]? = some o := by
  show (w.heap.setIfInBounds r o)[r]? = some o
  simp [h]
theorem map_but {w w' : World} {S : Nat → Prop} {r : Nat} {o : Obj} (h : w.heap[r]? = some o) (k : But S w w') (hn : ¬ S r) : w'.heap[r]? = some o := by
  have hlt : r < w.heap.size := (Array.getElem?_eq_some_iff.1 h).1
  rw [k.block r hlt hn]
  exact h
theorem str_beq25 (a b : ByteArray) : (a == b) = decide (a = b) := by
  obtain ⟨x⟩ := a
  obtain ⟨y⟩ := b
  show (x == y) = decide ((⟨x⟩ : ByteArray) = ⟨y⟩)
  rw [Bool.eq_iff_iff, beq_iff_eq, decide_eq_true_eq, ByteArray.mk.injEq]
/-- m[k] of an empty map, keyed by a text. -/
theorem look_none (w : World) (r c : Nat) (s : ByteArray) (h : w.heap[r]? = some (.map #[] c)) : (Instr.lookup 87 (.map (some r)) (.string s) false).run Tryz.prog w = .ok (.pointer none) w := by
  have hf : Instr.findNow .string (.string s) ([] : List MapEntry) 0 = some none := rfl
  have hc : (Instr.checkKey true 10000 9 (.string s)).run Tryz.prog w = .ok () w := MapKept.run_checkKey (k := .string s) Tryz.underlying9 (by simp [MapKept.IsKey]) true 9999
  have hz : (zeroValue 102).run Tryz.prog w = .ok (.pointer none) w := by kernel_rfl
  simp [Instr.lookup, run_underlying Tryz.underlying87, MapKept.run_getObj_map h, hc, MapKept.run_findKey Tryz.underlying9 hf, Result.andThen, hz]
/-- m[k] of a map with one entry, keyed by that text. -/
theorem look_one (w : World) (r c b : Nat) (s : ByteArray) (v : Value) (h : w.heap[r]? = some (.map #[⟨.string s, v, b⟩] c)) : (Instr.lookup 87 (.map (some r)) (.string s) false).run Tryz.prog w = .ok v w := by
  have hs : (s == s) = true := by rw [str_beq25]; simp
  have hf : Instr.findNow .string (.string s) [⟨.string s, v, b⟩] 0 = some (some (0, v)) := by simp [Instr.findNow, Instr.sameNow, hs]
  have hc : (Instr.checkKey false 10000 9 (.string s)).run Tryz.prog w = .ok () w := MapKept.run_checkKey (k := .string s) Tryz.underlying9 (by simp [MapKept.IsKey]) false 9999
  simp [Instr.lookup, run_underlying Tryz.underlying87, MapKept.run_getObj_map h, hc, MapKept.run_findKey Tryz.underlying9 hf, Result.andThen]
/-- m[k] = v of an empty map, keyed by a text. -/
theorem upd_none (w : World) (r c : Nat) (s : ByteArray) (v : Value) (h : w.heap[r]? = some (.map #[] c)) : (Instr.mapUpdate 87 (.map (some r)) (.string s) v).run Tryz.prog w = .ok () (setMap w r (.map #[⟨.string s, v, c⟩] (c + 1))) :=
  run_mapUpdate_first w 87 9 102 r c s v Tryz.underlying87 Tryz.underlying9 h
theorem run_mk (w : World) (ty : TypeId) : (Instr.makeMap ty none).run Tryz.prog w = .ok (.map (some w.heap.size)) (w.alloc (.map #[] 0)) := by
  simp [Instr.makeMap, newObj, go_sem]
  rfl
theorem wpList_mk {ops : Array Oper} {rest : List Oper} {o : Oper} {a : Go.Act} {w : World} {Q : Exit → Go.Act → World → Prop} (hg : o.guard = none) (ty : TypeId) (ho : o.op = .makeMap ty none)
    (h : wpList Tryz.prog ops Q rest (a.put o.dst (.map (some w.heap.size))) (w.alloc (.map #[] 0))) : wpList Tryz.prog ops Q (o :: rest) a w :=
  wpList_plain hg fun _ hK => by
    unfold Oper.wp execOp
    simp only [ho, Option.map_none, Sem.run_bind, run_mk, Result.andThen_ok]
    exact hK _ _ h
theorem wp_look {P : Program} {o : Oper} {a : Go.Act} {w : World} {K : Go.Act → World → Prop} {Q : Exit → Go.Act → World → Prop} (ty : TypeId) (m k : Operand) (ok : Bool) (ho : o.op = .lookup ty m k ok) (mv kv v : Value) (hm : a.eval m = mv) (hk : a.eval k = kv)
    (hr : (Instr.lookup ty mv kv ok).run P w = .ok v w) (h : K (a.put o.dst v) w) : o.wp P a w K Q := by
  unfold Oper.wp execOp
  simp only [ho, hm, hk, Sem.run_bind, hr, Result.andThen_ok]
  exact h
theorem wpList_look {P : Program} {ops : Array Oper} {rest : List Oper} {o : Oper} {a : Go.Act} {w : World} {Q : Exit → Go.Act → World → Prop} (hg : o.guard = none) (ty : TypeId) (m k : Operand) (ok : Bool) (ho : o.op = .lookup ty m k ok) (mv kv v : Value) (hm : a.eval m = mv) (hk : a.eval k = kv)
    (hr : (Instr.lookup ty mv kv ok).run P w = .ok v w) (h : wpList P ops Q rest (a.put o.dst v) w) : wpList P ops Q (o :: rest) a w :=
  wpList_plain hg fun _ hK => wp_look ty m k ok ho mv kv v hm hk hr (hK _ _ h)
theorem look_y {P : Program} {ops : Array Oper} {S : World → Prop} {o : Oper} {a : Go.Act} (hw : Region.wanted o (yielded ops a.tmps) = true) (ty : TypeId) (m k : Operand) (ok : Bool) (ho : o.op = .lookup ty m k ok) (mv kv v : Value) (hm : a.eval m = mv) (hk : a.eval k = kv)
    (hr : ∀ w, S w → (Instr.lookup ty mv kv ok).run P w = .ok v w) : YieldsIf P ops S o v a :=
  .inl ⟨hw, fun w hw' => by
    unfold execOp
    simp only [ho, hm, hk, Sem.run_bind, hr w hw', Result.andThen_ok]
    rfl⟩
theorem wp_upd {P : Program} {o : Oper} {a : Go.Act} {w w1 : World} {K : Go.Act → World → Prop} {Q : Exit → Go.Act → World → Prop} (ty : TypeId) (m k v : Operand) (ho : o.op = .mapUpdate ty m k v) (mv kv vv : Value) (hm : a.eval m = mv) (hk : a.eval k = kv) (hv : a.eval v = vv)
    (hr : (Instr.mapUpdate ty mv kv vv).run P w = .ok () w1) (h : K (a.put o.dst undef) w1) : o.wp P a w K Q := by
  unfold Oper.wp execOp
  simp only [ho, hm, hk, hv, Sem.run_bind, hr, Result.andThen_ok]
  exact h
end Go.Proofs.YtpflbhcgkndpcaaGreatDoor
