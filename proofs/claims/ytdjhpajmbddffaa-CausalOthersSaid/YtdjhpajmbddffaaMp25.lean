/- Maps that the call makes, of one entry at most: what makeMap, lookup and mapUpdate do. -/
import Derived.Test.YtdjhpajmbddffaaBut
import Derived.Test.YtdjhpajmbddffaaLaw
import Derived.WideMake
import Derived.WideKeyRuns
import Derived.DeepKeys3
set_option linter.unusedSimpArgs false
set_option linter.unusedVariables false
namespace Go.Proofs.Ytdjhpajmbddffaa
open Go.RowKit

/-- A map at a block is another one. -/
def setMap (w : World) (r : Nat) (o : Obj) : World := { w with heap := w.heap.setIfInBounds r o }
theorem setMap_size (w : World) (r : Nat) (o : Obj) : (setMap w r o).heap.size = w.heap.size := by simp [setMap]
theorem setMap_but (w : World) (r : Nat) (o : Obj) : But (fun k => k = r) w (setMap w r o) :=
  ⟨rfl, rfl, rfl, by rw [setMap_size]; exact Nat.le_refl _, fun k hk hn => by
    show (w.heap.setIfInBounds r o)[k]? = w.heap[k]?
    rw [Array.getElem?_setIfInBounds_ne (fun e => hn e.symm)]⟩
theorem setMap_at {w : World} {r : Nat} (o : Obj) (h : r < w.heap.size) : (setMap w r o).heap[r]? = some o := by
  show (w.heap.setIfInBounds r o)[r]? = some o
  simp [h]
theorem map_but {w w' : World} {S : Nat → Prop} {r : Nat} {o : Obj} (h : w.heap[r]? = some o) (k : But S w w') (hn : ¬ S r) : w'.heap[r]? = some o := by
  have hlt : r < w.heap.size := (Array.getElem?_eq_some_iff.1 h).1
  rw [k.block r hlt hn]
  exact h
theorem str_beq25 (a b : ByteArray) : (a == b) = decide (a = b) := by
  obtain ⟨x⟩ := a
  obtain ⟨y⟩ := b
  show (x == y) = decide ((⟨x⟩ : ByteArray) = ⟨y⟩)
  rw [Bool.eq_iff_iff, beq_iff_eq, decide_eq_true_eq, ByteArray.mk.injEq]
/-- m[k] of an empty map, keyed by a text. -/
theorem look_none (w : World) (r c : Nat) (s : ByteArray) (h : w.heap[r]? = some (.map #[] c)) : (Instr.lookup 62 (.map (some r)) (.string s) false).run Try.prog w = .ok (.slice none 0 0) w := by
  have hf : Instr.findNow .string (.string s) ([] : List MapEntry) 0 = some none := rfl
  have hc : (Instr.checkKey true 10000 9 (.string s)).run Try.prog w = .ok () w := MapKept.run_checkKey (k := .string s) Try.underlying9 (by simp [MapKept.IsKey]) true 9999
  have hz : (zeroValue 24).run Try.prog w = .ok (.slice none 0 0) w := by kernel_rfl
  simp [Instr.lookup, run_underlying Try.underlying62, MapKept.run_getObj_map h, hc, MapKept.run_findKey Try.underlying9 hf, Result.andThen, hz]
/-- m[k] of a map with one entry, keyed by that text. -/
theorem look_one (w : World) (r c b : Nat) (s : ByteArray) (v : Value) (h : w.heap[r]? = some (.map #[⟨.string s, v, b⟩] c)) : (Instr.lookup 62 (.map (some r)) (.string s) false).run Try.prog w = .ok v w := by
  have hs : (s == s) = true := by rw [str_beq25]; simp
  have hf : Instr.findNow .string (.string s) [⟨.string s, v, b⟩] 0 = some (some (0, v)) := by simp [Instr.findNow, Instr.sameNow, hs]
  have hc : (Instr.checkKey false 10000 9 (.string s)).run Try.prog w = .ok () w := MapKept.run_checkKey (k := .string s) Try.underlying9 (by simp [MapKept.IsKey]) false 9999
  simp [Instr.lookup, run_underlying Try.underlying62, MapKept.run_getObj_map h, hc, MapKept.run_findKey Try.underlying9 hf, Result.andThen]
/-- m[k] = v of an empty map, keyed by a text. -/
theorem upd_none (w : World) (r c : Nat) (s : ByteArray) (v : Value) (h : w.heap[r]? = some (.map #[] c)) : (Instr.mapUpdate 62 (.map (some r)) (.string s) v).run Try.prog w = .ok () (setMap w r (.map #[⟨.string s, v, c⟩] (c + 1))) :=
  run_mapUpdate_first w 62 9 24 r c s v Try.underlying62 Try.underlying9 h
theorem chk_snap (e : Bool) (a b : Int) (w : World) : (Instr.checkKey e 10000 75 (.agg #[.int .i64 a, .int .i64 b])).run Try.prog w = .ok () w := by
  have hi : ∀ (n : Nat) (x : Int), (Instr.checkKey e (n + 1) 3 (.int .i64 x)).run Try.prog w = .ok () w := fun n x => MapKept.run_checkKey (k := .int .i64 x) Try.underlying3 (by simp [MapKept.IsKey]) e n
  have p0 : (part 3 #[.int .i64 a, .int .i64 b] 0).run Try.prog w = .ok (.int .i64 a) w := by kernel_rfl
  have p1 : (part 3 #[.int .i64 a, .int .i64 b] 1).run Try.prog w = .ok (.int .i64 b) w := by kernel_rfl
  unfold Instr.checkKey
  simp [run_underlying Try.underlying75, Result.andThen, p0, p1, hi]
/-- m[k] = v of an empty map, keyed by a snapshot's name. -/
theorem upd_snap (w : World) (r c : Nat) (a b : Int) (v : Value) (h : w.heap[r]? = some (.map #[] c)) : (Instr.mapUpdate 63 (.map (some r)) (.agg #[.int .i64 a, .int .i64 b]) v).run Try.prog w = .ok () (setMap w r (.map #[⟨.agg #[.int .i64 a, .int .i64 b], v, c⟩] (c + 1))) := by
  have hk : (Instr.findKey 75 (.agg #[.int .i64 a, .int .i64 b]) []).run Try.prog w = .ok none w := by
    simp [Instr.findKey, run_underlying Try.underlying75, Instr.findNow, Result.andThen]
  simp [Instr.mapUpdate, run_underlying Try.underlying63, MapKept.run_getObj_map h, chk_snap false a b w, hk, MapKept.run_setObj_map _ h, Result.andThen, setMap]
/-- v, ok := m[k] of a map with one entry, keyed by that snapshot's name. -/
theorem look_snap (w : World) (r c b0 : Nat) (v : Value) (h : w.heap[r]? = some (.map #[⟨.agg #[.int .i64 0, .int .i64 0], v, b0⟩] c)) : (Instr.lookup 63 (.map (some r)) (.agg #[.int .i64 0, .int .i64 0]) true).run Try.prog w = .ok (.tuple #[v, .bool true]) w := by
  have he : (Op.equal 75 (.agg #[.int .i64 0, .int .i64 0]) (.agg #[.int .i64 0, .int .i64 0])).run Try.prog w = .ok true w := by kernel_rfl
  have hk : (Instr.findKey 75 (.agg #[.int .i64 0, .int .i64 0]) [⟨.agg #[.int .i64 0, .int .i64 0], v, b0⟩]).run Try.prog w = .ok (some (0, v)) w := by
    simp [Instr.findKey, run_underlying Try.underlying75, Instr.findNow, Instr.sameNow, Instr.findAsking, he, Result.andThen]
  simp [Instr.lookup, run_underlying Try.underlying63, MapKept.run_getObj_map h, chk_snap false 0 0 w, hk, Result.andThen]
end Go.Proofs.Ytdjhpajmbddffaa
