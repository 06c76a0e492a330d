/- Maps of many entries that the call makes: keyed by a text, keyed by two numbers. -/
import Derived.Test.YtdjhpajmbddffaaMp25
import Derived.Test.YtdjhpajmbddffaaMw25
set_option linter.unusedSimpArgs false
set_option linter.unusedVariables false
namespace Go.Proofs.Ytdjhpajmbddffaa
open Go.RowKit

/-- An entry: its key, its value, when it was born. -/
structure En where
  k : ByteArray
  v : Value
  b : Nat
def En.e (x : En) : MapEntry := ⟨.string x.k, x.v, x.b⟩
def fndE (s : ByteArray) : List En → Nat → Option (Nat × Value)
  | [], _ => none
  | x :: t, i => if s = x.k then some (i, x.v) else fndE s t (i + 1)
theorem find_now (s : ByteArray) : ∀ (l : List En) (i : Nat), Instr.findNow .string (.string s) (l.map En.e) i = some (fndE s l i)
  | [], _ => rfl
  | x :: t, i => by
    have hs : Instr.sameNow .string (.string s) x.e.key = some (s == x.k) := rfl
    show (match Instr.sameNow .string (.string s) x.e.key with | some true => some (some (i, x.e.val)) | some false => Instr.findNow .string (.string s) (t.map En.e) (i + 1) | none => none) = _
    rw [hs, str_beq25]
    by_cases h : s = x.k
    · rw [decide_eq_true h]
      show some (some (i, x.v)) = some (if s = x.k then some (i, x.v) else fndE s t (i + 1))
      rw [if_pos h]
    · rw [decide_eq_false h]
      show Instr.findNow .string (.string s) (t.map En.e) (i + 1) = some (if s = x.k then some (i, x.v) else fndE s t (i + 1))
      rw [if_neg h]
      exact find_now s t (i + 1)
/-- What m[s] tells. -/
def lkE (s : ByteArray) (l : List En) : Value := match fndE s l 0 with
  | none => .slice none 0 0
  | some x => x.2
theorem look_any (w : World) (r c : Nat) (s : ByteArray) (l : List En) (h : w.heap[r]? = some (.map (l.map En.e).toArray c)) : (Instr.lookup 62 (.map (some r)) (.string s) false).run Try.prog w = .ok (lkE s l) w := by
  have hf := find_now s l 0
  have hc : ∀ b, (Instr.checkKey b 10000 9 (.string s)).run Try.prog w = .ok () w := fun b => MapKept.run_checkKey (k := .string s) Try.underlying9 (by simp [MapKept.IsKey]) b 9999
  have hz : (zeroValue 24).run Try.prog w = .ok (.slice none 0 0) w := by kernel_rfl
  unfold lkE
  cases hx : fndE s l 0 with
  | none =>
    rw [hx] at hf
    simp [Instr.lookup, run_underlying Try.underlying62, MapKept.run_getObj_map h, hc, MapKept.run_findKey Try.underlying9 hf, Result.andThen, hz]
  | some x =>
    obtain ⟨i, v⟩ := x
    rw [hx] at hf
    simp [Instr.lookup, run_underlying Try.underlying62, MapKept.run_getObj_map h, hc, MapKept.run_findKey Try.underlying9 hf, Result.andThen]
theorem fndE_at {s : ByteArray} : ∀ {l : List En} {i j : Nat} {v : Value}, fndE s l i = some (j, v) → i ≤ j ∧ ∃ x, l[j - i]? = some x ∧ x.k = s ∧ x.v = v
  | x :: t, i, j, v, h => by
    unfold fndE at h
    split at h
    · rename_i hk
      injection h with h
      injection h with h1 h2
      subst h1
      exact ⟨Nat.le_refl _, x, by simp, hk.symm, h2⟩
    · obtain ⟨h1, y, hy, hk, hv⟩ := fndE_at h
      refine ⟨by omega, y, ?_, hk, hv⟩
      rw [show j - i = (j - (i + 1)) + 1 from by omega]
      simpa using hy
theorem fndE_none {s : ByteArray} : ∀ {l : List En} {i : Nat}, fndE s l i = none → ∀ x ∈ l, x.k ≠ s
  | x :: t, i, h, y, hy => by
    unfold fndE at h
    split at h
    · cases h
    · rename_i hk
      rcases List.mem_cons.1 hy with q | q
      · rw [q]; exact fun e => hk e.symm
      · exact fndE_none h y q
/-- m[s] = v where s is not there. -/
theorem upd_new (w : World) (r c : Nat) (s : ByteArray) (v : Value) (l : List En) (h : w.heap[r]? = some (.map (l.map En.e).toArray c)) (hn : fndE s l 0 = none) : (Instr.mapUpdate 62 (.map (some r)) (.string s) v).run Try.prog w = .ok () (setMap w r (.map ((l ++ [En.mk s v c]).map En.e).toArray (c + 1))) := by
  have hf := find_now s l 0
  rw [hn] at hf
  have hc : ∀ b, (Instr.checkKey b 10000 9 (.string s)).run Try.prog w = .ok () w := fun b => MapKept.run_checkKey (k := .string s) Try.underlying9 (by simp [MapKept.IsKey]) b 9999
  simp [Instr.mapUpdate, run_underlying Try.underlying62, MapKept.run_getObj_map h, hc, MapKept.run_findKey Try.underlying9 hf, MapKept.run_setObj_map _ h, Result.andThen, setMap]
  simp [En.e]
set_option maxRecDepth 10000 in
/-- m[s] = v where s stands at i. -/
theorem upd_old (w : World) (r c : Nat) (s : ByteArray) (v v0 : Value) (l : List En) (i : Nat) (x : En) (h : w.heap[r]? = some (.map (l.map En.e).toArray c)) (hn : fndE s l 0 = some (i, v0)) (hx : l[i]? = some x) : (Instr.mapUpdate 62 (.map (some r)) (.string s) v).run Try.prog w = .ok () (setMap w r (.map ((l.set i (En.mk s v x.b)).map En.e).toArray c)) := by
  have hf := find_now s l 0
  rw [hn] at hf
  obtain ⟨_, y, hy, hk, _⟩ := fndE_at hn
  rw [Nat.sub_zero, hx] at hy
  injection hy with hy
  subst hy
  have hc : ∀ b, (Instr.checkKey b 10000 9 (.string s)).run Try.prog w = .ok () w := fun b => MapKept.run_checkKey (k := .string s) Try.underlying9 (by simp [MapKept.IsKey]) b 9999
  have hil := (List.getElem?_eq_some_iff.1 hx).1
  have hxe := (List.getElem?_eq_some_iff.1 hx).2
  have hm : (l.map En.e).toArray.modify i (fun e => { e with key := .string s, val := v }) = ((l.set i (En.mk s v x.b)).map En.e).toArray := by
    apply Array.ext_getElem?
    intro j
    rw [Array.getElem?_modify]
    by_cases hj : i = j
    · subst hj
      simp [hil, En.e, hxe]
    · simp [hj, List.getElem?_set_ne hj]
  have hkk : (Instr.keyThatStays (.string s) (.string s)).run Try.prog w = .ok (.string s) w := by
    have hss : (s == s) = true := by rw [str_beq25]; simp
    simp [Instr.keyThatStays, Instr.sameBits, hss]
  have hold : (((l.map En.e).toArray[i]?).map (·.key)).getD (.string s) = .string s := by
    simp [hx, En.e, hk]
  have hfk := MapKept.run_findKey (P := Try.prog) (w := w) Try.underlying9 hf
  have hset := MapKept.run_setObj_map (P := Try.prog) (.map ((l.set i (En.mk s v x.b)).map En.e).toArray c) h
  unfold Instr.mapUpdate
  simp only [Sem.run_bind, run_underlying Try.underlying62, Result.andThen_ok, MapKept.run_getObj_map h, hc, hfk, hold, hkk, hm, hset]
  rfl
end Go.Proofs.Ytdjhpajmbddffaa
