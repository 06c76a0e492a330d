/- Maps of many entries keyed by a snapshot's name. -/
import Derived.Test.YtdjhpajmbddffaaMg25
import Derived.Laws.StructEq
set_option linter.unusedSimpArgs false
set_option linter.unusedVariables false
namespace Go.Proofs.Ytdjhpajmbddffaa
open Go.RowKit

theorem eq_snap (a b a' b' : Int) (w : World) : (Op.equal 75 (.agg #[.int .i64 a, .int .i64 b]) (.agg #[.int .i64 a', .int .i64 b'])).run Try.prog w = .ok ((a == a') && (b == b')) w := by
  show (Op.equalIn (9999 + 1) 75 (.agg #[.int .i64 a, .int .i64 b]) (.agg #[.int .i64 a', .int .i64 b'])).run Try.prog w = _
  rw [run_equalIn_struct w 9999 75 _ _ (by kernel_rfl) (by kernel_rfl)]
  have p0 : ∀ (x y : Int), (part 3 #[.int .i64 x, .int .i64 y] 0).run Try.prog w = .ok (.int .i64 x) w := fun x y => by kernel_rfl
  have p1 : ∀ (x y : Int), (part 3 #[.int .i64 x, .int .i64 y] 1).run Try.prog w = .ok (.int .i64 y) w := fun x y => by kernel_rfl
  have e0 : ∀ (x y : Int), (Op.equalIn 9999 3 (.int .i64 x) (.int .i64 y)).run Try.prog w = .ok (x == y) w := fun x y => run_equalIn_int w 9998 3 .i64 .i64 x y Try.underlying3
  unfold Program.fieldsOf
  rw [Try.underlying75]
  simp [Op.eqFields, p0, p1, e0, Result.andThen]
  by_cases h1 : a = a' <;> by_cases h2 : b = b' <;> simp [h1, h2]
/-- An entry of the snapshots: node, number, stamp, when it was born. -/
structure Sn where
  a : Int
  n : Int
  tm : Int
  tc : Int
  b : Nat
def Sn.e (x : Sn) : MapEntry := ⟨.agg #[.int .i64 x.a, .int .i64 x.n], .agg #[.int .i64 x.tm, .int .i64 x.tc], x.b⟩
def fndS (a n : Int) : List Sn → Nat → Option (Nat × Sn)
  | [], _ => none
  | x :: t, i => if a = x.a ∧ n = x.n then some (i, x) else fndS a n t (i + 1)
theorem find_ask (a n : Int) (w : World) : ∀ (l : List Sn) (i : Nat), (Instr.findAsking 75 (.agg #[.int .i64 a, .int .i64 n]) (l.map Sn.e) i).run Try.prog w = .ok ((fndS a n l i).map fun x => (x.1, .agg #[.int .i64 x.2.tm, .int .i64 x.2.tc])) w
  | [], _ => rfl
  | x :: t, i => by
    have he := eq_snap a n x.a x.n w
    simp only [List.map_cons, Instr.findAsking, Sem.run_bind, Sn.e, he, Result.andThen_ok]
    by_cases h : a = x.a ∧ n = x.n
    · have hb : ((a == x.a) && (n == x.n)) = true := by simp [h.1, h.2]
      rw [hb]
      simp only [fndS, if_pos h]
      rfl
    · have hb : ((a == x.a) && (n == x.n)) = false := by
        rw [Bool.eq_false_iff]
        intro q
        simp at q
        exact h q
      rw [hb]
      simp only [fndS, if_neg h]
      exact find_ask a n w t (i + 1)
theorem find_snap (a n : Int) (w : World) (l : List Sn) : (Instr.findKey 75 (.agg #[.int .i64 a, .int .i64 n]) (l.map Sn.e)).run Try.prog w = .ok ((fndS a n l 0).map fun x => (x.1, .agg #[.int .i64 x.2.tm, .int .i64 x.2.tc])) w := by
  have h := find_ask a n w l 0
  cases l with
  | nil => simp [Instr.findKey, run_underlying Try.underlying75, Instr.findNow, Result.andThen, fndS]
  | cons x t =>
    have hn : ∀ d, Instr.findNow (.struct d) (.agg #[.int .i64 a, .int .i64 n]) ((x :: t).map Sn.e) 0 = none := fun d => rfl
    simp only [Instr.findKey, Sem.run_bind, run_underlying Try.underlying75, Result.andThen_ok, hn]
    exact h
/-- What snaps[a, n] tells. -/
def lkS (a n : Int) (l : List Sn) : Option (Int × Int) := (fndS a n l 0).map fun x => (x.2.tm, x.2.tc)
theorem look_sn (w : World) (r c : Nat) (a n : Int) (l : List Sn) (h : w.heap[r]? = some (.map (l.map Sn.e).toArray c)) : (Instr.lookup 63 (.map (some r)) (.agg #[.int .i64 a, .int .i64 n]) true).run Try.prog w = .ok (.tuple #[.agg #[.int .i64 ((lkS a n l).getD (0, 0)).1, .int .i64 ((lkS a n l).getD (0, 0)).2], .bool (lkS a n l).isSome]) w := by
  have hk := find_snap a n w l
  have hz : (zeroValue 32).run Try.prog w = .ok (.agg #[.int .i64 0, .int .i64 0]) w := by kernel_rfl
  unfold lkS
  cases hx : fndS a n l 0 with
  | none =>
    rw [hx] at hk
    simp [Instr.lookup, run_underlying Try.underlying63, MapKept.run_getObj_map h, chk_snap _ a n w, hk, Result.andThen, hz]
  | some x =>
    rw [hx] at hk
    simp [Instr.lookup, run_underlying Try.underlying63, MapKept.run_getObj_map h, chk_snap _ a n w, hk, Result.andThen]
theorem fndS_at {a n : Int} : ∀ {l : List Sn} {i j : Nat} {y : Sn}, fndS a n l i = some (j, y) → i ≤ j ∧ l[j - i]? = some y ∧ y.a = a ∧ y.n = n
  | x :: t, i, j, y, h => by
    unfold fndS at h
    split at h
    · rename_i hk
      injection h with h
      injection h with h1 h2
      subst h1 h2
      exact ⟨Nat.le_refl _, by simp, hk.1.symm, hk.2.symm⟩
    · obtain ⟨h1, hy, hk⟩ := fndS_at h
      refine ⟨by omega, ?_, hk⟩
      rw [show j - i = (j - (i + 1)) + 1 from by omega]
      simpa using hy
/-- The snapshots behind snaps[a, n] = stamp. -/
def updS (a n tm tc : Int) (l : List Sn) (c : Nat) : List Sn × Nat := match fndS a n l 0 with
  | none => (l ++ [⟨a, n, tm, tc, c⟩], c + 1)
  | some x => (l.set x.1 ⟨a, n, tm, tc, x.2.b⟩, c)
set_option maxRecDepth 10000 in
theorem upd_sn (w : World) (r c : Nat) (a n tm tc : Int) (l : List Sn) (h : w.heap[r]? = some (.map (l.map Sn.e).toArray c)) : (Instr.mapUpdate 63 (.map (some r)) (.agg #[.int .i64 a, .int .i64 n]) (.agg #[.int .i64 tm, .int .i64 tc])).run Try.prog w = .ok () (setMap w r (.map ((updS a n tm tc l c).1.map Sn.e).toArray (updS a n tm tc l c).2)) := by
  have hk := find_snap a n w l
  unfold updS
  cases hx : fndS a n l 0 with
  | none =>
    rw [hx] at hk
    simp [Instr.mapUpdate, run_underlying Try.underlying63, MapKept.run_getObj_map h, chk_snap _ a n w, hk, MapKept.run_setObj_map _ h, Result.andThen, setMap]
    simp [Sn.e]
  | some x =>
    obtain ⟨i, y⟩ := x
    rw [hx] at hk
    obtain ⟨_, hy, ha, hn⟩ := fndS_at hx
    rw [Nat.sub_zero] at hy
    have hil := (List.getElem?_eq_some_iff.1 hy).1
    have hye := (List.getElem?_eq_some_iff.1 hy).2
    have hm : (l.map Sn.e).toArray.modify i (fun e => { e with key := .agg #[.int .i64 a, .int .i64 n], val := .agg #[.int .i64 tm, .int .i64 tc] }) = ((l.set i (Sn.mk a n tm tc y.b)).map Sn.e).toArray := by
      apply Array.ext_getElem?
      intro j
      rw [Array.getElem?_modify]
      by_cases hj : i = j
      · subst hj
        simp [hil, Sn.e, hye]
      · simp [hj, List.getElem?_set_ne hj]
    have hkk : (Instr.keyThatStays (.agg #[.int .i64 a, .int .i64 n]) (.agg #[.int .i64 a, .int .i64 n])).run Try.prog w = .ok (.agg #[.int .i64 a, .int .i64 n]) w := by
      simp [Instr.keyThatStays, Instr.sameBits]
    have hold : (((l.map Sn.e).toArray[i]?).map (·.key)).getD (.agg #[.int .i64 a, .int .i64 n]) = .agg #[.int .i64 a, .int .i64 n] := by
      simp [hy, Sn.e, ha, hn]
    have hset := MapKept.run_setObj_map (P := Try.prog) (.map ((l.set i (Sn.mk a n tm tc y.b)).map Sn.e).toArray c) h
    have hk' : (Instr.findKey 75 (.agg #[.int .i64 a, .int .i64 n]) (l.map Sn.e)).run Try.prog w = .ok (some (i, .agg #[.int .i64 y.tm, .int .i64 y.tc])) w := hk
    unfold Instr.mapUpdate
    simp only [Sem.run_bind, run_underlying Try.underlying63, Result.andThen_ok, MapKept.run_getObj_map h, chk_snap _ a n w, hk', hold, hkk, hm, hset]
    rfl
end Go.Proofs.Ytdjhpajmbddffaa
