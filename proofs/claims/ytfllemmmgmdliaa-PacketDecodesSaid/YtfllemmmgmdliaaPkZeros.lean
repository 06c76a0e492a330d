/- An append of noughts onto a row of bytes. -/
import Derived.Test.YtfllemmmgmdliaaPkKnown
import Derived.Test.YtfllemmmgmdliaaLaw
import Derived.Laws.AppendOwn
import Derived.Laws.OwnMore
import Derived.Lib.AppendZerosOnto
import Derived.Deep.AppendLies
set_option linter.unusedSimpArgs false
set_option linter.unusedVariables false
namespace Go.Proofs.Ytfllemmmgmdliaa
open Go.ChangeShapes Go.WideShapes Go.ChangeAt Go.RowKit Go.Joins

theorem u8_info : (Try.prog.info? 5).map (fun i => (i.zero, i.size, i.bytes)) = some (some (.int .u8 0), 1, 1) := by kernel_rfl
def bytesC (f : Nat → Int) (n : Nat) : List Value := (List.range n).map fun j => .int .u8 (f j)
theorem bytesC_len (f : Nat → Int) (n : Nat) : (bytesC f n).length = n := by simp [bytesC]
theorem bytesC_succ (f : Nat → Int) (n : Nat) : bytesC f (n + 1) = bytesC f n ++ [.int .u8 (f n)] := by simp [bytesC, List.range_succ]
theorem bytesC_at (f : Nat → Int) (n j : Nat) (h : j < n) : (bytesC f n)[j]? = some (.int .u8 (f j)) := by simp [bytesC, h]
theorem bytesC_congr {f f' : Nat → Int} {n : Nat} (h : ∀ j, j < n → f j = f' j) : bytesC f n = bytesC f' n := by
  unfold bytesC
  apply List.map_congr_left
  intro j hj
  rw [h j (by simpa using hj)]
/-- A row of bytes that the call owns. -/
def BOwn (base : Nat) (W : World) (v : Value) (n : Nat) (f : Nat → Int) : Prop := W.ownsRow base 5 1 v n (bytesC f n)
theorem BOwn.congr {base : Nat} {W : World} {v : Value} {n : Nat} {f f' : Nat → Int} (h : BOwn base W v n f) (e : ∀ j, j < n → f j = f' j) : BOwn base W v n f' := by unfold BOwn; rw [← bytesC_congr e]; exact h
theorem BOwn.bytes {base : Nat} {W : World} {v : Value} {n : Nat} {f : Nat → Int} (h : BOwn base W v n f) : ∃ A c, v = .slice A n c ∧ BytesAt W A n f := by
  have hc0 := fun g hg => World.ownsRow.cells h (g := g) hg
  rcases h.2 with ⟨rfl, h0⟩ | ⟨g, cap, cur, rfl, hb', hh, _⟩
  · exact ⟨none, 0, by rw [h0], fun hn => absurd hn (by omega)⟩
  · refine ⟨_, _, rfl, fun hn => ⟨g, 0, rfl, (World.ownsRow.lt h g rfl).2, fun j hj => ?_⟩⟩
    have := hc0 g rfl j _ (bytesC_at f n j hj)
    rwa [show (Addr.mk g 0 none).add j = ⟨g, 0 + j, none⟩ from add_plain _ _ _] at this
/-- k noughts more. -/
theorem run_append_zeros (w : World) (base : Nat) (v : Value) (n k : Nat) (f : Nat → Int) (t tn ty : TypeId) (ht : Try.prog.underlying t = some (.slice 5)) (htn : Try.prog.underlying tn = some (.int .i64)) (h : BOwn base w v n f) (hb : base ≤ w.heap.size) (hn : n ≤ 1000) (hn0 : 0 < n) (hk0 : 0 < k) (hk : k ≤ 1000) :
    ∃ v' w', (Builtin.append_ #[t, tn] ty #[v, .int .i64 k]).run Try.prog w = .ok v' w' ∧ BOwn base w' v' (n + k) (fun j => if j < n then f j else 0) ∧ w.grownBy w' v.ownBlock := by
  obtain ⟨i, hi, hz, hs, hby⟩ := info_parts u8_info
  have hlen : (bytesC (fun j => if j < n then f j else 0) (n + k)).length = (n + k) * 1 := by rw [bytesC_len]; omega
  have hcells : bytesC (fun j => if j < n then f j else 0) (n + k) = bytesC f n ++ List.replicate k (.int .u8 0) := by
    apply List.ext_getElem?
    intro j
    rcases Nat.lt_or_ge j n with q | q
    · rw [bytesC_at _ _ _ (by omega), List.getElem?_append_left (by rw [bytesC_len]; exact q), bytesC_at _ _ _ q, if_pos q]
    · rw [List.getElem?_append_right (by rw [bytesC_len]; exact q), bytesC_len]
      rcases Nat.lt_or_ge j (n + k) with r | r
      · rw [bytesC_at _ _ _ r, if_neg (by omega), List.getElem?_replicate, if_pos (by omega)]
      · rw [List.getElem?_eq_none (by rw [bytesC_len]; exact r), List.getElem?_replicate, if_neg (by omega)]
  have hzc : (Builtin.zeroCells (Value.int .u8 0).cells k).toList = List.replicate k (.int .u8 0) := by
    apply List.ext_getElem
    · simp [Builtin.zeroCells, Value.cells]
    · intro j h1 h2
      simp [Builtin.zeroCells, Value.cells, Nat.mod_one]
  rcases h.2 with ⟨rfl, h0⟩ | ⟨g, cap, cur, rfl, hbg, hg, hnc, hcm, hcs, htake⟩
  · omega
  · by_cases hroom : n + k ≤ cap
    · have hw : IntKind.i64.wrap (k : Int) = k := by rw [IntKind.wrap_i64]; omega
      have hneg : ¬ ((k : Int) < 0) := by omega
      have h48i : ¬ (281474976710656 < (k : Int) * (i.bytes : Int)) := by rw [hby]; omega
      have hfit : n + (List.replicate k (Value.int .u8 0)).length ≤ cur.size := by simp; omega
      have hst := run_storeCells_at Try.prog g n 5 (List.replicate k (Value.int .u8 0)) 0 cur w hg (by simpa using hfit) (by intro u hu; simp at hu; rw [hu.2]; rfl)
      simp only [Nat.add_zero] at hst
      have hns : ¬ (k = 0) := by omega
      refine ⟨.slice (some ⟨g, 0, none⟩) (n + k) cap, w.setRow g (cur.toList.take n ++ List.replicate k (Value.int .u8 0) ++ cur.toList.drop (n + k)).toArray, ?_, ⟨hlen, .inr ⟨g, cap, _, rfl, hbg, setRow_heap w g cur _ 5 _ hg, hroom, hcm, ?_, ?_⟩⟩, ⟨rfl, rfl, rfl, by simp, fun q _ hq => setRow_other w g q _ (fun e => hq (by simp [Value.ownBlock, e]))⟩⟩
      · simp [Builtin.append_, run_underlying ht, run_underlying htn, sizeOf, typeInfo, zeroValue, hi, hz, hs, asInt, asIntOf, hw, hneg, h48i, hroom, hns, Addr.add_lit, hzc, hst]
      · simp only [List.size_toArray, List.length_append, List.length_take, List.length_drop, Array.length_toList, List.length_replicate]
        omega
      · have ht2 : cur.toList.take n = bytesC f n := by rw [← htake, Nat.mul_one]
        rw [hcells, ht2]
        have : (n + k) * 1 = (bytesC f n ++ List.replicate k (Value.int .u8 0)).length := by rw [List.length_append, bytesC_len, List.length_replicate]; omega
        rw [this]
        exact List.take_left
    · have hold := run_firstCells_some (P := Try.prog) w.drew i.size n ⟨g, 0, none⟩ n cap (bytesC f n) (by rw [bytesC_len, hs]; omega) (by have := World.ownsRow.cells h (g := g) rfl; simpa using this)
      have hr := Lib.run_append_grow_zeros (P := Try.prog) w t tn ty 5 i (.int .u8 0) .i64 .i64 ht htn hi hz (some ⟨g, 0, none⟩) n cap (bytesC f n) hold k hk0 (by rw [hs]; omega) (by omega) (by omega) (by rw [hby]; omega) (growslice_fits (by omega) (by rw [hby]; omega))
      have hge := grownCap_ge w (n + k) cap 5
      have hcm2 : grownCap w (n + k) cap 5 ≤ maxLen := grownCap_le_maxLen w (n + k) cap 5 (by unfold maxLen; omega)
      refine ⟨_, _, hr, ⟨hlen, .inr ⟨w.heap.size, _, _, rfl, hb, heap_alloc_new w.drew _, hge, hcm2, ?_, ?_⟩⟩, ⟨rfl, rfl, rfl, by simp, fun q hq hn => (World.grownBy_alloc w.drew _ _).block q hq hn⟩⟩
      · simp only [Array.size_append, List.size_toArray, size_zeroCells, bytesC_len]
        simp [Value.cells]
        omega
      · rw [hcells]
        simp only [Array.toList_append, List.append_assoc]
        rw [hzc, ← List.append_assoc]
        have : (n + k) * 1 = (bytesC f n ++ List.replicate k (Value.int .u8 0)).length := by rw [List.length_append, bytesC_len, List.length_replicate]; omega
        rw [this]
        exact List.take_left
end Go.Proofs.Ytfllemmmgmdliaa
