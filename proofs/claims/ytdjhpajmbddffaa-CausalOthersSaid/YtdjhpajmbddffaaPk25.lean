/- Stage 25: what Check keeps while it walks (written by gen/ck25.py). -/
import Derived.Test.YtdjhpajmbddffaaMk25
set_option linter.unusedSimpArgs false
set_option linter.unusedVariables false
namespace Go.Proofs.Ytdjhpajmbddffaa
open Go.RowKit

/-- What Check keeps: the keys, the map of writes, the map of snapshots. -/
structure Pk (kb r1 r2 : Nat) (V : World) (K0 : Value) (m1 m2 : Obj) : Prop where
  c0 : V.cell? ⟨kb, 0, none⟩ = some K0
  c1 : V.cell? ⟨kb, 1, none⟩ = some (.map (some r1))
  c2 : V.cell? ⟨kb, 2, none⟩ = some (.map (some r2))
  f0 : V.frozen? ⟨kb, 0, none⟩ = false
  h1 : V.heap[r1]? = some m1
  h2 : V.heap[r2]? = some m2
  lt : kb < V.heap.size
theorem Pk.below {kb r1 r2 : Nat} {V V' : World} {K0 : Value} {m1 m2 : Obj} (h : Pk kb r1 r2 V K0 m1 m2) (k : Below V.heap.size V V') : Pk kb r1 r2 V' K0 m1 m2 :=
  ⟨(k.cell (p := ⟨kb, 0, none⟩) h.lt).trans h.c0, (k.cell (p := ⟨kb, 1, none⟩) h.lt).trans h.c1, (k.cell (p := ⟨kb, 2, none⟩) h.lt).trans h.c2, (k.frozen (p := ⟨kb, 0, none⟩) h.lt).trans h.f0,
    map_but (S := fun _ => False) h.h1 (But.of_below k) (fun h => h), map_but (S := fun _ => False) h.h2 (But.of_below k) (fun h => h), Nat.lt_of_lt_of_le h.lt k.size⟩
theorem Pk.l1 {kb r1 r2 : Nat} {V : World} {K0 : Value} {m1 m2 : Obj} (h : Pk kb r1 r2 V K0 m1 m2) : r1 < V.heap.size := (Array.getElem?_eq_some_iff.1 h.h1).1
theorem Pk.l2 {kb r1 r2 : Nat} {V : World} {K0 : Value} {m1 m2 : Obj} (h : Pk kb r1 r2 V K0 m1 m2) : r2 < V.heap.size := (Array.getElem?_eq_some_iff.1 h.h2).1
/-- A map is another one. -/
theorem Pk.map1 {kb r1 r2 : Nat} {V V' : World} {K0 : Value} {m1 m2 m : Obj} (h : Pk kb r1 r2 V K0 m1 m2) (k : But (fun i => i = r1) V V') (hm : V'.heap[r1]? = some m) (n1 : kb ≠ r1) (n2 : r2 ≠ r1) : Pk kb r1 r2 V' K0 m m2 :=
  ⟨(k.cell kb 0 h.lt n1).trans h.c0, (k.cell kb 1 h.lt n1).trans h.c1, (k.cell kb 2 h.lt n1).trans h.c2, (k.frozen kb 0 h.lt n1).trans h.f0, hm, map_but h.h2 k n2, Nat.lt_of_lt_of_le h.lt k.size⟩
theorem Pk.map2 {kb r1 r2 : Nat} {V V' : World} {K0 : Value} {m1 m2 m : Obj} (h : Pk kb r1 r2 V K0 m1 m2) (k : But (fun i => i = r2) V V') (hm : V'.heap[r2]? = some m) (n1 : kb ≠ r2) (n2 : r1 ≠ r2) : Pk kb r1 r2 V' K0 m1 m :=
  ⟨(k.cell kb 0 h.lt n1).trans h.c0, (k.cell kb 1 h.lt n1).trans h.c1, (k.cell kb 2 h.lt n1).trans h.c2, (k.frozen kb 0 h.lt n1).trans h.f0, map_but h.h1 k n2, hm, Nat.lt_of_lt_of_le h.lt k.size⟩
theorem Pk.keys {kb r1 r2 : Nat} {V : World} {K0 K1 : Value} {m1 m2 : Obj} (h : Pk kb r1 r2 V K0 m1 m2) (n1 : r1 ≠ kb) (n2 : r2 ≠ kb) : Pk kb r1 r2 (V.setCell ⟨kb, 0, none⟩ K1) K1 m1 m2 := by
  have O : Only kb V (V.setCell ⟨kb, 0, none⟩ K1) := (Only.refl _ _).setB _
  have hb := But.of_only (S := fun k => k = kb) O rfl
  exact ⟨World.cell?_setCell_same V _ _ h.c0, (World.cell?_setCell_other V _ ⟨kb, 1, none⟩ _ (by simp)).trans h.c1, (World.cell?_setCell_other V _ ⟨kb, 2, none⟩ _ (by simp)).trans h.c2, by simpa using h.f0, map_but h.h1 hb n1, map_but h.h2 hb n2, Nat.lt_of_lt_of_le h.lt O.size⟩
theorem pk_new (w : World) (t : TypeId) : Pk (w.heap.size + 1 + 1) w.heap.size (w.heap.size + 1) (((w.alloc (.map #[] 0)).alloc (.map #[] 0)).alloc (.cells #[.slice none 0 0, .map (some w.heap.size), .map (some (w.heap.size + 1))] t)) (.slice none 0 0) (.map #[] 0) (.map #[] 0) := by
  have z1 : (w.alloc (.map #[] 0)).heap.size = w.heap.size + 1 := by simp
  have z2 : ((w.alloc (.map #[] 0)).alloc (.map #[] 0)).heap.size = w.heap.size + 1 + 1 := by simp
  have g0 := range_new ((w.alloc (.map #[] 0)).alloc (.map #[] 0)) [.slice none 0 0, .map (some w.heap.size), .map (some (w.heap.size + 1))] t
  have k2 : Below (w.alloc (.map #[] 0)).heap.size (w.alloc (.map #[] 0)) ((w.alloc (.map #[] 0)).alloc (.map #[] 0)) := (Below.refl _ _).alloc (Nat.le_refl _) _
  have k3 : Below ((w.alloc (.map #[] 0)).alloc (.map #[] 0)).heap.size ((w.alloc (.map #[] 0)).alloc (.map #[] 0)) (((w.alloc (.map #[] 0)).alloc (.map #[] 0)).alloc (.cells #[.slice none 0 0, .map (some w.heap.size), .map (some (w.heap.size + 1))] t)) := (Below.refl _ _).alloc (Nat.le_refl _) _
  have h1 := map_but (S := fun _ => False) (map_but (S := fun _ => False) (heap_alloc_last w (.map #[] 0)) (But.of_below k2) (fun h => h)) (But.of_below k3) (fun h => h)
  have h2 := map_but (S := fun _ => False) (heap_alloc_last (w.alloc (.map #[] 0)) (.map #[] 0)) (But.of_below k3) (fun h => h)
  have hf : (((w.alloc (.map #[] 0)).alloc (.map #[] 0)).alloc (.cells #[.slice none 0 0, .map (some w.heap.size), .map (some (w.heap.size + 1))] t)).frozen? ⟨((w.alloc (.map #[] 0)).alloc (.map #[] 0)).heap.size, 0, none⟩ = false := ((there_new ((w.alloc (.map #[] 0)).alloc (.map #[] 0)) #[.slice none 0 0, .map (some w.heap.size), .map (some (w.heap.size + 1))] t) 0 (by simp)).2
  rw [z2] at g0 hf
  rw [z1] at h2
  exact ⟨g0 0 _ rfl, g0 1 _ rfl, g0 2 _ rfl, hf, h1, h2, by simp⟩
theorem st_string : (Try.prog.info? 9).map (fun i => (i.zero, i.size, i.bytes)) = some (some (.string ⟨#[]⟩), 1, 16) := by kernel_rfl
theorem wr_size : (Try.prog.info? 37).map (·.size) = some 9 := by kernel_rfl
theorem grown25 {w w' : World} {v : Value} (hg : w.grownBy w' v.ownBlock) (hv : v = .slice none 0 0) : Below w.heap.size w w' := (Below.refl _ _).grown hg (by omega) (fun k hk => by subst hv; simp [Value.ownBlock] at hk)
end Go.Proofs.Ytdjhpajmbddffaa
