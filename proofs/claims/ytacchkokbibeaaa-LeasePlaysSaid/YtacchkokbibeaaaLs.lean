/- lease.Leases with any number of leases: what lies in memory; Open. -/
import Derived.Test.YtacchkokbibeaaaLease
import Derived.Test.YtacchkokbibeaaaBut
set_option linter.unusedSimpArgs false
set_option linter.unusedVariables false
namespace Go.Proofs.Ytacchkokbibeaaa
open Go.RowKit

structure Le where
  id : Int
  m : Int
  c : Int
  u : Int
def Le.cs (x : Le) : List Value := [.int .i64 x.id, .int .i64 x.m, .int .i64 x.c, .int .i64 x.u]
def flat (L : List Le) : List Value := L.flatMap Le.cs
theorem flat_len (L : List Le) : (flat L).length = L.length * 4 := by
  induction L with
  | nil => rfl
  | cons a t ih =>
    show (a.cs ++ flat t).length = _
    rw [List.length_append, ih]
    simp [Le.cs]
    omega
theorem flat_nil : flat [] = [] := rfl
theorem flat_append (a b : List Le) : flat (a ++ b) = flat a ++ flat b := by simp [flat]
theorem flat_one (x : Le) : flat [x] = x.cs := by simp [flat]
theorem flat_at {L : List Le} {k : Nat} {x : Le} (h : L[k]? = some x) (j : Nat) (hj : j < 4) : (flat L)[k * 4 + j]? = x.cs[j]? := by
  have hk : k < L.length := (List.getElem?_eq_some_iff.1 h).1
  have e : L = L.take k ++ x :: L.drop (k + 1) := by
    have h2 : L[k] = x := by have := List.getElem?_eq_getElem hk; rw [this] at h; injection h
    conv => lhs; rw [← List.take_append_drop k L]
    rw [List.drop_eq_getElem_cons hk, h2]
  rw [e, flat_append, show x :: L.drop (k + 1) = [x] ++ L.drop (k + 1) from rfl, flat_append, flat_one, List.getElem?_append_right (by rw [flat_len, List.length_take]; omega), flat_len, List.length_take, show min k L.length = k from by omega, show k * 4 + j - k * 4 = j from by omega, List.getElem?_append_left (by simp [Le.cs]; omega)]
theorem flat_take (L : List Le) (k : Nat) : (flat L).take (k * 4) = flat (L.take k) := by
  by_cases hk : k ≤ L.length
  · conv => lhs; rw [← List.take_append_drop k L, flat_append]
    rw [List.take_append_of_le_length (by rw [flat_len, List.length_take]; omega), List.take_of_length_le (by rw [flat_len, List.length_take]; omega)]
  · rw [List.take_of_length_le (by rw [flat_len]; omega), List.take_of_length_le (by omega)]
theorem flat_drop (L : List Le) (k : Nat) : (flat L).drop (k * 4) = flat (L.drop k) := by
  by_cases hk : k ≤ L.length
  · conv => lhs; rw [← List.take_append_drop k L, flat_append]
    rw [List.drop_append, List.drop_of_length_le (by rw [flat_len, List.length_take]; omega), flat_len, List.length_take, show k * 4 - min k L.length * 4 = 0 from by omega]
    simp
  · rw [List.drop_of_length_le (by rw [flat_len]; omega), List.drop_of_length_le (by omega)]; rfl
theorem flat_cell1 (L : List Le) : ∀ u ∈ flat L, u.oneCell' = true := by
  intro u hu
  simp [flat, Le.cs] at hu
  obtain ⟨x, _, h⟩ := hu
  rcases h with rfl | rfl | rfl | rfl <;> rfl
/-- Leases: its block, its row, what it holds, its next number. -/
structure Ls (w : World) (b : Nat) (v : Value) (L : List Le) (nx : Int) : Prop where
  c0 : w.cell? ⟨b, 0, none⟩ = some v
  c1 : w.cell? ⟨b, 1, none⟩ = some (.int .i64 nx)
  f0 : w.frozen? ⟨b, 0, none⟩ = false
  f1 : w.frozen? ⟨b, 1, none⟩ = false
  lt : b < w.heap.size
  row : w.ownsRow 0 65 4 v L.length (flat L)
  ne : v.ownBlock ≠ some b
def Foot (b : Nat) (v : Value) (k : Nat) : Prop := k = b ∨ v.ownBlock = some k
theorem Ls.but {S : Nat → Prop} {w w' : World} {b : Nat} {v : Value} {L : List Le} {nx : Int} (h : Ls w b v L nx) (k : But S w w') (hs : ∀ i, Foot b v i → ¬ S i) : Ls w' b v L nx :=
  ⟨(k.cell b 0 h.lt (hs b (.inl rfl))).trans h.c0, (k.cell b 1 h.lt (hs b (.inl rfl))).trans h.c1, (k.frozen b 0 h.lt (hs b (.inl rfl))).trans h.f0, (k.frozen b 1 h.lt (hs b (.inl rfl))).trans h.f1, Nat.lt_of_lt_of_le h.lt k.size, k.row h.row (fun i hi => hs i (.inr hi)), h.ne⟩
theorem Ls.below {w w' : World} {b : Nat} {v : Value} {L : List Le} {nx : Int} (h : Ls w b v L nx) (k : Below w.heap.size w w') : Ls w' b v L nx := h.but (S := fun _ => False) (But.of_below k) (fun _ _ hf => hf.elim)
theorem Ls.alloc {w : World} {b : Nat} {v : Value} {L : List Le} {nx : Int} (h : Ls w b v L nx) (o : Obj) : Ls (w.alloc o) b v L nx := h.below ((Below.refl _ _).alloc (Nat.le_refl _) _)
theorem ls_new (w : World) : Ls (w.alloc (.cells #[.slice none 0 0, .int .i64 0] 60)) w.heap.size (.slice none 0 0) [] 0 := by
  constructor <;> first | exact World.ownsRow_nil _ _ _ _ | simp [Value.ownBlock]
theorem Ls.shape {w : World} {b : Nat} {v : Value} {L : List Le} {nx : Int} (h : Ls w b v L nx) : ∃ A c, v = .slice A L.length c := by
  rcases h.row.2 with ⟨e, h0⟩ | ⟨g, cap, cur, e, _⟩
  · exact ⟨none, 0, by rw [e, h0]⟩
  · exact ⟨_, _, e⟩
/-- What Open leaves. -/
def OpenPost (b : Nat) (v : Value) (L : List Le) (nx m c u : Int) (w w' : World) : Prop := ∃ v', Ls w' b v' (L ++ [⟨nx, m, c, u⟩]) (nx + 1) ∧ But (Foot b v) w w' ∧ Fresh w v v'
theorem le_one (x : Le) : ∀ u ∈ x.cs, u.oneCell' = true := by intro u hu; simp [Le.cs] at hu; rcases hu with rfl | rfl | rfl | rfl <;> rfl
set_option maxRecDepth 100000 in
set_option maxHeartbeats 4000000 in
theorem ls_open (b : Nat) (v : Value) (L : List Le) (nx m c u : Int) (w : World) (h : Ls w b v L nx) (hs : isStampB m c = true) (hu : 0 ≤ u) (hl : L.length < 64) (n0 : 0 ≤ nx) (n1 : nx ≤ 1099511627776) :
    Calls Try.prog 9 #[.pointer (some ⟨b, 0, none⟩), .agg #[.int .i64 m, .int .i64 c], .int .i64 u] w fun e w' => e = .returned (.tuple #[.int .i64 nx, .int .i64 0]) ∧ OpenPost b v L nx m c u w w' := by
  obtain ⟨i0, hi0, hz0, hz1, hz2⟩ := info_parts lease_info
  obtain ⟨A, cp, rfl⟩ := h.shape
  have HB0 : Below w.heap.size w (w.alloc (.cells #[.int .i64 m, .int .i64 c] 30)) := by (repeat' (first | (with_reducible exact Below.refl _ _) | (with_reducible assumption) | (with_reducible refine Below.trans ?_ (Below.mono (by with_reducible assumption) ?_)) | (with_reducible refine Below.alloc ?_ ?_ _) | (with_reducible refine Below.setCell ?_ ?_ _) | (with_reducible refine below_drewN ?_ _) | (with_reducible refine Below.drew ?_) | go_size))
  have HH := Lib.hid h
  clear h
  have t1 : decide (u < 0) = false := by simp only [decide_eq_false_iff_not]; omega
  have t2 : decide ((64 : Int) ≤ (L.length : Int)) = false := by simp only [decide_eq_false_iff_not]; omega
  have t3 : IntKind.i64.wrap (nx + 1) = nx + 1 := IntWalk.i64_in _ (by omega)
  have HL := Lib.hid hl
  have c0 := HH.out.c0
  have c1 := HH.out.c1
  have f0 := HH.out.f0
  have f1 := HH.out.f1
  have lb := HH.out.lt
  clear hu hl n0 n1
  go_enter Try.func9, Try.ntmps9
  go_wp2_with fail
  refine (hlc_pack_yes m c _ hs).mono ?_; rintro e w1 ⟨rfl, hb1⟩
  have HB1 : Below w.heap.size w w1 := HB0.trans (hb1.mono HB0.size)
  have S0 : w1.cell? ⟨w.heap.size, 0, none⟩ = some (.int .i64 m) := (hb1.cell (p := ⟨w.heap.size, 0, none⟩) (by simp)).trans (by simp)
  have S1 : w1.cell? ⟨w.heap.size, 1, none⟩ = some (.int .i64 c) := (hb1.cell (p := ⟨w.heap.size, 1, none⟩) (by simp)).trans (by simp)
  have l1 : w.heap.size < w1.heap.size := by have := hb1.size; simp at this; omega
  have b0 := (HB1.cell (p := ⟨b, 0, none⟩) lb).trans c0
  have b1 := (HB1.cell (p := ⟨b, 1, none⟩) lb).trans c1
  have g0 := (HB1.frozen (p := ⟨b, 0, none⟩) lb).trans f0
  have g1 := (HB1.frozen (p := ⟨b, 1, none⟩) lb).trans f1
  have lb1 : b < w1.heap.size := by omega
  have R1 := Lib.hid (HH.out.below HB1).row
  clear hb1 c0 c1 f0 f1 HB0
  have z1 := HB1.size
  go_wp2_with fail
  have S0' : (w1.setCell ⟨b, 1, none⟩ (.int .i64 (nx + 1))).cell? ⟨w.heap.size, 0, none⟩ = some (.int .i64 m) := (World.cell?_setCell_other _ _ _ _ (by simp)).trans S0
  have S1' : (w1.setCell ⟨b, 1, none⟩ (.int .i64 (nx + 1))).cell? ⟨w.heap.size, 1, none⟩ = some (.int .i64 c) := (World.cell?_setCell_other _ _ _ _ (by simp; try omega)).trans S1
  have b0' : (w1.setCell ⟨b, 1, none⟩ (.int .i64 (nx + 1))).cell? ⟨b, 0, none⟩ = some (.slice A L.length cp) := (World.cell?_setCell_other _ _ _ _ (by simp)).trans b0
  have b1' : (w1.setCell ⟨b, 1, none⟩ (.int .i64 (nx + 1))).cell? ⟨b, 1, none⟩ = some (.int .i64 (nx + 1)) := World.cell?_setCell_same _ _ _ b1
  have g0' : (w1.setCell ⟨b, 1, none⟩ (.int .i64 (nx + 1))).frozen? ⟨b, 0, none⟩ = false := by simpa using g0
  have g1' : (w1.setCell ⟨b, 1, none⟩ (.int .i64 (nx + 1))).frozen? ⟨b, 1, none⟩ = false := by simpa using g1
  have hoo : Only b w1 (w1.setCell ⟨b, 1, none⟩ (.int .i64 (nx + 1))) := (Only.refl b w1).setB _
  have ho : Only b w (w1.setCell ⟨b, 1, none⟩ (.int .i64 (nx + 1))) := (Only.of_below HB1).setB _
  have hr2 := Lib.hid ((But.of_only (S := fun k => k = b) hoo rfl).row R1.out (fun i hi hb => HH.out.ne (hb ▸ hi)))
  have l1' : w.heap.size < (w1.setCell ⟨b, 1, none⟩ (.int .i64 (nx + 1))).heap.size := by simpa [World.setCell] using l1
  have lb' : b < (w1.setCell ⟨b, 1, none⟩ (.int .i64 (nx + 1))).heap.size := by simpa [World.setCell] using lb1
  have hbn := Lib.hid HH.out.ne
  have hln : ∀ k, (Value.slice A L.length cp).ownBlock = some k → k < w.heap.size := fun k hk => (HH.out.row.lt k hk).2
  have HLN := Lib.hid hln
  clear S0 S1 b0 b1 g0 g1 l1 lb1 HB1 z1 hoo hln
  generalize w1.setCell ⟨b, 1, none⟩ (.int .i64 (nx + 1)) = w2 at *
  have z2 := ho.size
  have hwn : (Value.slice A L.length cp).ownBlock ≠ some w.heap.size := fun hk => by have := HLN.out _ hk; omega
  have hwn' := Lib.hid hwn
  clear hwn
  go_region_law
    ((refine step_append_lies _ (by rfl) _ _ _ (by rfl) 0 65 i0 _ 4 32 Try.underlying58 hi0 hz0 hz1 hz2 rfl (by omega) (.slice A L.length cp) L.length (flat L) (by rfl) (World.ownsRow.alloc hr2.out _)
        ⟨w2.heap.size, 0, none⟩ 1 1 [.int .i64 nx, .int .i64 m, .int .i64 c, .int .i64 u] (by rfl) (by rfl) (World.news_of_block (cs := #[.int .i64 nx, .int .i64 m, .int .i64 c, .int .i64 u]) (t := 65) (fr := (0, 0)) (heap_alloc_new w2 _)) (by simp [Value.oneCell'])
        (by omega) (by have := HL.out; unfold maxLen; omega) (by have := HL.out; omega) (by omega) (w2.heap.size + 1) (by simp) ?_; intro g cap w3 hown hgrow hat hlt; have b3 : w3.cell? ⟨b, 0, none⟩ = some (.slice A L.length cp) := (hgrow.cell_far _ (by simp; omega) (fun e => hbn.out e.symm)).trans ((World.cell?_alloc_past _ _ _ lb').trans b0'); have s3 : w3.cell? ⟨w.heap.size, 0, none⟩ = some (.int .i64 m) := (hgrow.cell_far _ (by simp; omega) (fun e => hwn'.out e.symm)).trans ((World.cell?_alloc_past _ _ _ l1').trans S0'); have s4 : w3.cell? ⟨w.heap.size, 1, none⟩ = some (.int .i64 c) := (hgrow.cell_far _ (by simp; omega) (fun e => hwn'.out e.symm)).trans ((World.cell?_alloc_past _ _ _ l1').trans S1'); have g3 : w3.frozen? ⟨b, 0, none⟩ = false := (hgrow.frozen_far _ (by simp; omega) (fun e => hbn.out e.symm)).trans (((Below.alloc (Below.refl w2.heap.size w2) (Nat.le_refl _) (.cells #[.int .i64 nx, .int .i64 m, .int .i64 c, .int .i64 u] 65)).frozen (p := ⟨b, 0, none⟩) lb').trans g0')))
  all_goals
    have hbt : But (Foot b (.slice A L.length cp)) w w3 := ((But.of_only (S := Foot b (.slice A L.length cp)) ho (.inl rfl)).alloc _).drew.trans (But.of_grown (S := Foot b (.slice A L.length cp)) hgrow (fun k hk => .inr hk)) (fun _ _ hf => hf)
    have b4 : w3.cell? ⟨b, 1, none⟩ = some (.int .i64 (nx + 1)) := (hgrow.cell_far _ (by simp; omega) (fun e => hbn.out e.symm)).trans ((World.cell?_alloc_past _ _ _ lb').trans b1')
    have g4 : w3.frozen? ⟨b, 1, none⟩ = false := (hgrow.frozen_far _ (by simp; omega) (fun e => hbn.out e.symm)).trans (((Below.alloc (Below.refl w2.heap.size w2) (Nat.le_refl _) (.cells #[.int .i64 nx, .int .i64 m, .int .i64 c, .int .i64 u] 65)).frozen (p := ⟨b, 1, none⟩) lb').trans g1')
    have lb3 : b < w3.heap.size := Nat.lt_of_lt_of_le (by simp; omega) hgrow.size
    have hgb : g ≠ b := fun e => by
      rcases hat with h | h
      · exact hbn.out (e ▸ h)
      · omega
    have hfr : Fresh w (.slice A L.length cp) (.slice (some ⟨g, 0, none⟩) (L.length + 1) cap) := fun k hk => by
      have hk' : g = k := by simpa [Value.ownBlock] using hk
      subst hk'
      rcases hat with h | h
      · exact .inl h
      · exact .inr (by omega)
    have HO := Lib.hid hown
    have HBT := Lib.hid hbt
    have HFR := Lib.hid hfr
    clear hown hgrow hat hbt hfr b0' b1' S0' S1' s3 s4 g0' g1'
    go_wp2
    go_ret2
    go_light
    refine ⟨rfl, .slice (some ⟨g, 0, none⟩) (L.length + 1) cap, ⟨World.cell?_setCell_same _ _ _ b3, (World.cell?_setCell_other _ _ _ _ (by simp)).trans b4, by simpa using g3, by simpa using g4, by simpa [World.setCell] using lb3, ?_, by simp [Value.ownBlock]; omega⟩, HBT.out.setCell (fun _ => .inl rfl) _, HFR.out⟩
    have h3 := HO.out
    rw [show flat (L ++ [⟨nx, m, c, u⟩]) = flat L ++ [.int .i64 nx, .int .i64 m, .int .i64 c, .int .i64 u] from by rw [flat_append, flat_one]; rfl, show (L ++ [(⟨nx, m, c, u⟩ : Le)]).length = L.length + 1 from by simp]
    exact (But.of_only (S := fun k => k = b) ((Only.refl b w3).setB _) rfl).row h3 (fun i hi hb => by simp [Value.ownBlock] at hi; omega)
end Go.Proofs.Ytacchkokbibeaaa
