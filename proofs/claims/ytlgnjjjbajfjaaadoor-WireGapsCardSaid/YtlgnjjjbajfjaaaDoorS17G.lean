/- Stage 17: a row of records whose numbers are written. -/
/- Stage 17: the row that WireGaps writes, and what wire.Encode says of it. -/
/- Stage 17: WireGaps walked. -/
/- Stage 17: WireGaps walked: the loop. -/
/- Stage 17: WireGaps: the card. (for every row of records) -/
import Derived.Test.YtlgnjjjbajfjaaaDoorHeavy17
import Derived.Test.YtlgnjjjbajfjaaaDoorKnown17
import Derived.Test.YtlgnjjjbajfjaaaDoorRowSet
import Derived.Deep.DeepCutAuto
import Derived.Test.YtlgnjjjbajfjaaaDoorCard17
set_option linter.unusedSimpArgs false
set_option linter.unusedVariables false
namespace Go.Proofs.YtlgnjjjbajfjaaaDoor
open Go.RowKit Go.Sort

theorem rowM_set : ∀ {L : List Mr} {k : Nat} {x y : Mr} {j : Nat} {u : Value}, L[k]? = some x → j < 9 → y.cs = x.cs.set j u → rowM (L.set k y) = (rowM L).set (k * 9 + j) u
  | [], _, _, _, _, _, h, _, _ => by simp at h
  | a :: t, 0, x, y, j, u, h, hj, hy => by
    simp at h
    subst h
    show y.cs ++ rowM t = (a.cs ++ rowM t).set (0 * 9 + j) u
    rw [Nat.zero_mul, Nat.zero_add, hy, List.set_append_left _ _ (by simpa [Mr.cs] using hj)]
  | a :: t, k + 1, x, y, j, u, h, hj, hy => by
    have h' : t[k]? = some x := by simpa using h
    show a.cs ++ rowM (t.set k y) = (a.cs ++ rowM t).set ((k + 1) * 9 + j) u
    rw [rowM_set h' hj hy, List.set_append_right _ _ (by simp [Mr.cs]; omega)]
    congr 2
    simp [Mr.cs]
    omega
theorem row_put {w : World} {base g cap n : Nat} {L : List Mr} {k j : Nat} {x : Mr} {u : Value} (y : Mr) (h : w.ownsRow base 50 9 (.slice (some ⟨g, 0, none⟩) n cap) n (rowM L)) (hx : L[k]? = some x) (hj : j < 9) (hy : y.cs = x.cs.set j u) :
    (w.setCell ⟨g, k * 9 + j, none⟩ u).ownsRow base 50 9 (.slice (some ⟨g, 0, none⟩) n cap) n (rowM (L.set k y)) := by
  have h1 := h.1
  rw [rowM_len] at h1
  refine ⟨by rw [rowM_len, List.length_set]; exact h1, ?_⟩
  rcases h.2 with ⟨h, _⟩ | ⟨g', cap', cur, h, hb, hh, k1, k2, k3, k4⟩
  · cases h
  · injection h with a1 a2 a3
    injection a1 with a1
    injection a1 with a1
    subst a1
    subst a3
    refine .inr ⟨g, cap, cur.setIfInBounds (k * 9 + j) u, rfl, hb, heap_setCell1 hh u, k1, k2, by rw [Array.size_setIfInBounds]; exact k3, ?_⟩
    rw [Array.toList_setIfInBounds, List.take_set, k4, rowM_set hx hj hy]
/-- Cells of a record in a row, and that they may be written. -/
theorem row_rec {w : World} {base g cap n : Nat} {L : List Mr} (h : w.ownsRow base 50 9 (.slice (some ⟨g, 0, none⟩) n cap) n (rowM L)) {k : Nat} {x : Mr} (hx : L[k]? = some x) {j : Nat} (hj : j < 9) :
    w.cell? ⟨g, k * 9 + j, none⟩ = x.cs[j]? ∧ w.frozen? ⟨g, k * 9 + j, none⟩ = false := by
  have hm := rowM_at hx j hj
  have hlt : j < x.cs.length := by simpa [Mr.cs] using hj
  rw [List.getElem?_eq_getElem hlt] at hm ⊢
  obtain ⟨cur, hg, _⟩ := row_block h
  have := World.ownsRow.cells h (g := g) rfl (k * 9 + j) _ hm
  rw [at_add, Nat.zero_add] at this
  exact ⟨this, by simp [World.frozen?, hg]⟩
def reMr (i : Nat) (m : Mr) : Mr := { m with r := { m.r with o := 1, s := 1 + (i : Int), vo := 1 } }
def numL (j : Nat) (L : List Mr) : List Mr := L.mapIdx fun i m => if i < j then reMr i m else m
theorem numL_zero (L : List Mr) : numL 0 L = L := by
  apply List.ext_getElem?
  intro i
  rw [numL, List.getElem?_mapIdx]
  cases L[i]? <;> simp
theorem numL_len (j : Nat) (L : List Mr) : (numL j L).length = L.length := by simp [numL]
theorem numL_at (j : Nat) (L : List Mr) (i : Nat) (x : Mr) (h : L[i]? = some x) : (numL j L)[i]? = some (if i < j then reMr i x else x) := by
  rw [numL, List.getElem?_mapIdx, h]; rfl
theorem numL_succ {j : Nat} {L : List Mr} {x : Mr} (h : L[j]? = some x) : numL (j + 1) L = (numL j L).set j (reMr j x) := by
  have hj : j < L.length := (List.getElem?_eq_some_iff.1 h).1
  apply List.ext_getElem?
  intro i
  by_cases hi : i = j
  · subst hi
    rw [numL_at _ _ _ _ h, if_pos (by omega), List.getElem?_set_self (by rw [numL_len]; exact hj)]
  · rw [List.getElem?_set_ne (by omega), numL, numL, List.getElem?_mapIdx, List.getElem?_mapIdx]
    cases L[i]? with
    | none => rfl
    | some y =>
      by_cases h1 : i < j
      · simp [h1, show i < j + 1 from by omega]
      · simp [h1, show ¬ i < j + 1 from by omega]
theorem numL_mem {j : Nat} {L : List Mr} {m : Mr} (h : m ∈ numL j L) : ∃ i x, L[i]? = some x ∧ m = (if i < j then reMr i x else x) := by
  obtain ⟨i, hi, e⟩ := List.getElem_of_mem h
  have hi' : i < L.length := by rw [numL_len] at hi; exact hi
  refine ⟨i, L[i], List.getElem?_eq_getElem hi', ?_⟩
  have := numL_at j L i _ (List.getElem?_eq_getElem hi')
  rw [List.getElem?_eq_getElem hi] at this
  injection this with this
  rw [← e, this]
theorem numL_all {P : Mr → Prop} {j : Nat} {L : List Mr} (h : ∀ m ∈ L, P m) (hr : ∀ i m, P m → P (reMr i m)) : ∀ m ∈ numL j L, P m := by
  intro m hm
  obtain ⟨i, x, hx, rfl⟩ := numL_mem hm
  have := h x (List.mem_of_getElem? hx)
  split
  · exact hr i x this
  · exact this
/-- Records in order are known by their numbers. -/
theorem rowB_at : ∀ {rs : List Rc} {o s : Int}, rowB o s rs = true → ∀ (i : Nat) (r : Rc), rs[i]? = some r → okR r = true ∧ r.o = o ∧ r.s = s + (i : Int)
  | [], _, _, _, i, r, h => by simp at h
  | a :: t, o, s, hb, i, r, h => by
    rw [rowB] at hb
    simp only [Bool.and_eq_true, decide_eq_true_eq] at hb
    cases i with
    | zero =>
      simp at h
      subst h
      exact ⟨hb.1, hb.2.1, by rw [hb.2.2.1]; simp⟩
    | succ i =>
      have h' : t[i]? = some r := by simpa using h
      have := rowB_at hb.2.2.2 i r h'
      refine ⟨this.1, this.2.1, ?_⟩
      rw [this.2.2]
      push_cast
      omega
theorem rowB_of : ∀ {rs : List Rc} {o s : Int}, (∀ (i : Nat) (r : Rc), rs[i]? = some r → okR r = true ∧ r.o = o ∧ r.s = s + (i : Int)) → rowB o s rs = true
  | [], _, _, _ => by simp [rowB]
  | a :: t, o, s, h => by
    have h0 := h 0 a rfl
    have ht := rowB_of (rs := t) (o := o) (s := s + 1) (fun i r hr => by
      have := h (i + 1) r (by simpa using hr)
      refine ⟨this.1, this.2.1, ?_⟩
      rw [this.2.2]
      push_cast
      omega)
    rw [rowB_good h0.1 h0.2.1 (by simpa using h0.2.2)]
    exact ht
end Go.Proofs.YtlgnjjjbajfjaaaDoor
namespace Go.Proofs.YtlgnjjjbajfjaaaDoor
open Go.RowKit Go.Sort Go.Op

structure Gm (w W : World) (g cap n : Nat) (Z : List Mr) : Prop where
  len : Z.length = n
  row : W.ownsRow w.heap.size 50 9 (.slice (some ⟨g, 0, none⟩) n cap) n (rowM Z)
  bel : Below w.heap.size w W
  ats : ∀ m ∈ Z, m.At (fun i => i < w.heap.size) W
theorem Gm.below {w W W' : World} {g cap n : Nat} {Z : List Mr} (h : Gm w W g cap n Z) (k : Below W.heap.size W W') : Gm w W' g cap n Z :=
  ⟨h.len, (But.of_below (S := fun _ => False) k).row h.row (fun _ _ hf => hf), h.bel.trans (k.mono h.bel.size), fun m hm => (h.ats m hm).below k⟩
theorem Gm.ge {w W : World} {g cap n : Nat} {Z : List Mr} (h : Gm w W g cap n Z) : w.heap.size ≤ g ∧ g < W.heap.size := World.ownsRow.lt h.row g rfl
theorem Gm.put {w W : World} {g cap n : Nat} {Z : List Mr} (h : Gm w W g cap n Z) {k j : Nat} {x : Mr} {u : Value} (y : Mr) (hx : Z[k]? = some x) (hj : j < 9) (hy : y.cs = x.cs.set j u) (hA : y.A = x.A) (hv : y.r.val = x.r.val) : Gm w (W.setCell ⟨g, k * 9 + j, none⟩ u) g cap n (Z.set k y) := by
  have hO : Only g W (W.setCell ⟨g, k * 9 + j, none⟩ u) := (Only.refl g W).setB u
  have hg := h.ge
  have key : ∀ m : Mr, m.At (fun i => i < w.heap.size) W → m.At (fun i => i < w.heap.size) (W.setCell ⟨g, k * 9 + j, none⟩ u) := fun m hm => hm.but (S := fun i => i = g) (But.of_only hO rfl) (fun i e q => by omega)
  refine ⟨by rw [List.length_set]; exact h.len, row_put y h.row hx hj hy, h.bel.trans (hO.below hg.1 h.bel.size), fun m hm => ?_⟩
  rcases List.mem_or_eq_of_mem_set hm with q | rfl
  · exact key m (h.ats m q)
  · refine key _ ?_
    have := h.ats x (List.mem_of_getElem? hx)
    exact ⟨by rw [hA, hv]; exact this.b, by rw [hA, hv]; exact this.n, by rw [hA, hv]; exact this.q⟩
theorem Gm.cell {w W : World} {g cap n : Nat} {Z : List Mr} (h : Gm w W g cap n Z) {k : Nat} {x : Mr} (hx : Z[k]? = some x) {j : Nat} (hj : j < 9) :
    W.cell? ⟨g, k * 9 + j, none⟩ = x.cs[j]? ∧ W.frozen? ⟨g, k * 9 + j, none⟩ = false := row_rec h.row hx hj
theorem Gm.rowAt {w W : World} {g cap n : Nat} {Z : List Mr} (h : Gm w W g cap n Z) : RowAt W (.slice (some ⟨g, 0, none⟩) Z.length cap) Z :=
  RowAt.of (base := w.heap.size) (by rw [h.len]; exact h.row)
theorem Gm.enc_yes {w W : World} {g cap n : Nat} {Z : List Mr} (h : Gm w W g cap n Z) (ht : Nib W) (hkb : ∀ m ∈ Z, isBy m.r.key ∧ isBy m.r.val) (hn : n ≤ 64) (hok : okW (wdOf 1 1 1 0 0 0 0 Z) = true) :
    Calls Tryd.prog 10 #[wdV 1 1 1 0 0 0 0 (.slice (some ⟨g, 0, none⟩) n cap)] W fun e w' => (∃ g2 n2 cap2, e = .returned (.tuple #[.slice (some ⟨g2, 0, none⟩) n2 cap2, .int .i64 0]) ∧ 0 < n2 ∧ n2 ≤ 1000000) ∧ Below W.heap.size W w' := by
  have hE := wd_enc 1 1 1 0 0 0 0 (some ⟨g, 0, none⟩) cap Z W ht h.rowAt (fun m hm => (h.ats m hm).mono (fun _ _ _ => trivial)) hkb (by rw [h.len]; omega) hok
  rw [h.len] at hE
  refine hE.mono ?_
  rintro e w' ⟨⟨g2, cap2, rfl, _⟩, k⟩
  have := (encW_bd hok).2
  exact ⟨⟨g2, _, cap2, rfl, by omega, by omega⟩, k⟩
theorem Gm.enc_no {w W : World} {g cap n : Nat} {Z : List Mr} (h : Gm w W g cap n Z) (hkb : ∀ m ∈ Z, isBy m.r.key ∧ isBy m.r.val) (hn : n ≤ 64) (hok : okW (wdOf 1 1 1 0 0 0 0 Z) = false) :
    Calls Tryd.prog 10 #[wdV 1 1 1 0 0 0 0 (.slice (some ⟨g, 0, none⟩) n cap)] W fun e w' => e = .returned (.tuple #[.slice none 0 0, .int .i64 1]) ∧ Below W.heap.size W w' := by
  have hE := wd_enc_no 1 1 1 0 0 0 0 (some ⟨g, 0, none⟩) cap Z W h.rowAt (fun m hm => (hkb m hm).1) (by rw [h.len]; omega) hok
  rw [h.len] at hE
  exact hE
theorem okW_gap {Z : List Mr} (h2 : 1 ≤ Z.length) (h64 : Z.length ≤ 64) : okW (wdOf 1 1 1 0 0 0 0 Z) = rowB 1 1 (Z.map Mr.r) := by
  have e1 : decide (1 ≤ Z.length) = true := by simpa using h2
  have e2 : decide (Z.length ≤ 64) = true := by simpa using h64
  show (true && (if (1 : Int) = 1 then true && (rowB 1 1 (Z.map Mr.r) && (decide (1 ≤ (Z.map Mr.r).length) && decide ((Z.map Mr.r).length ≤ 64))) else _)) = _
  rw [if_pos rfl, List.length_map, e1, e2]
  simp
theorem numL_ok {L : List Mr} (h2 : 1 ≤ L.length) (h64 : L.length ≤ 64) (hO : ∀ i x, i < L.length → (numL L.length L)[i]? = some x → okR x.r = true) : okW (wdOf 1 1 1 0 0 0 0 (numL L.length L)) = true := by
  rw [okW_gap (by rw [numL_len]; exact h2) (by rw [numL_len]; exact h64)]
  refine rowB_of (fun i r hr => ?_)
  rw [List.getElem?_map] at hr
  cases hx : (numL L.length L)[i]? with
  | none => rw [hx] at hr; cases hr
  | some x =>
    rw [hx] at hr
    injection hr with hr
    subst hr
    have hi : i < L.length := by have := (List.getElem?_eq_some_iff.1 hx).1; rwa [numL_len] at this
    refine ⟨hO i x hi hx, ?_⟩
    rw [numL_at _ _ _ _ (List.getElem?_eq_getElem hi), if_pos hi] at hx
    injection hx with hx
    subst hx
    exact ⟨rfl, rfl⟩
/-- A row of which one record's numbers are others is no word's. -/
theorem gap_no {Z : List Mr} {k : Nat} {x y : Mr} (h2 : 1 ≤ Z.length) (h64 : Z.length ≤ 64) (hx : Z[k]? = some x) (hy : ¬ (y.r.o = 1 ∧ y.r.s = 1 + (k : Int))) : okW (wdOf 1 1 1 0 0 0 0 (Z.set k y)) = false := by
  rw [okW_gap (by rw [List.length_set]; exact h2) (by rw [List.length_set]; exact h64)]
  cases hb : rowB 1 1 ((Z.set k y).map Mr.r)
  · rfl
  · exfalso
    have hk := (List.getElem?_eq_some_iff.1 hx).1
    have := rowB_at hb k y.r (by rw [List.getElem?_map, List.getElem?_set_self hk]; rfl)
    exact hy ⟨this.2.1, this.2.2⟩
theorem andmask (b : Nat) (hb : b ≤ 16) (n : Int) : ∃ d : Nat, d ≤ 2 ^ b - 1 ∧ bits .and .i64 n ((2 ^ b - 1 : Nat) : Int) = (d : Int) := by
  have hp : 2 ^ b ≤ 2 ^ 16 := Nat.pow_le_pow_right (by decide) hb
  show ∃ d : Nat, d ≤ 2 ^ b - 1 ∧ IntKind.i64.wrap ((BitVec.ofInt 64 n &&& BitVec.ofInt 64 ((2 ^ b - 1 : Nat) : Int)).toNat : Int) = (d : Int)
  have e2 : (BitVec.ofInt 64 ((2 ^ b - 1 : Nat) : Int)).toNat = 2 ^ b - 1 := by
    rw [BitVec.ofInt_natCast, BitVec.toNat_ofNat]
    exact Nat.mod_eq_of_lt (by omega)
  have h1 : (BitVec.ofInt 64 n &&& BitVec.ofInt 64 ((2 ^ b - 1 : Nat) : Int)).toNat ≤ 2 ^ b - 1 := by
    rw [BitVec.toNat_and, e2]
    exact Nat.and_le_right
  exact ⟨_, h1, IntWalk.i64_in _ (by omega)⟩
theorem and65535 (n : Int) : ∃ d : Nat, d ≤ 65535 ∧ bits .and .i64 n 65535 = (d : Int) := andmask 16 (by decide) n
theorem and3 (n : Int) : ∃ d : Nat, d ≤ 3 ∧ bits .and .i64 n 3 = (d : Int) := andmask 2 (by decide) n
end Go.Proofs.YtlgnjjjbajfjaaaDoor
namespace Go.Proofs.YtlgnjjjbajfjaaaDoor
open Go.RowKit Go.Sort

set_option maxRecDepth 100000 in
set_option maxHeartbeats 4000000 in
theorem gaps_heavy (A : Option Addr) (c : Nat) (L : List Mr) (at_ way : Int) (w : World) (hrow : RowAt w (.slice A L.length c) L) (hs : ∀ m ∈ L, m.r.val.length ≤ 281474976710656 ∧ m.r.key.length ≤ 281474976710656) (hl : L.length ≤ maxLen) (hbad : ¬ (2 ≤ L.length ∧ L.length ≤ 64)) :
    Calls Tryd.prog 6 #[.slice A L.length c, .int .i64 at_, .int .i64 way] w fun e w' => e = .returned (.bool true) ∧ Below w.heap.size w w' := by
  have HH := Lib.hid (law_heavy17 0 0 0 0 0 0 0 A c L w hrow hs hl)
  by_cases h2 : L.length < 2
  · have t1 : decide ((L.length : Int) < 2) = true := by simp; omega
    clear hrow hs hl hbad h2
    go_enter Tryd.func6, Tryd.ntmps6
    go_wp2_with fail
    refine HH.out.mono ?_; rintro e w1 ⟨⟨b, rfl, hb⟩, k1⟩
    have HB1 := Lib.hid k1
    clear k1 hb HH
    cases b
    all_goals
      go_wp2
      go_ret
      exact ⟨rfl, HB1.out⟩
  · have t1 : decide ((L.length : Int) < 2) = false := by simp; omega
    have t2 : decide ((64 : Int) < L.length) = true := by simp; omega
    clear hrow hs hl hbad h2
    go_enter Tryd.func6, Tryd.ntmps6
    go_wp2_with fail
    refine HH.out.mono ?_; rintro e w1 ⟨⟨b, rfl, hb⟩, k1⟩
    have HB1 := Lib.hid k1
    clear k1 hb HH
    cases b
    all_goals
      go_wp2
      go_ret
      exact ⟨rfl, HB1.out⟩
end Go.Proofs.YtlgnjjjbajfjaaaDoor
namespace Go.Proofs.YtlgnjjjbajfjaaaDoor
open Go.RowKit Go.Sort Go.Op

set_option maxRecDepth 100000 in
set_option maxHeartbeats 4000000 in
theorem gaps_go (B O : Nat) (c : Nat) (L : List Mr) (at_ way : Int) (w : World) (ht : Nib w) (hrow : RowAt w (.slice (some ⟨B, O, none⟩) L.length c) L) (hat : ∀ m ∈ L, m.At (fun _ => True) w) (hkb : ∀ m ∈ L, isBy m.r.key ∧ isBy m.r.val) (hs : ∀ m ∈ L, m.r.val.length ≤ 281474976710656 ∧ m.r.key.length ≤ 281474976710656) (hl2 : 2 ≤ L.length) (hl64 : L.length ≤ 64) :
    Calls Tryd.prog 6 #[.slice (some ⟨B, O, none⟩) L.length c, .int .i64 at_, .int .i64 way] w fun e w' => e = .returned (.bool true) ∧ Below w.heap.size w w' := by
  obtain ⟨i0, hi0, hz0, hz1, hz2⟩ := info_parts rec_info
  have HH := Lib.hid (law_heavy17 0 0 0 0 0 0 0 _ c L w hrow hs (by unfold maxLen; omega))
  have t1 : decide ((L.length : Int) < 2) = false := by simp; omega
  have t2 : decide ((64 : Int) < L.length) = false := by simp; omega
  have hni : (L.length : Int) ≤ 64 := by omega
  obtain ⟨A', c', he', hc'⟩ := hrow.ex
  have HC : Hid (B < w.heap.size ∧ ∀ j u, (rowM L)[j]? = some u → w.cell? ⟨B, O + j, none⟩ = some u) := Lib.hid (by
    obtain ⟨B', O', e, h⟩ := hc' (by omega)
    injection he' with q1 q2 q3
    rw [e] at q1
    injection q1 with q1
    injection q1 with q1 q4
    subst q1 q4
    exact h)
  have HAT : Hid (∀ m ∈ L, m.At (fun i => i < w.heap.size) w) := Lib.hid (fun m hm => (hat m hm).mono (fun i hi _ => hi))
  have HT := Lib.hid (fun (W : World) (q : Below w.heap.size w W) => ht.below q)
  have HKB := Lib.hid hkb
  have HL := Lib.hid (And.intro hl2 hl64)
  have HRW := Lib.hid hrow
  clear hrow hs hat hkb hc' he' ht
  go_enter Tryd.func6, Tryd.ntmps6
  go_wp2_with fail
  refine HH.out.mono ?_; rintro e w1 ⟨⟨b, rfl, hb⟩, k1⟩
  have HB1 := Lib.hid k1
  clear HH
  cases b
  rotate_left
  · clear k1 hb
    go_wp2
    go_ret
    exact ⟨rfl, HB1.out⟩
  have HB2 := Lib.hid (k1.alloc k1.size (.cells #[] 50))
  have hmade := World.ownsRow_made (base := w.heap.size) (e := 50) (size := 9) w1 #[] 0 k1.size (Nat.zero_le _) rfl
  have hsrc : ∀ j u, (rowM L)[j]? = some u → (w1.alloc (.cells #[] 50)).cell? ((⟨B, O, none⟩ : Addr).add j) = some u := fun j u hu => by
    rw [at_add]
    exact (HB2.out.cell (p := ⟨B, O + j, none⟩) HC.out.1).trans (HC.out.2 j u hu)
  have z1 := k1.size
  clear k1 hb
  go_wp2_with (at_builtin; refine wpList_append_lies _ rfl (.tmp 27) (.tmp 28) _ rfl w.heap.size 50 i0 _ 9 96 Tryd.underlying24 hi0 hz0 hz1 hz2 rfl (by decide) (.slice (some ⟨w1.heap.size, 0, none⟩) 0 0) 0 [] rfl hmade ⟨B, O, none⟩ L.length c (rowM L) rfl (rowM_len L) hsrc (rowM_one1 L) (by omega) (by unfold maxLen; omega) (by omega) (by simp; omega) _ rfl ?_; intro g cap w2 hown0 hg2 hat2 hlt2)
  have HR0 : Hid (w2.ownsRow w.heap.size 50 9 (.slice (some ⟨g, 0, none⟩) L.length cap) L.length (rowM L)) := Lib.hid (by simpa using hown0)
  have HB3 : Hid (Below w.heap.size w w2) := Lib.hid (HB2.out.grown hg2 HB2.out.size (fun k hk => by simp [Value.ownBlock] at hk; omega))
  have HG0 : Hid (Gm w w2 g cap L.length (numL 0 L)) := Lib.hid (by
    rw [numL_zero]
    exact ⟨rfl, HR0.out, HB3.out, fun m hm => (HAT.out m hm).below HB3.out⟩)
  clear hown0 hg2 hat2 hlt2 hmade hsrc HB1 HB2 HR0 HB3
  have HKN : ∀ j, Hid (∀ m ∈ numL j L, isBy m.r.key ∧ isBy m.r.val) := fun j => Lib.hid (numL_all HKB.out (fun i m h => h))
  go_loopw [8] (fun i wr => ∃ j : Nat, j ≤ L.length ∧ i = .int .i64 j ∧ Gm w wr g cap L.length (numL j L) ∧ Hid (∀ i x, i < j → (numL j L)[i]? = some x → okR x.r = true)) (fun i _ => L.length - (intOf i).toNat)
  case atStart => exact ⟨0, Nat.zero_le _, rfl, HG0.out, Lib.hid (fun _ _ h => by omega)⟩
  case round =>
    obtain ⟨j, hj, rfl, hG, hO⟩ := hrel
    by_cases hlt : j < L.length
    · have lk : (j : Int) < (L.length : Int) := by omega
      have hi1 : ((j : Int).toNat) = j := by simp
      have e1 : IntKind.i64.wrap (1 + (j : Int)) = 1 + (j : Int) := IntWalk.i64_in _ (by omega)
      have hx : L[j]? = some L[j] := List.getElem?_eq_getElem hlt
      have hxn : (numL j L)[j]? = some L[j] := by rw [numL_at j L j _ hx, if_neg (by omega)]
      have hjl : j < (numL j L).length := by rw [numL_len]; exact hlt
      obtain ⟨x, hxx⟩ : ∃ x, L[j] = x := ⟨_, rfl⟩
      rw [hxx] at hx hxn
      obtain ⟨b0, g0⟩ := hG.cell hxn (j := 0) (by omega)
      obtain ⟨b1, g1⟩ := hG.cell hxn (j := 1) (by omega)
      obtain ⟨b5, g5⟩ := hG.cell hxn (j := 5) (by omega)
      have c0 : wr.cell? ⟨g, j * 9, none⟩ = some (.int .i64 x.r.o) := b0
      have c1 : wr.cell? ⟨g, j * 9 + 1, none⟩ = some (.int .i64 x.r.s) := b1
      have c5 : wr.cell? ⟨g, j * 9 + 3 + 2, none⟩ = some (.int .i64 x.r.vo) := b5
      have f0 : wr.frozen? ⟨g, j * 9, none⟩ = false := g0
      have f1 : wr.frozen? ⟨g, j * 9 + 1, none⟩ = false := g1
      have f5 : wr.frozen? ⟨g, j * 9 + 3 + 2, none⟩ = false := g5
      obtain ⟨W3, hW3⟩ : ∃ W3, ((wr.setCell ⟨g, j * 9 + 1, none⟩ (.int .i64 (1 + (j : Int)))).setCell ⟨g, j * 9, none⟩ (.int .i64 1)).setCell ⟨g, j * 9 + 3 + 2, none⟩ (.int .i64 1) = W3 := ⟨_, rfl⟩
      have hG3 : Gm w W3 g cap L.length (numL (j + 1) L) := by
        have q1 := hG.put (j := 1) (u := .int .i64 (1 + (j : Int))) { x with r := { x.r with s := 1 + (j : Int) } } hxn (by omega) rfl rfl rfl
        have q2 := q1.put (k := j) (j := 0) (u := .int .i64 1) { x with r := { x.r with s := 1 + (j : Int), o := 1 } } (List.getElem?_set_self hjl) (by omega) rfl rfl rfl
        have q3 := q2.put (k := j) (j := 5) (u := .int .i64 1) (reMr j x) (List.getElem?_set_self (by rw [List.length_set]; exact hjl)) (by omega) rfl rfl rfl
        rw [List.set_set, List.set_set, ← numL_succ hx] at q3
        rw [← hW3]
        exact q3
      have hx3 : (numL (j + 1) L)[j]? = some (reMr j x) := by rw [numL_at _ _ _ _ hx, if_pos (by omega)]
      have a0 : W3.cell? ⟨g, j * 9, none⟩ = some (.int .i64 1) := (hG3.cell hx3 (j := 0) (by omega)).1
      have a1 : W3.cell? ⟨g, j * 9 + 1, none⟩ = some (.int .i64 (1 + (j : Int))) := (hG3.cell hx3 (j := 1) (by omega)).1
      have a2 : W3.cell? ⟨g, j * 9 + 2, none⟩ = some (.string (strB x.r.key)) := (hG3.cell hx3 (j := 2) (by omega)).1
      have a3 : W3.cell? ⟨g, j * 9 + 3, none⟩ = some (.int .i64 x.r.ml) := (hG3.cell hx3 (j := 3) (by omega)).1
      have a4 : W3.cell? ⟨g, j * 9 + 4, none⟩ = some (.int .i64 x.r.ct) := (hG3.cell hx3 (j := 4) (by omega)).1
      have a5 : W3.cell? ⟨g, j * 9 + 5, none⟩ = some (.int .i64 1) := (hG3.cell hx3 (j := 5) (by omega)).1
      have a6 : W3.cell? ⟨g, j * 9 + 6, none⟩ = some (.slice x.A x.r.val.length x.c) := (hG3.cell hx3 (j := 6) (by omega)).1
      have a7 : W3.cell? ⟨g, j * 9 + 7, none⟩ = some (.bool x.r.gone) := (hG3.cell hx3 (j := 7) (by omega)).1
      have a8 : W3.cell? ⟨g, j * 9 + 8, none⟩ = some (.int .i64 x.r.tt) := (hG3.cell hx3 (j := 8) (by omega)).1
      have HOK : Hid (okR (reMr j x).r = okN 1 (1 + (j : Int)) (strB x.r.key).size x.r.ml x.r.ct 1 x.r.val.length x.r.gone x.r.tt) := Lib.hid (by rw [okR_n, strB_size]; rfl)
      have HIS := Lib.hid (ref_is 1 (1 + (j : Int)) (strB x.r.key) x.r.ml x.r.ct 1 x.A x.r.val.length x.c x.r.gone x.r.tt W3)
      rw [← HOK.out] at HIS
      have HO3 : Hid (okR (reMr j x).r = true → ∀ i y, i < j + 1 → (numL (j + 1) L)[i]? = some y → okR y.r = true) := Lib.hid (fun hk i y hi hy => by
        by_cases hij : i = j
        · subst hij
          rw [hx3] at hy
          injection hy with hy
          rw [← hy]
          exact hk
        · rw [numL_succ hx, List.getElem?_set_ne (by omega)] at hy
          exact hO.out i y (by omega) hy)
      have HG3 := Lib.hid hG3
      clear hG hO hx hxn hxx hjl b0 b1 b5 g0 g1 g5 hG3 hx3 HOK
      go_upto_region 10 with fail
      (try rw [hW3])
      clear c0 c1 c5 f0 f1 f5 hW3
      cases hok : okR (reMr j x).r
      · rw [hok] at HIS
        clear hok HO3
        go_wp2_with fail
        refine HIS.out.mono ?_; rintro e w4 ⟨rfl, k4⟩
        have HB4 := Lib.hid (HG3.out.bel.trans (k4.mono HG3.out.bel.size))
        clear k4 HIS HG3 a0 a1 a2 a3 a4 a5 a6 a7 a8
        go_wp2_with fail
        refine (known17 _ (HT.out _ HB4.out)).mono ?_; rintro e w5 ⟨rfl, k5⟩
        have HB5 := Lib.hid (HB4.out.trans (k5.mono HB4.out.size))
        clear k5
        go_wp2
        go_ret
        exact ⟨rfl, HB5.out⟩
      · rw [hok] at HIS
        have HO4 := Lib.hid (HO3.out hok)
        clear hok HO3
        go_wp2_with fail
        refine HIS.out.mono ?_; rintro e w4 ⟨rfl, k4⟩
        have HG4 := Lib.hid (HG3.out.below k4)
        clear k4 HIS HG3 a0 a1 a2 a3 a4 a5 a6 a7 a8
        go_wp2
        go_roundw
        case rel => exact ⟨j + 1, by omega, by go_num, HG4.out, Lib.hid HO4.out⟩
        case measure => simp [intOf]; omega
    · obtain rfl : j = L.length := by omega
      clear hlt HG0
      have hN := hG.len
      have HOKW := Lib.hid (numL_ok (L := L) (by omega) (by omega) hO.out)
      have HG1 := Lib.hid hG
      have HE := Lib.hid (hG.enc_yes (HT.out _ hG.bel) (HKN L.length).out (by omega) HOKW.out)
      clear hG hO
      go_wp2_with fail
      refine HE.out.mono ?_; rintro e w4 ⟨⟨g2, n2, cap2, rfl, hn2, hn3⟩, k4⟩
      have HG4 := Lib.hid (HG1.out.below k4)
      clear k4 HE HG1
      obtain ⟨d, hd, had⟩ := and65535 at_
      obtain ⟨n1, hn1⟩ : ∃ n1, L.length - 1 = n1 := ⟨_, rfl⟩
      have e3 : IntKind.i64.wrap ((L.length : Int) - 1) = (n1 : Int) := by rw [IntWalk.i64_in _ (by omega)]; omega
      obtain ⟨i, hi⟩ : ∃ i, d % n1 = i := ⟨_, rfl⟩
      have hi1 : i < n1 := by rw [← hi]; exact Nat.mod_lt _ (by omega)
      have hrem : Int.tmod (d : Int) (n1 : Int) = (i : Int) := by have q9 := Int.ofNat_tmod d n1; rw [hi] at q9; exact q9.symm
      have hnz : ((n1 : Int) == 0) = false := by simp; omega
      have hnz1 : (n1 : Int) ≠ 0 := by omega
      obtain ⟨k, hk⟩ : ∃ k, 1 + i = k := ⟨_, rfl⟩
      have e4 : IntKind.i64.wrap (1 + (i : Int)) = (k : Int) := by rw [IntWalk.i64_in _ (by omega)]; omega
      have hkl : k < L.length := by omega
      have hki : (k : Int) < (L.length : Int) := by omega
      have hk1 : ((k : Int).toNat) = k := by simp
      have hk0 : 1 ≤ k := by omega
      have h0l : (0 : Int) < (L.length : Int) := by omega
      have e5 : IntKind.i64.wrap (1 + (k : Int) + 1) = 1 + (k : Int) + 1 := IntWalk.i64_in _ (by omega)
      obtain ⟨x, hx⟩ : ∃ x, L[k] = x := ⟨_, rfl⟩
      obtain ⟨y, hy⟩ : ∃ y, L[0] = y := ⟨_, rfl⟩
      have hxk : (numL L.length L)[k]? = some (reMr k x) := by rw [numL_at _ _ _ _ (List.getElem?_eq_getElem hkl), if_pos hkl, hx]
      have hx0 : (numL L.length L)[0]? = some (reMr 0 y) := by rw [numL_at _ _ _ _ (List.getElem?_eq_getElem (show 0 < L.length by omega)), if_pos (by omega), hy]
      have hln : (numL L.length L).length = L.length := numL_len _ _
      have HKS : Hid (∀ (k' : Nat) (a b : Mr), (numL L.length L)[k']? = some a → b.r.key = a.r.key → b.r.val = a.r.val → ∀ m ∈ (numL L.length L).set k' b, isBy m.r.key ∧ isBy m.r.val) := Lib.hid (fun k' a b ha q1 q2 m hm => by
        rcases List.mem_or_eq_of_mem_set hm with q | rfl
        · exact (HKN L.length).out m q
        · rw [q1, q2]
          exact (HKN L.length).out a (List.mem_of_getElem? ha))
      obtain ⟨b0, g0⟩ := HG4.out.cell hxk (j := 0) (by omega)
      obtain ⟨b1, g1⟩ := HG4.out.cell hxk (j := 1) (by omega)
      obtain ⟨b5, g5⟩ := HG4.out.cell hxk (j := 5) (by omega)
      obtain ⟨d1', h1'⟩ := HG4.out.cell hx0 (j := 1) (by omega)
      have c0 : w4.cell? ⟨g, k * 9, none⟩ = some (.int .i64 1) := b0
      have c1 : w4.cell? ⟨g, k * 9 + 1, none⟩ = some (.int .i64 (1 + (k : Int))) := b1
      have c5 : w4.cell? ⟨g, k * 9 + 3 + 2, none⟩ = some (.int .i64 1) := b5
      have f0 : w4.frozen? ⟨g, k * 9, none⟩ = false := g0
      have f1 : w4.frozen? ⟨g, k * 9 + 1, none⟩ = false := g1
      have f5 : w4.frozen? ⟨g, k * 9 + 3 + 2, none⟩ = false := g5
      have d1 : w4.cell? ⟨g, 1, none⟩ = some (.int .i64 (1 + ((0 : Nat) : Int))) := d1'
      have h1 : w4.frozen? ⟨g, 1, none⟩ = false := h1'
      have hlen2 : decide ((0 : Int) < (n2 : Int)) = true := by simp; omega
      have HGX := Lib.hid HG4.out
      have HL1 : Hid (1 ≤ (numL L.length L).length ∧ (numL L.length L).length ≤ 64) := Lib.hid (by rw [hln]; omega)
      clear b0 b1 b5 g0 g1 g5 d1' h1' hx hy hi hk hd hN
      obtain ⟨d3, hd3, hw3⟩ := and3 way
      obtain rfl | rfl | rfl | rfl : d3 = 0 ∨ d3 = 1 ∨ d3 = 2 ∨ d3 = 3 := by omega
      · -- 0
        have hw : bits .and .i64 way 3 = 0 := hw3
        clear hw3 hd3
        have HG5 := Lib.hid (HG4.out.put (j := 1) (u := .int .i64 (1 + (k : Int) + 1)) { reMr k x with r := { (reMr k x).r with s := 1 + (k : Int) + 1 } } hxk (by omega) rfl rfl rfl)
        have hno := gap_no (y := { reMr k x with r := { (reMr k x).r with s := 1 + (k : Int) + 1 } }) HL1.out.1 HL1.out.2 hxk (fun q => by have := q.2; simp at this; omega)
        have hby := HKS.out k _ { reMr k x with r := { (reMr k x).r with s := 1 + (k : Int) + 1 } } hxk rfl rfl
        have HBY := Lib.hid hby
        have HE2 := Lib.hid (HG5.out.enc_no hby (by omega) hno)
        have HB5 := Lib.hid HG5.out.bel
        clear hby hno HG5 HKS HGX hxk hx0 HG4
        go_wp2_with fail
        refine HE2.out.mono ?_; rintro e w6 ⟨rfl, k6⟩
        have HB6 := Lib.hid (HB5.out.trans (k6.mono HB5.out.size))
        clear k6 HE2 c0 c1 c5 f0 f1 f5 d1 h1
        go_wp2_with fail
        refine (known17 _ (HT.out _ HB6.out)).mono ?_; rintro e w7 ⟨rfl, k7⟩
        have HB7 := Lib.hid (HB6.out.trans (k7.mono HB6.out.size))
        clear k7
        go_wp2
        go_ret
        exact ⟨rfl, HB7.out⟩
      · -- 1
        have hw : bits .and .i64 way 3 = 1 := hw3
        clear hw3 hd3
        have hG5 := (HG4.out.put (j := 0) (u := .int .i64 2) { reMr k x with r := { (reMr k x).r with o := 2 } } hxk (by omega) rfl rfl rfl).put (k := k) (j := 5) (u := .int .i64 2) { reMr k x with r := { (reMr k x).r with o := 2, vo := 2 } } (List.getElem?_set_self (by rw [hln]; exact hkl)) (by omega) rfl rfl rfl
        rw [List.set_set] at hG5
        have HG5 := Lib.hid hG5
        clear hG5
        have hno := gap_no (y := { reMr k x with r := { (reMr k x).r with o := 2, vo := 2 } }) HL1.out.1 HL1.out.2 hxk (fun q => by have := q.1; simp at this)
        have hby := HKS.out k _ { reMr k x with r := { (reMr k x).r with o := 2, vo := 2 } } hxk rfl rfl
        have HBY := Lib.hid hby
        have HE2 := Lib.hid (HG5.out.enc_no hby (by omega) hno)
        have HB5 := Lib.hid HG5.out.bel
        clear hby hno HG5 HKS HGX hxk hx0 HG4
        go_wp2_with fail
        refine HE2.out.mono ?_; rintro e w6 ⟨rfl, k6⟩
        have HB6 := Lib.hid (HB5.out.trans (k6.mono HB5.out.size))
        clear k6 HE2 c0 c1 c5 f0 f1 f5 d1 h1
        go_wp2_with fail
        refine (known17 _ (HT.out _ HB6.out)).mono ?_; rintro e w7 ⟨rfl, k7⟩
        have HB7 := Lib.hid (HB6.out.trans (k7.mono HB6.out.size))
        clear k7
        go_wp2
        go_ret
        exact ⟨rfl, HB7.out⟩
      · -- 2
        have hw : bits .and .i64 way 3 = 2 := hw3
        clear hw3 hd3
        have HG5 : Hid (Gm w (w4.setCell ⟨g, 1, none⟩ (.int .i64 7)) g cap L.length ((numL L.length L).set 0 { reMr 0 y with r := { (reMr 0 y).r with s := 7 } })) := Lib.hid (HG4.out.put (k := 0) (j := 1) (u := .int .i64 7) { reMr 0 y with r := { (reMr 0 y).r with s := 7 } } hx0 (by omega) rfl rfl rfl)
        have hno := gap_no (y := { reMr 0 y with r := { (reMr 0 y).r with s := 7 } }) HL1.out.1 HL1.out.2 hx0 (fun q => by have := q.2; simp at this)
        have hby := HKS.out 0 _ { reMr 0 y with r := { (reMr 0 y).r with s := 7 } } hx0 rfl rfl
        have HBY := Lib.hid hby
        have HE2 := Lib.hid (HG5.out.enc_no hby (by omega) hno)
        have HB5 := Lib.hid HG5.out.bel
        clear hby hno HG5 HKS HGX hxk hx0 HG4
        go_wp2_with fail
        refine HE2.out.mono ?_; rintro e w6 ⟨rfl, k6⟩
        have HB6 := Lib.hid (HB5.out.trans (k6.mono HB5.out.size))
        clear k6 HE2 c0 c1 c5 f0 f1 f5 d1 h1
        go_wp2_with fail
        refine (known17 _ (HT.out _ HB6.out)).mono ?_; rintro e w7 ⟨rfl, k7⟩
        have HB7 := Lib.hid (HB6.out.trans (k7.mono HB6.out.size))
        clear k7
        go_wp2
        go_ret
        exact ⟨rfl, HB7.out⟩
      · -- 3
        have hw : bits .and .i64 way 3 = 3 := hw3
        clear hw3 hd3
        have HG5 := Lib.hid (HG4.out.put (j := 1) (u := .int .i64 1) { reMr k x with r := { (reMr k x).r with s := 1 } } hxk (by omega) rfl rfl rfl)
        have hno := gap_no (y := { reMr k x with r := { (reMr k x).r with s := 1 } }) HL1.out.1 HL1.out.2 hxk (fun q => by have := q.2; simp at this; omega)
        have hby := HKS.out k _ { reMr k x with r := { (reMr k x).r with s := 1 } } hxk rfl rfl
        have HBY := Lib.hid hby
        have HE2 := Lib.hid (HG5.out.enc_no hby (by omega) hno)
        have HB5 := Lib.hid HG5.out.bel
        clear hby hno HG5 HKS HGX hxk hx0 HG4
        go_wp2_with fail
        refine HE2.out.mono ?_; rintro e w6 ⟨rfl, k6⟩
        have HB6 := Lib.hid (HB5.out.trans (k6.mono HB5.out.size))
        clear k6 HE2 c0 c1 c5 f0 f1 f5 d1 h1
        go_wp2_with fail
        refine (known17 _ (HT.out _ HB6.out)).mono ?_; rintro e w7 ⟨rfl, k7⟩
        have HB7 := Lib.hid (HB6.out.trans (k7.mono HB6.out.size))
        clear k7
        go_wp2
        go_ret
        exact ⟨rfl, HB7.out⟩
end Go.Proofs.YtlgnjjjbajfjaaaDoor
namespace Go.Proofs.YtlgnjjjbajfjaaaDoor
open Go.ChangeShapes Go.WideShapes Go.ChangeAt Go.RowKit Go.Joins

theorem gaps_any (A : Option Addr) (c : Nat) (L : List Mr) (at_ way : Int) (w : World) (ht : Nib w) (hrow : RowAt w (.slice A L.length c) L) (hat : ∀ m ∈ L, m.At (fun _ => True) w) (hkb : ∀ m ∈ L, isBy m.r.key ∧ isBy m.r.val) (hs : ∀ m ∈ L, m.r.val.length ≤ 281474976710656 ∧ m.r.key.length ≤ 281474976710656) (hl : L.length ≤ maxLen) :
    Calls Tryd.prog 6 #[.slice A L.length c, .int .i64 at_, .int .i64 way] w fun e w' => e = .returned (.bool true) ∧ Below w.heap.size w w' := by
  by_cases h : 2 ≤ L.length ∧ L.length ≤ 64
  · obtain ⟨A', c', he, hc⟩ := hrow.ex
    obtain ⟨B, O, e, _⟩ := hc (by omega)
    injection he with q1 q2 q3
    rw [q1, e]
    rw [q1, e] at hrow
    exact gaps_go B O c L at_ way w ht hrow hat hkb hs h.1 h.2
  · exact gaps_heavy A c L at_ way w hrow hs hl h
set_option maxRecDepth 100000 in
theorem wireGaps_contract (H : Type) (enc : TypeId × Value → H) (W : World) (base : Nat) (args : Array Value) (ds gs : List (DataW H)) (before : List MemPlace)
    (hval0 : ∀ (j : Nat) t v, Tryd.f6.params[j]? = some t → args[j]? = some v → Value.okWide Tryd.prog W .any base t v)
    (hW : DataW.Whole enc Tryd.prog Tryd.f6.params.toList Rows.wireGapsSpec.vars false W args.toList ds gs before)
    (hsz0 : (DataW.weightsEach Tryd.prog (Tryd.f6.params.toList ++ (OpenSpec.ofChange Rows.wireGapsSpec).bare.plain.varTypes Tryd.prog) (ds ++ gs)).all (· ≤ reachBytes) = true) (hL : laidMetH Tryd.prog Rows.wireGapsRow.laid W) (hS : W.ShapedOpen Tryd.prog) :
    Calls Tryd.prog 6 args W fun e W' => ∃ v, e = .returned v ∧ Rows.wireGapsSpec.post enc Tryd.prog Tryd.f6 false true false false W args v W' := by
  have hval : ∀ (j : Nat) t v, Tryd.f6.params[j]? = some t → args[j]? = some v → Value.okWide Tryd.prog W .any base t v := hval0
  have hsz := hsz0
  have hW' := hW
  obtain ⟨p, q, hA0, hV, rfl, hfz, hnd⟩ := hW
  have hA : DataW.TrodAll enc Tryd.prog W 0 (fun _ => true) true Tryd.f6.params.toList args.toList ds p := hA0
  rw [Tryd.params6] at hA hval hsz
  have hsame : (Rows.wireGapsSpec.fn H (ds ++ gs)).results = [.lit (.bool true)] ∧ (Rows.wireGapsSpec.fn H (ds ++ gs)).args = ds ∧ (Rows.wireGapsSpec.fn H (ds ++ gs)).vars = [] → ∀ W', Below W.heap.size W W' → Rows.wireGapsSpec.post enc Tryd.prog Tryd.f6 false true false false W args (.bool true) W' :=
    fun h W' hb => law_post (tb := 4) hW' law_laid (by kernel_rfl) rfl Tryd.underlying4 h.1 h.2.1 rfl h.2.2 hb
  obtain ⟨v0, vs0, d0, ds0, p0, q0, hargs, rfl, rfl, h0, r0⟩ := trodAll_cons hA
  obtain ⟨v1, vs1, d1, ds1, p1, q1, rfl, rfl, rfl, h1, r1⟩ := trodAll_cons r0
  obtain ⟨v2, vs2, d2, ds2, p2, q2, rfl, rfl, rfl, h2, r2⟩ := trodAll_cons r1
  obtain ⟨rfl, rfl, rfl⟩ := trodAll_nil r2
  obtain rfl : args = #[v0, v1, v2] := by cases args; simp_all
  obtain ⟨rfl, rfl⟩ := trodVars_none hV
  have hpost := hsame ⟨rfl, rfl, rfl⟩
  clear hsame hA0 hval0 hsz0
  obtain ⟨L, A, c, rfl, hmx, hrow, hin, _, hz⟩ := open_records (hval 0 24 v0 rfl rfl) h0
  obtain ⟨a1, rfl, rfl, rfl, wf1⟩ := open_int Tryd.underlying3 (hval 1 3 v1 rfl rfl) h1
  obtain ⟨a2, rfl, rfl, rfl, wf2⟩ := open_int Tryd.underlying3 (hval 2 3 v2 rfl rfl) h2
  have hk := hz reachBytes (sized_each (j := 0) hsz rfl rfl)
  unfold reachBytes at hk
  exact (gaps_any A c L a1 a2 W (nib_of_laid hL) hrow (fun m hm => (hin m hm).at_) (fun m hm => ⟨(hin m hm).key, (hin m hm).val⟩) (fun m hm => ⟨by have := (hk m hm).1; omega, by have := (hk m hm).2; omega⟩) hmx).mono fun e W' ⟨he, hb⟩ => ⟨_, he, hpost W' hb⟩
theorem wireGaps_reads (os : Os) {H : Type} (enc : TypeId × Value → H) : (DataW.whole enc Tryd.prog ((layW1 os).forCall (fun _ _ => 0) ⟨#[], #[.slice none 0 0, .int .i64 0, .int .i64 0], []⟩).memory Tryd.f6.params.toList Rows.wireGapsSpec.vars false #[.slice none 0 0, .int .i64 0, .int .i64 0].toList 8).isSome = true := by kernel_rfl
theorem wireGaps_met (os : Os) : laidMet Tryd.prog Rows.wireGapsRow.laid ((layW1 os).forCall (fun _ _ => 0) ⟨#[], #[.slice none 0 0, .int .i64 0, .int .i64 0], []⟩).memory := laidMet_of_run' 8 (by kernel_rfl) (by kernel_rfl)
set_option maxRecDepth 100000 in
theorem wireGaps_lifted (os : Os) (started : os.Started) (H : Type) (enc : TypeId × Value → H) (F : Stop.Interp) :
    ReturnsInHanded {} Tryd.checked os 6 .any ((OpenSpec.ofChange Rows.wireGapsSpec).preRow enc Tryd.prog Tryd.f6 Rows.wireGapsRow.domain false Rows.wireGapsRow.laid) (((OpenSpec.ofChange Rows.wireGapsSpec).at F).post enc Tryd.prog Tryd.f6 false true false false) := by
  obtain ⟨x, hx⟩ := Option.isSome_iff_exists.1 (wireGaps_reads os enc)
  refine returnsInHanded_of_row (C := Tryd.checked) (s := OpenSpec.ofChange Rows.wireGapsSpec) law_own started (by kernel_rfl) Tryd.func6
    (witness_row_at (enc := enc) (C := Tryd.checked) false (layW1 os) #[.slice none 0 0, .int .i64 0, .int .i64 0] rfl (by kernel_rfl) (by kernel_rfl) (by kernel_rfl)
      (OpenSpec.preRow_of_cond 8 hx (by rfl) (fun k hk => by cases hk) (by kernel_rfl) (wireGaps_met os))) ?_
  intro W base args ds gs before hval hW _ _ hsz hL hS _
  exact wireGaps_contract H enc W base args ds gs before hval hW hsz hL hS
theorem wireGaps_said : Rows.WireGapsSaid :=
  OpenClaim.holds_of_cond 6 Tryd.f6 rfl rfl rfl rfl rfl rfl rfl ⟨rfl, rfl, rfl, rfl, rfl⟩ rfl rfl rfl rfl rfl (by kernel_rfl) Tryd.func6 (by kernel_rfl)
    (of_decide_eq_true (by kernel_rfl)) (by unfold Func.isWrapper; first | (rw [if_pos (by decide +kernel)]; kernel_rfl) | (rw [if_neg (by decide +kernel)]; exact ⟨rfl, rfl⟩))
    (fun os started H enc _ F => by rw [OpenClaim.pre_eq_preRow]; exact wireGaps_lifted os started H enc F)
theorem wireGaps_holds : Rows.WireGapsCardSaid :=
  Claim7.holds_tied_plain_at .later [] _ _ _ _ wireGaps_said (fun _ h => by cases h) (by kernel_rfl) (fun _ h => by cases h) wireGaps_row_tie rfl ⟨rfl, rfl⟩ (by kernel_rfl) rfl (plain_of (f0 := 6) (fn0 := Tryd.f6) (by kernel_rfl) Tryd.func6 (by kernel_rfl) (by kernel_rfl)) (by kernel_rfl)
end Go.Proofs.YtlgnjjjbajfjaaaDoor
