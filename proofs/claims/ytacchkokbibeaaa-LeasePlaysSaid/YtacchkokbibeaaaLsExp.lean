/- lease.Leases with any number of leases: Expire. -/
import Derived.Test.YtacchkokbibeaaaLsClose
import Derived.Test.YtacchkokbibeaaaLsFloor
set_option linter.unusedSimpArgs false
set_option linter.unusedVariables false
namespace Go.Proofs.Ytacchkokbibeaaa
open Go.RowKit

def keep (now : Int) (L : List Le) : List Le := L.filter fun x => decide (now < x.u)
theorem keep_sub (now : Int) (L : List Le) : (keep now L).Sublist L := List.filter_sublist
theorem keep_all {now : Int} {L : List Le} (h : ∀ (j : Nat) (x : Le), L[j]? = some x → now < x.u) : keep now L = L := by
  unfold keep
  rw [List.filter_eq_self]
  intro x hx
  obtain ⟨j, hj⟩ := List.mem_iff_getElem?.1 hx
  simpa using h j x hj
theorem take_snoc {L : List Le} {k : Nat} {x : Le} (h : L[k]? = some x) : L.take (k + 1) = L.take k ++ [x] := by
  have hk := (List.getElem?_eq_some_iff.1 h).1
  rw [List.take_succ_eq_append_getElem hk]
  rw [List.getElem?_eq_getElem hk] at h
  injection h with h
  rw [h]
theorem keep_yes {now : Int} {L : List Le} {k : Nat} {x : Le} (h : L[k]? = some x) (hx : now < x.u) : keep now (L.take (k + 1)) = keep now (L.take k) ++ [x] := by
  rw [take_snoc h]; unfold keep; rw [List.filter_append]; simp [hx]
theorem keep_no {now : Int} {L : List Le} {k : Nat} {x : Le} (h : L[k]? = some x) (hx : ¬ now < x.u) : keep now (L.take (k + 1)) = keep now (L.take k) := by
  rw [take_snoc h]; unfold keep; rw [List.filter_append]; simp [hx]
theorem expire_c (a m c u now : Int) (nb : Nat) (w : World) (h : w.cell? ⟨nb, 0, none⟩ = some (.int .i64 now)) (lt : nb < w.heap.size) (bb : Bool) (hb : decide (u ≤ now) = bb) : Calls Try.prog 33 #[.agg #[.int .i64 a, .int .i64 m, .int .i64 c, .int .i64 u], .pointer (some ⟨nb, 0, none⟩)] w fun e w' => e = .returned (.bool bb) ∧ Below w.heap.size w w' := by
  have l1 : nb < w.heap.size + 1 := by omega
  go_enter Try.func33, Try.ntmps33
  go_wp2
  go_ret
  go_light
  exact ⟨by first | rfl | rw [hb], by (repeat' (first | (with_reducible exact Below.refl _ _) | (with_reducible assumption) | (with_reducible refine Below.trans ?_ (Below.mono (by with_reducible assumption) ?_)) | (with_reducible refine Below.alloc ?_ ?_ _) | (with_reducible refine Below.setCell ?_ ?_ _) | (with_reducible refine below_drewN ?_ _) | (with_reducible refine Below.drew ?_) | go_size))⟩
/-- A closure over a number's box. -/
def clo (nb : Nat) : Value := .func (.func 33) #[] #[.pointer (some ⟨nb, 0, none⟩)]
def IdxAns (L : List Le) (now r : Int) : Prop := (r = -1 ∧ ∀ (j : Nat) (x : Le), L[j]? = some x → now < x.u) ∨ ∃ k : Nat, r = (k : Int) ∧ k < L.length ∧ (∀ (j : Nat) (x : Le), j < k → L[j]? = some x → now < x.u) ∧ ∀ (x : Le), L[k]? = some x → x.u ≤ now
def IdxPost (L : List Le) (now : Int) (w : World) (e : Ending) (w' : World) : Prop := ∃ r, e = .returned (.int .i64 r) ∧ IdxAns L now r ∧ Below w.heap.size w w'
set_option maxHeartbeats 2000000 in
theorem index_f (L : List Le) (v : Value) (now : Int) (nb : Nat) (w : World) (h : w.ownsRow 0 65 4 v L.length (flat L)) (hl : L.length ≤ 1000) (hc : w.cell? ⟨nb, 0, none⟩ = some (.int .i64 now)) (lt : nb < w.heap.size) :
    Calls Try.prog 39 #[v, .func (.func 33) #[] #[.pointer (some ⟨nb, 0, none⟩)]] w (IdxPost L now w) := by
  have HH := Lib.hid h
  have HC := Lib.hid hc
  have HB0 := Below.refl w.heap.size w
  have hsh : ∃ A c, v = .slice A L.length c := by
    rcases h.2 with ⟨e, h0⟩ | ⟨g, cap, cur, e, _⟩
    · exact ⟨none, 0, by rw [e, h0]⟩
    · exact ⟨_, _, e⟩
  obtain ⟨A, cp, rfl⟩ := hsh
  have hl' : (L.length : Int) ≤ 1000 := by omega
  generalize hn : L.length = n at *
  have HN := Lib.hid hn
  clear h hc hn
  go_enter Try.func39, Try.ntmps39
  go_wp2
  go_loopw [8] (fun i wr => ∃ k : Nat, k ≤ n ∧ i = .int .i64 k ∧ Hid (∀ (j : Nat) (x : Le), j < k → L[j]? = some x → now < x.u) ∧ Below w.heap.size w wr) (fun i _ => n - (intOf i).toNat)
  case atStart => exact ⟨0, Nat.zero_le _, rfl, fun j x h => absurd h (by omega), HB0⟩
  case round =>
    obtain ⟨k, hk, rfl, HK, HB⟩ := hrel
    clear HB0
    by_cases hlt : k < n
    · obtain ⟨x, hx⟩ : ∃ x, L[k]? = some x := ⟨L[k]'(by rw [HN.out]; exact hlt), List.getElem?_eq_getElem _⟩
      have hrow := (But.of_below (S := fun _ => False) HB).row HH.out (fun _ _ hf => hf)
      obtain ⟨g, cap, hv, _, _, _⟩ := row_shape hrow (by omega)
      injection hv with hv1 hv2 hv3
      subst hv1
      subst hv3
      have r0 := row_cell hrow (flat_at hx 0 (by omega))
      have r1 := row_cell hrow (flat_at hx 1 (by omega))
      have r2 := row_cell hrow (flat_at hx 2 (by omega))
      have r3 := row_cell hrow (flat_at hx 3 (by omega))
      have hcr := (HB.cell (p := ⟨nb, 0, none⟩) lt).trans HC.out
      have HX := Lib.hid hx
      clear hrow hv2 hx
      obtain ⟨xi, xm, xc, xu⟩ := x
      have r0 : wr.cell? ⟨g, k * 4, none⟩ = some (.int .i64 xi) := r0
      have r1 : wr.cell? ⟨g, k * 4 + 1, none⟩ = some (.int .i64 xm) := r1
      have r2 : wr.cell? ⟨g, k * 4 + 2, none⟩ = some (.int .i64 xc) := r2
      have r3 : wr.cell? ⟨g, k * 4 + 3, none⟩ = some (.int .i64 xu) := r3
      by_cases hu : xu ≤ now
      · have HE := Lib.hid (expire_c xi xm xc xu now nb wr hcr (Nat.lt_of_lt_of_le lt HB.size) true (decide_eq_true hu))
        have HA : Hid (IdxAns L now (k : Int)) := Or.inr ⟨k, rfl, by rw [HN.out]; exact hlt, HK.out, fun y hy => by rw [HX.out] at hy; injection hy with e; subst e; exact hu⟩
        clear hcr
        go_wp2_with fail
        refine HE.out.mono ?_; rintro e w1 ⟨rfl, hb1⟩
        go_wp2
        go_ret
        exact ⟨_, rfl, HA.out, HB.trans (hb1.mono HB.size)⟩
      · have HE := Lib.hid (expire_c xi xm xc xu now nb wr hcr (Nat.lt_of_lt_of_le lt HB.size) false (decide_eq_false hu))
        have HK' : Hid (∀ (j : Nat) (x : Le), j < k + 1 → L[j]? = some x → now < x.u) := fun j y hj hy => by
          by_cases e : j = k
          · subst e; rw [HX.out] at hy; injection hy with e; subst e; show now < xu; omega
          · exact HK.out j y (by omega) hy
        clear hcr
        go_wp2_with fail
        refine HE.out.mono ?_; rintro e w1 ⟨rfl, hb1⟩
        have HB1 := HB.trans (hb1.mono HB.size)
        clear hb1 r0 r1 r2 r3
        go_wp2
        go_roundw
        case rel => exact ⟨k + 1, by omega, by go_num, HK', HB1⟩
        case measure => simp [intOf]; omega
    · obtain rfl : k = n := by omega
      have HA : Hid (IdxAns L now (-1)) := Or.inl ⟨rfl, fun j x hx => HK.out j x (by have := (List.getElem?_eq_some_iff.1 hx).1; rw [HN.out] at this; exact this) hx⟩
      go_wp2
      go_ret
      exact ⟨_, rfl, HA.out, HB⟩
end Go.Proofs.Ytacchkokbibeaaa
