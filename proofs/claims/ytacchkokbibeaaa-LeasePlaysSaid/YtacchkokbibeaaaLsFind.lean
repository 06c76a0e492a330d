/- lease.Leases with any number of leases: find, at, At, Floor, Len. -/
import Derived.Test.YtacchkokbibeaaaLs
import Derived.Test.YtacchkokbibeaaaLeaseAt
import Derived.Deep.LoopGhost
set_option linter.unusedSimpArgs false
set_option linter.unusedVariables false
namespace Go.Proofs.Ytacchkokbibeaaa
open Go.RowKit

/-- Where id stands in L: k leases are below it, the others are not. -/
structure Stand (L : List Le) (id : Int) (k : Nat) : Prop where
  le : k ≤ L.length
  lo : ∀ j x, j < k → L[j]? = some x → x.id < id
  hi : ∀ j x, k ≤ j → L[j]? = some x → id ≤ x.id
theorem Ls.cells {w : World} {b : Nat} {v : Value} {L : List Le} {nx : Int} (h : Ls w b v L nx) {g c : Nat} (hv : v = .slice (some ⟨g, 0, none⟩) L.length c) {k : Nat} {x : Le} (hk : L[k]? = some x) :
    w.cell? ⟨g, k * 4, none⟩ = some (.int .i64 x.id) ∧ w.cell? ⟨g, k * 4 + 1, none⟩ = some (.int .i64 x.m) ∧ w.cell? ⟨g, k * 4 + 2, none⟩ = some (.int .i64 x.c) ∧ w.cell? ⟨g, k * 4 + 3, none⟩ = some (.int .i64 x.u) := by
  have hr := h.row
  rw [hv] at hr
  have h0 := flat_at hk 0 (by omega)
  have h1 := flat_at hk 1 (by omega)
  have h2 := flat_at hk 2 (by omega)
  have h3 := flat_at hk 3 (by omega)
  exact ⟨row_cell hr h0, row_cell hr h1, row_cell hr h2, row_cell hr h3⟩
/-- What find tells: where, and whether it is there. -/
def FindAns (L : List Le) (id : Int) (k : Nat) (b : Bool) : Prop := Stand L id k ∧ (b = true → ∃ x, L[k]? = some x ∧ x.id = id) ∧ (b = false → ∀ x, L[k]? = some x → id < x.id)
theorem cmp1_lt {a b : Int} (h : a < b) : cmp1 a b = -1 := by unfold cmp1; rw [if_pos h]
theorem cmp1_ge {a b : Int} (h : b ≤ a) : 0 ≤ cmp1 a b := by unfold cmp1; split <;> (try split) <;> omega
theorem cmp1_gt {a b : Int} (h : b < a) : cmp1 a b = 1 := by unfold cmp1; rw [if_neg (by omega), if_pos h]
theorem cmp1_eq (a : Int) : cmp1 a a = 0 := by unfold cmp1; rw [if_neg (by omega), if_neg (by omega)]
set_option maxHeartbeats 4000000 in
set_option maxRecDepth 100000 in
theorem bsearch (g c : Nat) (L : List Le) (id : Int) (k : Nat) (bb : Bool) (w : World) (b : Nat) (nx : Int) (h : Ls w b (.slice (some ⟨g, 0, none⟩) L.length c) L nx) (hl : L.length ≤ 1000) (ha : FindAns L id k bb) (n0 : 0 < L.length) :
    Calls Try.prog 36 #[.slice (some ⟨g, 0, none⟩) L.length c, .int .i64 id, .func (.func 37) #[] #[]] w fun e w' => e = .returned (.tuple #[.int .i64 k, .bool bb]) ∧ Below w.heap.size w w' := by
  have HH := Lib.hid h
  have HA := Lib.hid ha
  have HL := Lib.hid hl
  have N0 := Lib.hid n0
  generalize hn : L.length = n at *
  have HN := Lib.hid hn
  have HB0 := Below.refl w.heap.size w
  clear h ha hn
  go_enter Try.func36, Try.ntmps36
  go_wp2
  go_loopg [9, 10] n (fun kx s9 s10 wr => ∃ lo hi : Nat, s9 = .int .i64 lo ∧ s10 = .int .i64 hi ∧ lo ≤ k ∧ k ≤ hi ∧ hi ≤ n ∧ hi - lo ≤ kx ∧ Below w.heap.size w wr)
  case atStart => exact ⟨0, n, rfl, rfl, Nat.zero_le _, by have := HA.out.1.le; rw [HN.out] at this; exact this, Nat.le_refl _, by omega, HB0⟩
  case round =>
    obtain ⟨lo, hi, rfl, rfl, h1, h2, h3, hg, HB⟩ := hrel
    clear HB0
    have H1 := Lib.hid (HH.out.below HB)
    by_cases hlt : lo < hi
    · obtain ⟨x, hx⟩ : ∃ x, L[(lo + hi) / 2]? = some x := ⟨L[(lo + hi) / 2]'(by rw [HN.out]; omega), List.getElem?_eq_getElem _⟩
      obtain ⟨c0, c1, c2, c3⟩ := H1.out.cells (by rw [HN.out]) hx
      have HX := Lib.hid hx
      clear hx
      by_cases hid : x.id < id
      · have hk : (lo + hi) / 2 < k := by
          rcases Nat.lt_or_ge ((lo + hi) / 2) k with h | h
          · exact h
          · have := HA.out.1.hi _ x h HX.out; omega
        go_wp2_with fail
        refine (find_cmp x.id x.m x.c x.u id _).mono ?_; rintro e w1 ⟨rfl, hb1⟩
        have ec : cmp1 x.id id = -1 := cmp1_lt hid
        rw [ec]
        have HB1 := HB.trans (hb1.mono HB.size)
        clear ec c0 c1 c2 c3 hb1
        go_wp2
        go_roundg (hi - ((lo + hi) / 2 + 1))
        case measure => omega
        case rel => exact ⟨(lo + hi) / 2 + 1, hi, by rw [show ((lo : Int) + (hi : Int)) / 2 + 1 = (((lo + hi) / 2 + 1 : Nat) : Int) by omega], rfl, by omega, by omega, by omega, Nat.le_refl _, HB1⟩
      · have hk : k ≤ (lo + hi) / 2 := by
          rcases Nat.lt_or_ge ((lo + hi) / 2) k with h | h
          · have := HA.out.1.lo _ x h HX.out; omega
          · exact h
        have ec : 0 ≤ cmp1 x.id id := cmp1_ge (by omega)
        go_wp2_with fail
        refine (find_cmp x.id x.m x.c x.u id _).mono ?_; rintro e w1 ⟨rfl, hb1⟩
        have HB1 := HB.trans (hb1.mono HB.size)
        generalize cmp1 x.id id = q at *
        have t : decide (q < 0) = false := by simp only [decide_eq_false_iff_not]; omega
        clear c0 c1 c2 c3 hb1
        go_wp2
        go_roundg ((lo + hi) / 2 - lo)
        case measure => omega
        case rel => exact ⟨lo, (lo + hi) / 2, rfl, by rw [show ((lo : Int) + (hi : Int)) / 2 = (((lo + hi) / 2 : Nat) : Int) by omega], by omega, by omega, by omega, Nat.le_refl _, HB1⟩
    · obtain rfl : lo = k := by omega
      by_cases hn : lo < n
      · obtain ⟨x, hx⟩ : ∃ x, L[lo]? = some x := ⟨L[lo]'(by rw [HN.out]; omega), List.getElem?_eq_getElem _⟩
        obtain ⟨c0, c1, c2, c3⟩ := H1.out.cells (by rw [HN.out]) hx
        have hge := HA.out.1.hi lo x (Nat.le_refl _) hx
        have hbt : cmp1 x.id id = 0 ∧ bb = true ∨ cmp1 x.id id = 1 ∧ bb = false := by
          cases bb with
          | true => obtain ⟨y, hy, hyi⟩ := HA.out.2.1 rfl; rw [hx] at hy; injection hy with hy; subst hy; left; exact ⟨by rw [hyi]; exact cmp1_eq _, rfl⟩
          | false => right; exact ⟨cmp1_gt (HA.out.2.2 rfl x hx), rfl⟩
        have HX := Lib.hid hx
        clear hx hge
        go_wp2_with fail
        refine (find_cmp x.id x.m x.c x.u id _).mono ?_; rintro e w1 ⟨rfl, hb1⟩
        have HB1 := HB.trans (hb1.mono HB.size)
        rcases hbt with ⟨e1, rfl⟩ | ⟨e1, rfl⟩
        all_goals
          rw [e1]
          clear e1 c0 c1 c2 c3 hb1
          go_wp2
          go_ret2
          exact ⟨rfl, HB1⟩
      · have hbf : bb = false := by
          cases bb with
          | true => obtain ⟨y, hy, _⟩ := HA.out.2.1 rfl; have := (List.getElem?_eq_some_iff.1 hy).1; rw [HN.out] at this; omega
          | false => rfl
        subst hbf
        go_wp2
        go_ret2
        exact ⟨rfl, HB⟩
theorem bsearch0 (L : List Le) (c : Nat) (A : Option Addr) (id : Int) (w : World) :
    Calls Try.prog 36 #[.slice A 0 c, .int .i64 id, .func (.func 37) #[] #[]] w fun e w' => e = .returned (.tuple #[.int .i64 0, .bool false]) ∧ Below w.heap.size w w' := by
  have HB := Below.refl w.heap.size w
  go_enter Try.func36, Try.ntmps36
  go_wp2
  refine wp_loop_rounds 1 ?_
  rw [rounds_succ]
  go_wp2
  go_ret2
  exact ⟨rfl, HB⟩
end Go.Proofs.Ytacchkokbibeaaa
