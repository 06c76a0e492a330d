/- The law's same: whether two rows of bytes are one (XLSame18 turned by sed). -/
import Derived.Test.YtdjhpajmbddffaaOctMem
set_option linter.unusedSimpArgs false
set_option linter.unusedVariables false
namespace Go.Proofs.Ytdjhpajmbddffaa
open Go.RowKit

theorem take_same25 {p p' : List Int} {k : Nat} (h : p.length = p'.length) (hk : k < p.length) : p.take (k + 1) = p'.take (k + 1) ↔ (p.take k = p'.take k ∧ p[k] = p'[k]) := by
  have e1 := List.take_succ_eq_append_getElem hk
  have e2 := List.take_succ_eq_append_getElem (show k < p'.length by omega)
  rw [e1, e2]
  constructor
  · intro e
    have := List.append_inj e (by simp [List.length_take]; omega)
    exact ⟨this.1, by simpa using this.2⟩
  · rintro ⟨a, b⟩
    rw [a, b]
set_option maxHeartbeats 1000000 in
theorem lsame25 (A : Option Addr) (p : List Int) (c : Nat) (A' : Option Addr) (p' : List Int) (c' : Nat) (w : World) (hn : p.length ≤ 1000000) (hn' : p'.length ≤ 1000000) (h : ByL w A p) (h' : ByL w A' p') :
    Calls Try.prog 15 #[.slice A p.length c, .slice A' p'.length c'] w fun e w' => e = .returned (.bool (decide (p = p'))) ∧ ∃ q, w' = w.drewN q := by
  by_cases hne : p.length = p'.length
  · have HA := Lib.hid h
    have HA' := Lib.hid h'
    have HL := Lib.hid hne
    have HD : Hid (∀ k (q : k < p.length), p[k] ≠ p'[k]'(by rw [← HL.out]; exact q) → decide (p = p') = false) := Lib.hid (fun k q hk => by
      rw [decide_eq_false_iff_not]
      rintro rfl
      exact hk rfl)
    have HY : Hid (p.take p.length = p'.take p.length → decide (p = p') = true) := Lib.hid (fun e => by
      rw [decide_eq_true_eq]
      rw [List.take_length, hne, List.take_length] at e
      exact e)
    have t0 : ((p.length : Int) != (p'.length : Int)) = false := by simp [hne]
    have t0' : (p.length != p'.length) = false := by simp [hne]
    clear h h' hne
    have hni : (p.length : Int) ≤ 1000000 := by omega
    go_enter Try.func15, Try.ntmps15
    go_wp2
    go_loopw [5] (fun i wr => ∃ k : Nat, k ≤ p.length ∧ i = .int .i64 k ∧ p.take k = p'.take k ∧ ∃ q, wr = w.drewN q) (fun i _ => p.length - (intOf i).toNat)
    case atStart => exact ⟨0, Nat.zero_le _, rfl, by simp, 0, rfl⟩
    case round =>
      obtain ⟨k, hk, rfl, hE, q, hW⟩ := hrel
      by_cases hlt : k < p.length
      · obtain ⟨B, O, rfl, hB, hc⟩ := HA.out (by omega)
        obtain ⟨B', O', rfl, hB', hc'⟩ := HA'.out (by have := HL.out; omega)
        have hlt' : k < p'.length := by have := HL.out; omega
        have x0 : wr.cell? ⟨B, O + k, none⟩ = some (.int .u8 p[k]) := by rw [hW]; exact hc k _ (bC_at p k hlt)
        have x1 : wr.cell? ⟨B', O' + k, none⟩ = some (.int .u8 p'[k]) := by rw [hW]; exact hc' k _ (bC_at p' k hlt')
        have lk : (k : Int) < (p.length : Int) := by omega
        have lk' : (k : Int) < (p'.length : Int) := by omega
        have HS := Lib.hid (take_same25 HL.out hlt)
        have HN := Lib.hid (HD.out k hlt)
        have HW := Lib.hid hW
        have HE := Lib.hid hE
        clear hc hc' hW hE HD
        generalize p[k] = a at *
        generalize p'[k] = b at *
        by_cases hab : a = b
        · have t1 : (a != b) = false := by simp [hab]
          have HS2 : Hid (p.take (k + 1) = p'.take (k + 1)) := Lib.hid (HS.out.2 ⟨HE.out, hab⟩)
          clear hab HS HN
          go_wp2
          go_quiet (fail)
          go_wp2
          go_roundw
          case rel => exact ⟨k + 1, by omega, by go_num, HS2.out, q + nq, by rw [HW.out]; simp [World.drewN, Nat.add_assoc]⟩
          case measure => simp [intOf]; omega
        · have t1 : (a != b) = true := by simpa using hab
          have HN2 := Lib.hid (HN.out hab)
          clear hab HN HS
          go_wp2
          go_quiet (fail)
          go_wp2
          go_ret
          exact ⟨by rw [HN2.out]; rfl, q + nq, by rw [HW.out]; simp [World.drewN, Nat.add_assoc]⟩
      · obtain rfl : k = p.length := by omega
        have HE := Lib.hid (HY.out hE)
        clear hE HY HD
        have HW := Lib.hid hW
        clear hW
        go_wp2
        go_ret
        exact ⟨by rw [HE.out]; rfl, q, HW.out⟩
  · have t0 : ((p.length : Int) != (p'.length : Int)) = true := by simp; omega
    have t0' : (p.length != p'.length) = true := by simpa using hne
    have HEB : Hid (decide (p = p') = false) := Lib.hid (by rw [decide_eq_false_iff_not]; rintro rfl; exact hne rfl)
    clear hne
    go_enter Try.func15, Try.ntmps15
    go_wp2
    go_ret
    exact ⟨by rw [HEB.out]; rfl, 0, rfl⟩
theorem drewN_below18 (w : World) (q : Nat) : Below w.heap.size w (w.drewN q) := below_drewN (Below.refl _ _) q
end Go.Proofs.Ytdjhpajmbddffaa
