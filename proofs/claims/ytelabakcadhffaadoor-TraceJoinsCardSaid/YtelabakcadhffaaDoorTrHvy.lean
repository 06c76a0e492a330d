/- Stage 26: heavy of any answer. -/
import Derived.Test.YtelabakcadhffaaDoorTrArg
import Derived.Lib.QuietBelow
import Derived.BigQuiet
set_option linter.unusedSimpArgs false
set_option linter.unusedVariables false
namespace Go.Proofs.YtelabakcadhffaaDoor
open Go.ChangeShapes Go.WideShapes Go.ChangeAt Go.RowKit Go.Joins Go.Deep Go.Sort

/-- Not more than is looked at. -/
def Fits (x : An) : Prop := x.val.length ≤ 4000 ∧ x.P.length ≤ 1000 ∧ ∀ y ∈ x.P, y.key.size ≤ 4000 ∧ y.val.length ≤ 4000
def HvyRes (x : An) (w w' : World) (e : Ending) : Prop := ∃ hb : Bool, e = .returned (.bool hb) ∧ (hb = false → Fits x) ∧ Below w.heap.size w w'
abbrev Sev (w : World) (b : Nat) (x : An) : Prop := w.cell? ⟨b, 5, none⟩ = some (.slice x.PA x.P.length x.pc) ∧ b < w.heap.size
set_option maxRecDepth 100000 in
set_option maxHeartbeats 4000000 in
theorem tr_heavy (x : An) (w : World) (hq : AnQ w x) (hb : BdA x 281474976710656) :
    Calls Tryd.prog 8 #[.agg #[.int .i64 x.er, .int .i64 x.n, .int .i64 x.m, .int .i64 x.c, .bool x.fd, .slice x.VA x.val.length x.vc, .slice x.PA x.P.length x.pc]] w fun e w' => HvyRes x w w' e := by
  obtain ⟨er, n, m, c, fd, VA, val, vc, PA, P, pc⟩ := x
  have HB0 : Hid (Below w.heap.size w (w.alloc (.cells #[.int .i64 er, .int .i64 n, .int .i64 m, .int .i64 c, .bool fd, .slice VA val.length vc, .slice PA P.length pc] 34))) := Lib.hid (by (repeat' (first | (with_reducible exact Below.refl _ _) | (with_reducible assumption) | (with_reducible refine Below.trans ?_ (Below.mono (by with_reducible assumption) ?_)) | (with_reducible refine Below.alloc ?_ ?_ _) | (with_reducible refine Below.setCell ?_ ?_ _) | (with_reducible refine below_drewN ?_ _) | (with_reducible refine Below.drew ?_) | go_size)))
  have Y0 : Hid ((w.alloc (.cells #[.int .i64 er, .int .i64 n, .int .i64 m, .int .i64 c, .bool fd, .slice VA val.length vc, .slice PA P.length pc] 34)).cell? ⟨w.heap.size, 6, none⟩ = some (.slice PA P.length pc)) := Lib.hid (by simp)
  have hrow : RowG Pa.cs w PA P := hq.row
  have hmx : val.length ≤ maxLen := hq.mx
  have hmp : P.length ≤ maxLen := hq.mp
  have HROW := Lib.hid hrow
  have HBD : Hid (∀ y ∈ P, y.key.size ≤ 281474976710656 ∧ y.val.length ≤ 281474976710656) := Lib.hid hb
  have hv1 : (val.length : Int) ≤ 9223372036854775807 := by unfold maxLen at hmx; omega
  have hp1 : (P.length : Int) ≤ 9223372036854775807 := by unfold maxLen at hmp; omega
  clear hq hb hrow hmx hmp
  go_enter Tryd.func8, Tryd.ntmps8
  go_wp2_with fail
  go_loopw [3, 4] (fun s i wr => ∃ (k : Nat) (N : Int), k ≤ P.length ∧ i = .int .i64 k ∧ s = .int .i64 N ∧ Hid ((val.length : Int) + 5 * k ≤ N ∧ N ≤ 9223372036854775807 ∧ (∀ (j : Nat) (y : Pa), j < k → P[j]? = some y → y.key.size ≤ 4000 ∧ y.val.length ≤ 4000)) ∧ Below (w.heap.size + 1) (w.alloc (.cells #[.int .i64 er, .int .i64 n, .int .i64 m, .int .i64 c, .bool fd, .slice VA val.length vc, .slice PA P.length pc] 34)) wr) (fun _ i _ => P.length - (intOf i).toNat)
  case atStart => exact ⟨0, val.length, Nat.zero_le _, rfl, rfl, Lib.hid ⟨by omega, hv1, fun j y h => by omega⟩, Below.refl _ _⟩
  case round =>
    obtain ⟨k, N, hk, rfl, rfl, HN, hB⟩ := hrel
    have y6 := (hB.cell (p := ⟨w.heap.size, 6, none⟩) (by show w.heap.size < _; omega)).trans Y0.out
    have hBw := HB0.out.trans (hB.mono (by omega))
    have hN1 := HN.out.1
    have hN2 := HN.out.2.1
    have hsz : w.heap.size + 1 ≤ wr.heap.size := by have := hB.size; simpa using this
    by_cases hlt : k < P.length
    · have tk : decide ((k : Int) < (P.length : Int)) = true := by simpa using hlt
      have lk : (k : Int) < (P.length : Int) := by omega
      have wk : IntKind.i64.wrap ((k : Int) + 1) = (k : Int) + 1 := IntWalk.i64_in _ (by omega)
      have hx : P[k]? = some P[k] := List.getElem?_eq_getElem hlt
      have hbd := HBD.out P[k] (List.getElem_mem hlt)
      obtain ⟨B, O, rfl, lB, hc⟩ := HROW.out (by omega)
      have q0 : wr.cell? ⟨B, O + k * 2, none⟩ = _ := (hBw.cell (p := ⟨B, O + k * 2, none⟩) lB).trans (hc (k * 2) _ ((fm_at Pa.cs 2 Pa.len2 hx 0 (by omega)).trans rfl))
      have q1 : wr.cell? ⟨B, O + k * 2 + 1, none⟩ = _ := (hBw.cell (p := ⟨B, O + (k * 2 + 1), none⟩) lB).trans (hc (k * 2 + 1) _ ((fm_at Pa.cs 2 Pa.len2 hx 1 (by omega)).trans rfl))
      have HNX : Hid (P[k].key.size ≤ 4000 ∧ P[k].val.length ≤ 4000 → ∀ (j : Nat) (y : Pa), j < k + 1 → P[j]? = some y → y.key.size ≤ 4000 ∧ y.val.length ≤ 4000) := Lib.hid (fun h j y hj hy => by
        by_cases hjk : j = k
        · subst hjk
          rw [hx] at hy
          injection hy with hy
          subst hy
          exact h
        · exact HN.out.2.2 j y (by omega) hy)
      generalize P[k] = y at *
      obtain ⟨key, v2, A2, c2⟩ := y
      have q0 : wr.cell? ⟨B, O + k * 2, none⟩ = some (.string key) := q0
      have q1 : wr.cell? ⟨B, O + k * 2 + 1, none⟩ = some (.slice A2 v2.length c2) := q1
      have hb1 : key.size ≤ 281474976710656 := hbd.1
      have hb2 : v2.length ≤ 281474976710656 := hbd.2
      have HNX : Hid (key.size ≤ 4000 ∧ v2.length ≤ 4000 → ∀ (j : Nat) (y : Pa), j < k + 1 → P[j]? = some y → y.key.size ≤ 4000 ∧ y.val.length ≤ 4000) := HNX
      clear hbd hx hc
      by_cases h1 : 4000 < v2.length
      · have u1 : decide ((4000 : Int) < (v2.length : Int)) = true := by simp only [decide_eq_true_eq]; omega
        have HF := Lib.hid hBw
        clear h1 hB HN
        go_wp2_with fail
        go_ret
        exact ⟨true, rfl, (fun h => by cases h), HF.out⟩
      have u1 : decide ((4000 : Int) < (v2.length : Int)) = false := by simp only [decide_eq_false_iff_not]; omega
      by_cases h2 : 4000 < key.size
      · have u2 : decide ((4000 : Int) < (key.size : Int)) = true := by simp only [decide_eq_true_eq]; omega
        have HF := Lib.hid hBw
        clear h1 h2 hB HN
        go_wp2_with fail
        go_ret
        exact ⟨true, rfl, (fun h => by cases h), HF.out⟩
      have u2 : decide ((4000 : Int) < (key.size : Int)) = false := by simp only [decide_eq_false_iff_not]; omega
      by_cases h3 : 4000 < N
      · have u3 : decide ((4000 : Int) < N) = true := by simp only [decide_eq_true_eq]; omega
        have HF := Lib.hid hBw
        clear h1 h2 h3 hB HN
        go_wp2_with fail
        go_ret
        exact ⟨true, rfl, (fun h => by cases h), HF.out⟩
      have u3 : decide ((4000 : Int) < N) = false := by simp only [decide_eq_false_iff_not]; omega
      have HNY := Lib.hid (HNX.out ⟨by omega, by omega⟩)
      have n1 : IntKind.i64.wrap (N + 5) = N + 5 := IntWalk.i64_in _ (by omega)
      have n2 : IntKind.i64.wrap (N + 5 + (key.size : Int)) = N + 5 + (key.size : Int) := IntWalk.i64_in _ (by omega)
      have n3 : IntKind.i64.wrap (N + 5 + (key.size : Int) + (v2.length : Int)) = N + 5 + (key.size : Int) + (v2.length : Int) := IntWalk.i64_in _ (by omega)
      have HNB : Hid ((val.length : Int) + 5 * ((k + 1 : Nat) : Int) ≤ N + 5 + (key.size : Int) + (v2.length : Int) ∧ N + 5 + (key.size : Int) + (v2.length : Int) ≤ 9223372036854775807) := Lib.hid (by omega)
      have HBR := Lib.hid hB
      have HX : True := trivial
      clear h1 h2 h3 HN HNX hB hBw hN1 hN2 hb1 hb2
      go_wp2_with fail
      have ky := fun d os => cell_regrown y6 d os
      have k0 := fun d os => cell_regrown q0 d os
      have k1 := fun d os => cell_regrown q1 d os
      clear y6 q0 q1
      refine wp_region_quiet_below (by kernel_rfl) (by kernel_rfl) ?_
      repeat (go_big_quiet_step ((go_at_call 7; exact HX)))
      refine wpQuiet_nil ?_
      intro _ hw'
      obtain ⟨⟨dq, osq⟩, hw''⟩ := hw'
      subst hw''
      have HB9 := Lib.hid (HBR.out.trans ((below_regrown wr dq osq).mono hsz))
      clear ky k0 k1
      generalize hgw : grow (redrawn wr dq) osq = W9 at *
      clear hgw
      go_wp2
      go_roundw
      case rel => exact ⟨k + 1, _, by omega, by go_num, rfl, Lib.hid ⟨HNB.out.1, HNB.out.2, HNY.out⟩, HB9.out⟩
      case measure => simp [intOf]; omega
    · obtain rfl : k = P.length := by omega
      have tk : decide ((P.length : Int) < (P.length : Int)) = false := by simp
      have HF := Lib.hid hBw
      have HFT : Hid (decide ((4000 : Int) < N) = false → Fits ⟨er, n, m, c, fd, VA, val, vc, PA, P, pc⟩) := Lib.hid (fun h => by
        have h' : ¬ (4000 : Int) < N := by simpa using h
        refine ⟨by show val.length ≤ 4000; omega, by show P.length ≤ 1000; omega, fun y hy => ?_⟩
        obtain ⟨j, hj, e⟩ := List.mem_iff_getElem.1 hy
        exact HN.out.2.2 j y hj (by rw [← e]; exact List.getElem?_eq_getElem hj))
      clear hB hBw HN hN1 hN2
      go_wp2_with fail
      go_ret
      exact ⟨_, rfl, HFT.out, HF.out⟩
end Go.Proofs.YtelabakcadhffaaDoor
