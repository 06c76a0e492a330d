/- Stage 7: AgreeIn. -/
import Derived.Test.YtdkcdaknifikeaaKnown7
import Derived.Test.YtdkcdaknifikeaaLaw
set_option linter.unusedSimpArgs false
set_option linter.unusedVariables false
namespace Go.Proofs.Ytdkcdaknifikeaa
open Go.ChangeShapes Go.WideShapes Go.ChangeAt Go.RowKit Go.Joins

def atB (a b : Int) (i : Int × Int) : Bool := decide (i.1 ≤ a) && decide (b ≤ i.2)
def inK (z : Nat → Int) (x : Int) (k : Nat) : Nat := (ivs z k).countP (Ag.inB x)
def atK (z : Nat → Int) (a b : Int) (k : Nat) : Nat := (ivs z k).countP (atB a b)
theorem inK_succ (z : Nat → Int) (x : Int) (k : Nat) : inK z x (k + 1) = inK z x k + if Ag.inB x (z (k * 2), z (k * 2 + 1)) then 1 else 0 := by
  unfold inK
  rw [ivs_succ, List.countP_append]
  simp [List.countP_cons]
theorem atK_succ (z : Nat → Int) (a b : Int) (k : Nat) : atK z a b (k + 1) = atK z a b k + if atB a b (z (k * 2), z (k * 2 + 1)) then 1 else 0 := by
  unfold atK
  rw [ivs_succ, List.countP_append]
  simp [List.countP_cons]
theorem inK_le (z : Nat → Int) (x : Int) (k : Nat) : inK z x k ≤ k := by have : inK z x k ≤ (ivs z k).length := List.countP_le_length; rwa [ivs_len] at this
theorem atK_le (z : Nat → Int) (a b : Int) (k : Nat) : atK z a b k ≤ k := by have : atK z a b k ≤ (ivs z k).length := List.countP_le_length; rwa [ivs_len] at this
theorem agreeIn_out (A : Option Addr) (n c : Nat) (x : Int) (w : World) (h : 200 < n) (hn : n ≤ maxLen) :
    Calls Try.prog 5 #[.slice A n c, .int .i64 x] w fun e w' => e = .returned (.bool true) ∧ Below w.heap.size w w' := by
  unfold maxLen at hn
  have h' : (200 : Int) < (n : Int) := by omega
  go_enter Try.func5, Try.ntmps5
  go_wp2
  go_ret
  exact ⟨rfl, Below.refl _ _⟩
set_option maxRecDepth 100000 in
set_option maxHeartbeats 4000000 in
theorem agreeIn_in (z : Nat → Int) (A : Option Addr) (n c : Nat) (x : Int) (w : World) (hn : n ≤ 200) (hz : FlatAt w A 2 n z) :
    Calls Try.prog 5 #[.slice A n c, .int .i64 x] w fun e w' => e = .returned (.bool true) ∧ Below w.heap.size w w' := by
  have hn' : (n : Int) ≤ 200 := by omega
  have C := Lib.hid (most_any z A n c w (by omega) hz)
  have HZ := Lib.hid hz
  clear hz
  go_enter Try.func5, Try.ntmps5
  go_wp2_with fail
  refine C.out.mono ?_; rintro e w1 ⟨a, b, m, rfl, hm, hb1⟩
  have hml := most_le hm
  rw [ivs_len] at hml
  have HJ := Lib.hid (Ints2.new w1 a b 25)
  have HB1 := Lib.hid (hb1.alloc hb1.size (.cells #[.int .i64 a, .int .i64 b] 25))
  have hle := hm.le x
  have hab := hm.ab
  have hat : 0 < m → atK z a b n = m := fun h0 => hm.within h0
  have HLE := Lib.hid (show inK z x n ≤ m from hle)
  have HAT := Lib.hid hat
  have hz1 := hb1.size
  clear C hm hle hat hb1
  go_wp2
  go_loopw [7, 8, 9] (fun p q i wr => ∃ k : Nat, k ≤ n ∧ i = .int .i64 k ∧ p = .int .i64 (inK z x k : Int) ∧ q = .int .i64 (atK z a b k : Int) ∧ Ints2 wr w1.heap.size a b ∧ Below w.heap.size w wr) (fun _ _ i _ => n - (intOf i).toNat)
  case atStart => exact ⟨0, Nat.zero_le _, rfl, rfl, rfl, HJ.out, HB1.out⟩
  case round =>
    obtain ⟨k, hk, rfl, rfl, rfl, hJ, HB⟩ := hrel
    clear HJ HB1
    have l1 := inK_le z x k
    have l2 := atK_le z a b k
    have l1' : (inK z x k : Int) ≤ 200 := by omega
    have l2' : (atK z a b k : Int) ≤ 200 := by omega
    have zr := HB.size
    by_cases hlt : k < n
    · obtain ⟨B, O, rfl, hB, hcells⟩ := HZ.out (by omega)
      have x0 : wr.cell? ⟨B, O + k * 2, none⟩ = some (.int .i64 (z (k * 2))) := (HB.cell (p := ⟨B, O + k * 2, none⟩) hB).trans (hcells (k * 2) (by omega)).1
      have x1 : wr.cell? ⟨B, O + k * 2 + 1, none⟩ = some (.int .i64 (z (k * 2 + 1))) := (HB.cell (p := ⟨B, O + (k * 2 + 1), none⟩) hB).trans (hcells (k * 2 + 1) (by omega)).1
      have lk : (k : Int) < (n : Int) := by omega
      have HI := Lib.hid (inK_succ z x k)
      have HT := Lib.hid (atK_succ z a b k)
      obtain ⟨y0, y1, f0, f1, lt⟩ := hJ
      clear hcells
      generalize z (k * 2) = lo at *
      generalize z (k * 2 + 1) = hi at *
      generalize inK z x k = ik at *
      generalize atK z a b k = ak at *
      rcases (show x < lo ∨ (lo ≤ x ∧ hi < x) ∨ (lo ≤ x ∧ x ≤ hi) from by omega) with p1 | ⟨p1, p2⟩ | ⟨p1, p2⟩
      all_goals
        rcases (show a < lo ∨ (lo ≤ a ∧ hi < b) ∨ (lo ≤ a ∧ b ≤ hi) from by omega) with q1 | ⟨q1, q2⟩ | ⟨q1, q2⟩
        all_goals
          have ht := HT.out
          have hi' := HI.out
          simp only [Ag.inB, atB, Bool.and_eq_true, decide_eq_true_eq] at ht hi'
          first | rw [if_pos ⟨by omega, by omega⟩] at ht | rw [if_neg (by omega)] at ht
          first | rw [if_pos ⟨by omega, by omega⟩] at hi' | rw [if_neg (by omega)] at hi'
          have HT2 := Lib.hid ht
          have HI2 := Lib.hid hi'
          have d1 : decide (lo ≤ x) = !decide (x < lo) := by by_cases h : lo ≤ x <;> simp [h] <;> omega
          have d2 : decide (lo ≤ a) = !decide (a < lo) := by by_cases h : lo ≤ a <;> simp [h] <;> omega
          clear ht hi' HT HI
          (first | (have d3 : decide (x < lo) = true := by simpa using p1) | (have d3 : decide (x < lo) = false := by simp; omega))
          (first | (have d4 : decide (a < lo) = true := by simpa using q1) | (have d4 : decide (a < lo) = false := by simp; omega))
          rw [d3] at d1
          rw [d4] at d2
          simp only [Bool.not_true, Bool.not_false] at d1 d2
          clear d3 d4
          go_wp2
          go_quiet (fail)
          go_wp2
          go_roundw
          case rel => exact ⟨k + 1, by omega, by go_num, by rw [HI2.out]; go_num, by rw [HT2.out]; go_num, ⟨y0, y1, f0, f1, lt⟩, by (repeat' (first | (with_reducible exact Below.refl _ _) | (with_reducible assumption) | (with_reducible refine Below.trans ?_ (Below.mono (by with_reducible assumption) ?_)) | (with_reducible refine Below.alloc ?_ ?_ _) | (with_reducible refine Below.setCell ?_ ?_ _) | (with_reducible refine below_drewN ?_ _) | (with_reducible refine Below.drew ?_) | go_size))⟩
          case measure => simp [intOf]; omega
    · obtain rfl : k = n := by omega
      have hle := HLE.out
      have hle' : (inK z x k : Int) ≤ (m : Int) := by omega
      obtain ⟨y0, y1, f0, f1, lt⟩ := hJ
      rcases Nat.eq_zero_or_pos m with h0 | h0
      · have e0 : ((m : Int) == 0) = true := by simp [h0]
        clear hle h0 HAT
        go_wp2_with (go_at_call 14; refine (known7 _).mono ?_; rintro e w5 ⟨rfl, hb5⟩; obtain ⟨hc5, hf5⟩ := bcell hb5; have hz5 := hb5.size; (try simp only [World.size_alloc, World.size_setCell, World.heap_drewN] at hb5 hc5 hf5 hz5); (try have ha05 : w.heap.size < w5.heap.size := by omega); (try have ha15 : w.heap.size + 1 < w5.heap.size := by omega); (try have ha25 : w.heap.size + 2 < w5.heap.size := by omega); (try have hal5 : w.heap.size ≤ w5.heap.size := by omega); (try have ham5 : w.heap.size < w5.heap.size + 2 := by omega))
        go_ret
        go_light
        exact ⟨rfl, by (repeat' (first | (with_reducible exact Below.refl _ _) | (with_reducible assumption) | (with_reducible refine Below.trans ?_ (Below.mono (by with_reducible assumption) ?_)) | (with_reducible refine Below.alloc ?_ ?_ _) | (with_reducible refine Below.setCell ?_ ?_ _) | (with_reducible refine below_drewN ?_ _) | (with_reducible refine Below.drew ?_) | go_size))⟩
      · have e0 : ((m : Int) == 0) = false := by simp; omega
        have he := HAT.out h0
        have e1 : ((atK z a b k : Int) == (m : Int)) = true := by simp [he]
        clear hle h0 HAT he
        go_wp2_with (go_at_call 14; refine (known7 _).mono ?_; rintro e w5 ⟨rfl, hb5⟩; obtain ⟨hc5, hf5⟩ := bcell hb5; have hz5 := hb5.size; (try simp only [World.size_alloc, World.size_setCell, World.heap_drewN] at hb5 hc5 hf5 hz5); (try have ha05 : w.heap.size < w5.heap.size := by omega); (try have ha15 : w.heap.size + 1 < w5.heap.size := by omega); (try have ha25 : w.heap.size + 2 < w5.heap.size := by omega); (try have hal5 : w.heap.size ≤ w5.heap.size := by omega); (try have ham5 : w.heap.size < w5.heap.size + 2 := by omega))
        go_ret
        go_light
        exact ⟨rfl, by (repeat' (first | (with_reducible exact Below.refl _ _) | (with_reducible assumption) | (with_reducible refine Below.trans ?_ (Below.mono (by with_reducible assumption) ?_)) | (with_reducible refine Below.alloc ?_ ?_ _) | (with_reducible refine Below.setCell ?_ ?_ _) | (with_reducible refine below_drewN ?_ _) | (with_reducible refine Below.drew ?_) | go_size))⟩
set_option maxRecDepth 100000 in
theorem agreeIn_lifted (os : Os) (started : os.Started) (H : Type) (enc : TypeId × Value → H) :
    ReturnsInHanded {} Try.checked os 5 .any (Rows.agreeInSpec.pre6 enc Try.prog Try.f5 Rows.agreeInRow.domain false) (Rows.agreeInSpec.post enc Try.prog Try.f5 false true false false) := by
  refine returnsInHanded_of_change_sized (C := Try.checked) law_own started (by kernel_rfl) Try.func5
    (ChangeSpec.witness6 (enc := enc) (C := Try.checked) false ⟨#[], #[.slice none 0 0, .int .i64 0], []⟩ 8 (by kernel_rfl) (by kernel_rfl) (by kernel_rfl) (by kernel_rfl)) ?_
  intro W base args ds gs before hval0 hW hcnd hsz0 _
  have hval : ∀ (j : Nat) t v, Try.f5.params[j]? = some t → args[j]? = some v → Value.okWide Try.prog W .any base t v := hval0
  have hsz : (DataW.weightsEach Try.prog (Try.f5.params.toList ++ Rows.agreeInSpec.plain.varTypes Try.prog) (ds ++ gs)).all (· ≤ reachBytes) = true := hsz0
  have hW' := hW
  obtain ⟨p, q, hA0, hV, rfl, hfz, hnd⟩ := hW
  have hA : DataW.TrodAll enc Try.prog W 0 (fun _ => true) true Try.f5.params.toList args.toList ds p := hA0
  rw [Try.params5] at hA hval hsz
  have hsame : (Rows.agreeInSpec.fn H (ds ++ gs)).results = [.lit (.bool true)] ∧ (Rows.agreeInSpec.fn H (ds ++ gs)).args = ds ∧ (Rows.agreeInSpec.fn H (ds ++ gs)).vars = [] → ∀ W', Below W.heap.size W W' → Rows.agreeInSpec.post enc Try.prog Try.f5 false true false false W args (.bool true) W' :=
    fun h W' hb => law_post (tb := 4) hW' law_laid (by kernel_rfl) rfl Try.underlying4 h.1 h.2.1 rfl h.2.2 hb
  obtain ⟨v0, vs0, d0, ds0, p0, q0, hargs, rfl, rfl, h0, r0⟩ := trodAll_cons hA
  obtain ⟨v1, vs1, d1, ds1, p1, q1, rfl, rfl, rfl, h1, r1⟩ := trodAll_cons r0
  obtain ⟨rfl, rfl, rfl⟩ := trodAll_nil r1
  obtain rfl : args = #[v0, v1] := by cases args; simp_all
  obtain ⟨rfl, rfl⟩ := trodVars_none hV
  have hpost := hsame ⟨rfl, rfl, rfl⟩
  clear hsame hA0 hval0 hsz0
  obtain ⟨A, n, c, z, rfl, hn, hz⟩ := open_flat_slice (m := 2) Try.underlying22 (by kernel_rfl) (by kernel_rfl) (by omega) (hval 0 22 v0 rfl rfl) h0
  obtain ⟨a1, rfl, rfl, rfl, wf1⟩ := open_int Try.underlying3 (hval 1 3 v1 rfl rfl) h1
  by_cases h : n ≤ 200
  · exact (agreeIn_in z A n c _ W h hz).mono fun e W' ⟨he, hb⟩ => ⟨_, he, hpost W' hb⟩
  · exact (agreeIn_out A n c _ W (by omega) hn).mono fun e W' ⟨he, hb⟩ => ⟨_, he, hpost W' hb⟩
theorem agreeIn_holds : Rows.AgreeInSaid :=
  OpenClaim.holds_of_wide 5 Try.f5 rfl rfl rfl rfl rfl rfl rfl ⟨rfl, rfl, rfl, rfl, rfl⟩ rfl rfl rfl rfl rfl (by kernel_rfl) Try.func5 (by kernel_rfl)
    (of_decide_eq_true (by kernel_rfl)) (by unfold Func.isWrapper; first | (rw [if_pos (by decide +kernel)]; kernel_rfl) | (rw [if_neg (by decide +kernel)]; exact ⟨rfl, rfl⟩))
    (fun os started H enc _ => agreeIn_lifted os started H enc)
end Go.Proofs.Ytdkcdaknifikeaa
