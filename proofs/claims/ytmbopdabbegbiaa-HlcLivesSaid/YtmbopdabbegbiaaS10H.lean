/- Stage 10: Send and Hear of one stamp at any state; HlcRises. -/
import Derived.Test.YtmbopdabbegbiaaS10C
import Derived.Test.YtmbopdabbegbiaaS10F
import Derived.Test.YtmbopdabbegbiaaRef10Max
import Derived.Test.YtmbopdabbegbiaaArgFlat
set_option linter.unusedSimpArgs false
set_option linter.unusedVariables false
namespace Go.Proofs.Ytmbopdabbegbiaa
open Go.RowKit

/-- Hear of one stamp: an error and nothing, or the greater of both. -/
theorem hear1_any (m c bd n p q : Int) : (∃ r : Int, (r == 0) = false ∧ ∀ (b B : Nat) (w : World), Ints3 w b m c bd → w.cell? ⟨B, 0, none⟩ = some (.int .i64 p) → w.cell? ⟨B, 1, none⟩ = some (.int .i64 q) → B < w.heap.size → B ≠ b → Calls Try.prog 19 #[.pointer (some ⟨b, 0, none⟩), .int .i64 n, .slice (some ⟨B, 0, none⟩) 1 1] w fun e w' => e = .returned (.int .i64 r) ∧ Below w.heap.size w w')
    ∨ (isStampB p q = true ∧ ∀ (b B : Nat) (w : World), Ints3 w b m c bd → w.cell? ⟨B, 0, none⟩ = some (.int .i64 p) → w.cell? ⟨B, 1, none⟩ = some (.int .i64 q) → B < w.heap.size → B ≠ b → Calls Try.prog 19 #[.pointer (some ⟨b, 0, none⟩), .int .i64 n, .slice (some ⟨B, 0, none⟩) 1 1] w fun e w' => e = .returned (.int .i64 0) ∧ Only b w w' ∧ Ints3 w' b (mx1 m c p q) (mx2 m c p q) bd) := by
  cases hn : isMilliB n
  · exact .inl ⟨1, by decide, fun b B w _ _ _ _ _ => (hlc_hear_arg b n _ w hn).mono fun e w' ⟨he, hw⟩ => by subst hw; exact ⟨he, Below.refl _ _⟩⟩
  · cases hs : isStampB p q
    · exact .inl ⟨1, by decide, fun b B w _ h0 h1 _ _ => hlc_hear1_bad b B n p q w hn hs h0 h1⟩
    · by_cases hd : p ≤ n + 60000
      · exact .inr ⟨rfl, fun b B w k h0 h1 h2 h3 => hlc_hear1_ok b B m c bd n p q w k hn hs hd h0 h1 h2 h3⟩
      · exact .inl ⟨16, by decide, fun b B w _ h0 h1 h2 _ => hlc_hear1_far b B n p q w hn hs (by omega) h0 h1 h2⟩
/-- Send: an error and nothing, or a greater stamp below the bound. -/
theorem send_any (m c bd n : Int) (hs : isStampB m c = true) : (∃ r : Int, (r != 0) = true ∧ ∀ (b : Nat) (w : World), Ints3 w b m c bd → Calls Try.prog 17 #[.pointer (some ⟨b, 0, none⟩), .int .i64 n] w fun e w' => e = .returned (.tuple #[.agg #[.int .i64 0, .int .i64 0], .int .i64 r]) ∧ Below w.heap.size w w')
    ∨ (∃ m' c' : Int, isStampB m' c' = true ∧ cmp2 m' c' m c = 1 ∧ n ≤ m' ∧ m' < bd ∧ m ≤ m' ∧ (m' = m ∨ m' = n) ∧ c' ≤ c + 1 ∧ ∀ (b : Nat) (w : World), Ints3 w b m c bd → Calls Try.prog 17 #[.pointer (some ⟨b, 0, none⟩), .int .i64 n] w fun e w' => e = .returned (.tuple #[.agg #[.int .i64 m', .int .i64 c'], .int .i64 0]) ∧ Only b w w' ∧ Ints3 w' b m' c' bd) := by
  obtain ⟨m0, m1, c0, c1⟩ := stamp_bd hs
  cases hn : isMilliB n
  · exact .inl ⟨1, by decide, fun b w _ => hlc_send_arg b n w hn⟩
  · have hn' : 0 ≤ n ∧ n ≤ 281474976710655 := by simpa [isMilliB] using hn
    by_cases h : n ≤ m
    · by_cases hc : c = 65535
      · exact .inl ⟨17, by decide, fun b w k => hlc_send_full b m c bd n w k hn h hc⟩
      · by_cases hb : m < bd
        · refine .inr ⟨m, c + 1, ?_, ?_, h, hb, by omega, .inl rfl, by omega, fun b w k => hlc_send_ok1 b m c bd n w k hn h (by omega) hb⟩
          · simp [isStampB, isMilliB]; omega
          · have : ¬ c + 1 < c := by omega
            simp [cmp2, or2, cmp1, this]; omega
        · exact .inl ⟨18, by decide, fun b w k => hlc_send_behind1 b m c bd n w k hn h (by omega) (by omega)⟩
    · by_cases hb : n < bd
      · refine .inr ⟨n, 0, ?_, ?_, by omega, hb, by omega, .inr rfl, by omega, fun b w k => hlc_send_ok2 b m c bd n w k hn (by omega) hb⟩
        · simp [isStampB, isMilliB]; omega
        · have h2 : ¬ n < m := by omega
          have h3 : m < n := by omega
          simp [cmp2, or2, cmp1, h2, h3]
      · exact .inl ⟨18, by decide, fun b w k => hlc_send_behind2 b m c bd n w k hn (by omega) (by omega)⟩
/-- Raise: whatever it says, the last stamp is as it was. -/
theorem raise_any (m c bd n : Int) : ∃ r bd' : Int, ∀ (b : Nat) (w : World), Ints3 w b m c bd → Calls Try.prog 21 #[.pointer (some ⟨b, 0, none⟩), .int .i64 n] w fun e w' => e = .returned (.int .i64 r) ∧ Only b w w' ∧ Ints3 w' b m c bd' := by
  by_cases h : bd ≤ n
  · cases hn : isMilliB n
    · exact ⟨1, bd, fun b w k => (hlc_raise_no b m c bd n w k hn).mono fun e w' ⟨he, hw⟩ => by subst hw; exact ⟨he, Only.refl _ _, k⟩⟩
    · exact ⟨0, n, fun b w k => hlc_raise_ok b m c bd n w k h hn⟩
  · exact ⟨1, bd, fun b w k => (hlc_raise_low b m c bd n w k (by omega)).mono fun e w' ⟨he, hw⟩ => by subst hw; exact ⟨he, Only.refl _ _, k⟩⟩
theorem mx_stamp {m c p q : Int} (h1 : isStampB m c = true) (h2 : isStampB p q = true) : isStampB (mx1 m c p q) (mx2 m c p q) = true := by
  unfold mx1 mx2
  split <;> assumption
theorem ref10_compare_eq {m c p q v : Int} (h : cmp2 m c p q = v) (w : World) : Calls Try.prog 26 #[.agg #[.int .i64 m, .int .i64 c], .agg #[.int .i64 p, .int .i64 q]] w fun e w' => e = .returned (.int .i64 v) ∧ Below w.heap.size w w' := by
  subst h
  exact ref10_compare m c p q w
theorem ref10_max2 (B : Nat) (m c p q : Int) (w : World) (h0 : w.cell? ⟨B, 0, none⟩ = some (.int .i64 m)) (h1 : w.cell? ⟨B, 1, none⟩ = some (.int .i64 c)) (h2 : w.cell? ⟨B, 2, none⟩ = some (.int .i64 p)) (h3 : w.cell? ⟨B, 3, none⟩ = some (.int .i64 q)) (hB : B < w.heap.size) :
    Calls Try.prog 25 #[.slice (some ⟨B, 0, none⟩) 2 2] w fun e w' => e = .returned (.agg #[.int .i64 (mx1 m c p q), .int .i64 (mx2 m c p q)]) ∧ Below w.heap.size w w' := by
  have h := ref10_max_any (fun j => if j = 0 then m else p) (fun j => if j = 0 then c else q) (some ⟨B, 0, none⟩) 2 2 w (by omega) (fun _ => ⟨B, 0, rfl, hB, by
    intro j hj
    rcases (show j = 0 ∨ j = 1 from by omega) with rfl | rfl
    · exact ⟨by simpa using h0, by simpa using h1⟩
    · exact ⟨by simpa using h2, by simpa using h3⟩⟩)
  exact h
set_option maxHeartbeats 4000000 in
theorem rises_all (A : Option Addr) (n c : Nat) (z : Nat → Int) (w : World) (hn : n ≤ maxLen) (hz : FlatAt w A 6 n z) :
    Calls Try.prog 4 #[.slice A n c] w fun e w' => e = .returned (.bool true) ∧ Below w.heap.size w w' := by
  unfold maxLen at hn
  have HZ := Lib.hid hz
  clear hz
  go_enter Try.func4, Try.ntmps4
  go_wp2_with fail
  refine (hlc_new_ok 0 _ (by decide)).mono ?_; rintro e w' ⟨rfl, rfl⟩
  have k0 := (Ints3.new w 0 0 0 73).alloc (.cells #[.int .i64 0, .int .i64 0] 32)
  have j0 := Ints2.new1 w (.cells #[.int .i64 0, .int .i64 0, .int .i64 0] 73) 0 0 32
  have HB0 : Below w.heap.size w ((w.alloc (.cells #[.int .i64 0, .int .i64 0, .int .i64 0] 73)).alloc (.cells #[.int .i64 0, .int .i64 0] 32)) := by (repeat' (first | (with_reducible exact Below.refl _ _) | (with_reducible assumption) | (with_reducible refine Below.trans ?_ (Below.mono (by with_reducible assumption) ?_)) | (with_reducible refine Below.alloc ?_ ?_ _) | (with_reducible refine Below.setCell ?_ ?_ _) | (with_reducible refine below_drewN ?_ _) | (with_reducible refine Below.drew ?_) | go_size))
  have K0 := Lib.hid k0
  have J0 := Lib.hid j0
  clear k0 j0
  go_wp2_with fail
  go_loopw [6] (fun i wr => ∃ (k : Nat) (m cc bd : Int), k ≤ n ∧ isStampB m cc = true ∧ i = .int .i64 k ∧ Ints3 wr w.heap.size m cc bd ∧ Ints2 wr (w.heap.size + 1) m cc ∧ Below w.heap.size w wr) (fun i _ => n - (intOf i).toNat)
  case atStart => exact ⟨0, 0, 0, 0, Nat.zero_le _, by decide, rfl, K0.out, J0.out, HB0⟩
  case round =>
    obtain ⟨k, m, cc, bd, k1, hs, rfl, KI, JI, HB⟩ := hrel
    clear K0 J0 HB0
    have HS := Lib.hid hs
    clear hs
    have lr := JI.lt
    have l0 : w.heap.size < wr.heap.size := by omega
    by_cases hlt : k < n ∧ k < 200
    · obtain ⟨hlt, h200⟩ := hlt
      have h2 : (k : Int) < 200 := by omega
      have hk : (k : Int) < (n : Int) := by omega
      obtain ⟨B, O, rfl, hB, hcells⟩ := HZ.out (by omega)
      have lB : B < wr.heap.size := by omega
      have hc : ∀ j, j < 6 → wr.cell? ⟨B, O + (k * 6 + j), none⟩ = some (.int .i64 (z (k * 6 + j))) := fun j hj => (HB.cell (p := ⟨B, O + (k * 6 + j), none⟩) hB).trans (hcells (k * 6 + j) (by omega)).1
      have x0 : wr.cell? ⟨B, O + k * 6, none⟩ = some (.int .i64 (z (k * 6))) := hc 0 (by omega)
      have x1 : wr.cell? ⟨B, O + k * 6 + 1, none⟩ = some (.int .i64 (z (k * 6 + 1))) := hc 1 (by omega)
      have x2 : wr.cell? ⟨B, O + k * 6 + 2, none⟩ = some (.int .i64 (z (k * 6 + 2))) := hc 2 (by omega)
      have x3 : wr.cell? ⟨B, O + k * 6 + 3, none⟩ = some (.int .i64 (z (k * 6 + 3))) := hc 3 (by omega)
      have x4 : wr.cell? ⟨B, O + k * 6 + 4, none⟩ = some (.int .i64 (z (k * 6 + 4))) := hc 4 (by omega)
      have x5 : wr.cell? ⟨B, O + k * 6 + 5, none⟩ = some (.int .i64 (z (k * 6 + 5))) := hc 5 (by omega)
      clear hc hcells
      generalize z (k * 6) = a0 at *
      generalize z (k * 6 + 1) = a1 at *
      generalize z (k * 6 + 2) = a2 at *
      generalize z (k * 6 + 3) = a3 at *
      generalize z (k * 6 + 4) = a4 at *
      generalize z (k * 6 + 5) = a5 at *
      by_cases e3 : a0 = 3
      · have d2 : (a0 == 2) = false := by simp; omega
        have d4 : (a0 == 4) = false := by simp; omega
        have d3 : (a0 == 3) = true := by simp; omega
        clear e3
        obtain ⟨r, bd', hr⟩ := raise_any m cc bd a1
        have HR := Lib.hid hr
        clear hr
        go_wp2_with fail
        refine (HR.out _ _ (KI.alloc _)).mono ?_; rintro e w2 ⟨rfl, ho2, k2⟩
        go_wp2
        go_roundw
        case rel => exact ⟨k + 1, m, cc, bd', by omega, HS.out, by go_num, k2, (JI.alloc _).only ho2 (by omega), (HB.alloc HB.size _).trans (ho2.below (Nat.le_refl _) (by simp; omega))⟩
        case measure => simp [intOf]; omega
      · have d3 : (a0 == 3) = false := by simp; omega
        clear e3
        by_cases e2 : a0 = 2 ∨ a0 = 4
        · rcases hear1_any m cc bd a1 a2 a3 with ⟨r, r0, hr⟩ | ⟨hs2, hr⟩
          · have HR := Lib.hid hr
            clear hr
            rcases e2 with e2 | e2
            · have d2 : (a0 == 2) = true := by simp; omega
              clear e2
              go_wp2_with fail
              refine (HR.out _ (wr.heap.size + 1) _ ((KI.alloc _).alloc _) (by simp [go_sem]) (by simp [go_sem]) (by simp) (by omega)).mono ?_; rintro e w2 ⟨rfl, hb2⟩
              have R0 : (r == 0) = false := r0
              clear r0 x0 x1 x2 x3 x4 x5 d3
              set_option maxRecDepth 5000 in go_wp2
              go_roundw
              case rel => exact ⟨k + 1, m, cc, bd, by omega, HS.out, by go_num, ((KI.alloc _).alloc _).below hb2 (by simp; omega), ((JI.alloc _).alloc _).below hb2 (by simp; omega), ((HB.alloc HB.size _).alloc (by simp; omega) _).trans (hb2.mono (by simp; omega))⟩
              case measure => simp [intOf]; omega
            · have d2 : (a0 == 2) = false := by simp; omega
              have d4 : (a0 == 4) = true := by simp; omega
              clear e2
              go_wp2_with fail
              refine (HR.out _ (wr.heap.size + 1) _ ((KI.alloc _).alloc _) (by simp [go_sem]) (by simp [go_sem]) (by simp) (by omega)).mono ?_; rintro e w2 ⟨rfl, hb2⟩
              have R0 : (r == 0) = false := r0
              clear r0 x0 x1 x2 x3 x4 x5 d3
              set_option maxRecDepth 5000 in go_wp2
              go_roundw
              case rel => exact ⟨k + 1, m, cc, bd, by omega, HS.out, by go_num, ((KI.alloc _).alloc _).below hb2 (by simp; omega), ((JI.alloc _).alloc _).below hb2 (by simp; omega), ((HB.alloc HB.size _).alloc (by simp; omega) _).trans (hb2.mono (by simp; omega))⟩
              case measure => simp [intOf]; omega
          · have HR := Lib.hid hr
            have HS2 := Lib.hid (mx_stamp HS.out hs2)
            clear hr hs2
            rcases e2 with e2 | e2
            · have d2 : (a0 == 2) = true := by simp; omega
              clear e2
              go_wp2_with fail
              refine (HR.out _ (wr.heap.size + 1) _ ((KI.alloc _).alloc _) (by simp [go_sem]) (by simp [go_sem]) (by simp) (by omega)).mono ?_; rintro e w2 ⟨rfl, ho2, k2⟩
              have j2 : Ints2 w2 (w.heap.size + 1) m cc := ((JI.alloc _).alloc _).only ho2 (by omega)
              have HB2 : Below w.heap.size w w2 := ((HB.alloc HB.size _).alloc (by simp; omega) _).trans (ho2.below (Nat.le_refl _) (by simp; omega))
              have s2 : w2.cell? ⟨wr.heap.size, 2, none⟩ = some (.int .i64 a2) := (ho2.cell _ _ (by simp; omega) (by omega)).trans (by simp [go_sem])
              have s3 : w2.cell? ⟨wr.heap.size, 3, none⟩ = some (.int .i64 a3) := (ho2.cell _ _ (by simp; omega) (by omega)).trans (by simp [go_sem])
              have z2 : wr.heap.size + 1 + 1 ≤ w2.heap.size := by have := ho2.size; simpa using this
              have l2 := j2.lt
              have j0 := j2.c0
              have j1 := j2.c1
              clear ho2
              go_wp2_with fail
              refine (ref10_max2 w2.heap.size m cc a2 a3 _ (by simp [go_sem]) (by simp [go_sem]) (by simp [go_sem]) (by simp [go_sem]) (by simp)).mono ?_; rintro e w3 ⟨rfl, hb3⟩
              have K3 := (k2.alloc (.cells #[.int .i64 m, .int .i64 cc, .int .i64 a2, .int .i64 a3] 32)).below hb3 (by simp; omega)
              have J3 := (j2.alloc (.cells #[.int .i64 m, .int .i64 cc, .int .i64 a2, .int .i64 a3] 32)).below hb3 (by simp; omega)
              have HB3 : Below w.heap.size w w3 := (HB2.alloc HB2.size _).trans (hb3.mono (by simp; omega))
              have q0 := J3.c0
              have q1 := J3.c1
              have g0 := J3.f0
              have g1 := J3.f1
              clear hb3 j0 j1 s2 s3 x0 x1 x2 x3 x4 x5 d3
              set_option maxRecDepth 5000 in go_wp2
              go_roundw
              case rel => exact ⟨k + 1, mx1 m cc a2 a3, mx2 m cc a2 a3, bd, by omega, HS2.out, by go_num, (K3.other (by simp) _).other (by simp) _, (J3.set0 _).set1 _, (HB3.setCell (by simp) _).setCell (by simp) _⟩
              case measure => simp [intOf]; omega
            · have d2 : (a0 == 2) = false := by simp; omega
              have d4 : (a0 == 4) = true := by simp; omega
              clear e2
              go_wp2_with fail
              refine (HR.out _ (wr.heap.size + 1) _ ((KI.alloc _).alloc _) (by simp [go_sem]) (by simp [go_sem]) (by simp) (by omega)).mono ?_; rintro e w2 ⟨rfl, ho2, k2⟩
              have j2 : Ints2 w2 (w.heap.size + 1) m cc := ((JI.alloc _).alloc _).only ho2 (by omega)
              have HB2 : Below w.heap.size w w2 := ((HB.alloc HB.size _).alloc (by simp; omega) _).trans (ho2.below (Nat.le_refl _) (by simp; omega))
              have s2 : w2.cell? ⟨wr.heap.size, 2, none⟩ = some (.int .i64 a2) := (ho2.cell _ _ (by simp; omega) (by omega)).trans (by simp [go_sem])
              have s3 : w2.cell? ⟨wr.heap.size, 3, none⟩ = some (.int .i64 a3) := (ho2.cell _ _ (by simp; omega) (by omega)).trans (by simp [go_sem])
              have z2 : wr.heap.size + 1 + 1 ≤ w2.heap.size := by have := ho2.size; simpa using this
              have l2 := j2.lt
              have j0 := j2.c0
              have j1 := j2.c1
              clear ho2
              go_wp2_with fail
              refine (ref10_max2 w2.heap.size m cc a2 a3 _ (by simp [go_sem]) (by simp [go_sem]) (by simp [go_sem]) (by simp [go_sem]) (by simp)).mono ?_; rintro e w3 ⟨rfl, hb3⟩
              have K3 := (k2.alloc (.cells #[.int .i64 m, .int .i64 cc, .int .i64 a2, .int .i64 a3] 32)).below hb3 (by simp; omega)
              have J3 := (j2.alloc (.cells #[.int .i64 m, .int .i64 cc, .int .i64 a2, .int .i64 a3] 32)).below hb3 (by simp; omega)
              have HB3 : Below w.heap.size w w3 := (HB2.alloc HB2.size _).trans (hb3.mono (by simp; omega))
              have q0 := J3.c0
              have q1 := J3.c1
              have g0 := J3.f0
              have g1 := J3.f1
              clear hb3 j0 j1 s2 s3 x0 x1 x2 x3 x4 x5 d3
              set_option maxRecDepth 5000 in go_wp2
              go_roundw
              case rel => exact ⟨k + 1, mx1 m cc a2 a3, mx2 m cc a2 a3, bd, by omega, HS2.out, by go_num, (K3.other (by simp) _).other (by simp) _, (J3.set0 _).set1 _, (HB3.setCell (by simp) _).setCell (by simp) _⟩
              case measure => simp [intOf]; omega
        · have d2 : (a0 == 2) = false := by simp; omega
          have d4 : (a0 == 4) = false := by simp; omega
          clear e2
          rcases send_any m cc bd a1 HS.out with ⟨r, r0, hr⟩ | ⟨m', c', hs', h1, h2', h3, _, _, _, hr⟩
          · have HR := Lib.hid hr
            clear hr
            go_wp2_with fail
            refine (HR.out _ _ (KI.alloc _)).mono ?_; rintro e w2 ⟨rfl, hb2⟩
            have R0 : (r != 0) = true := r0
            clear r0 x0 x1 x2 x3 x4 x5 d3 d2 d4
            set_option maxRecDepth 5000 in go_wp2
            go_roundw
            case rel => exact ⟨k + 1, m, cc, bd, by omega, HS.out, by go_num, ((KI.alloc _).below hb2 (by simp; omega)).alloc _, ((JI.alloc _).below hb2 (by simp; omega)).alloc _, Below.alloc ((HB.alloc HB.size _).trans (hb2.mono (by simp; omega))) (by have := hb2.size; simp at this; omega) _⟩
            case measure => simp [intOf]; omega
          · have HR := Lib.hid hr
            have HS' := Lib.hid hs'
            have H1 := Lib.hid h1
            clear hr hs' h1
            go_wp2_with fail
            refine (HR.out _ _ (KI.alloc _)).mono ?_; rintro e w2 ⟨rfl, ho2, k2⟩
            have j2 : Ints2 w2 (w.heap.size + 1) m cc := (JI.alloc _).only ho2 (by omega)
            have HB2 : Below w.heap.size w w2 := (HB.alloc HB.size _).trans (ho2.below (Nat.le_refl _) (by simp; omega))
            have s1 : w2.cell? ⟨wr.heap.size, 1, none⟩ = some (.int .i64 a1) := (ho2.cell _ _ (by simp) (by omega)).trans (by simp [go_sem])
            have z2 : wr.heap.size + 1 ≤ w2.heap.size := by have := ho2.size; simpa using this
            have l2 := j2.lt
            have l3 : wr.heap.size < w2.heap.size := by omega
            have j0 := j2.c0
            have j1 := j2.c1
            clear ho2
            have WA := Ints2.new w2 m' c' 32
            have JA := j2.alloc (.cells #[.int .i64 m', .int .i64 c'] 32)
            have KA := k2.alloc (.cells #[.int .i64 m', .int .i64 c'] 32)
            have SA : (w2.alloc (.cells #[.int .i64 m', .int .i64 c'] 32)).cell? ⟨wr.heap.size, 1, none⟩ = some (.int .i64 a1) := ((Below.refl _ _).alloc (Nat.le_refl _) _).cell (p := ⟨wr.heap.size, 1, none⟩) l3 |>.trans s1
            have ZA : (w2.alloc (.cells #[.int .i64 m', .int .i64 c'] 32)).heap.size = w2.heap.size + 1 := World.size_alloc _ _
            have t1 : decide (m' < a1) = false := by simp; omega
            have t2 : decide (bd ≤ m') = false := by simp; omega
            clear x0 x1 x2 x3 x4 x5 d3 d2 d4
            go_wp2
            go_region_held3 (fun w' => w'.cell? ⟨w2.heap.size, 0, none⟩ = some (.int .i64 m') ∧ w'.cell? ⟨w2.heap.size, 1, none⟩ = some (.int .i64 c') ∧ w'.cell? ⟨w.heap.size + 1, 0, none⟩ = some (.int .i64 m) ∧ w'.cell? ⟨w.heap.size + 1, 1, none⟩ = some (.int .i64 cc) ∧ w'.cell? ⟨wr.heap.size, 1, none⟩ = some (.int .i64 a1)) (first | exact ⟨WA.c0, WA.c1, JA.c0, JA.c1, SA⟩ | exact ⟨W5.c0, W5.c1, J5.c0, J5.c1, S5⟩)
              (first
                | (go_at_call 26; refine (ref10_compare_eq H1.out _).mono ?_; rintro e w5 ⟨rfl, hb5⟩; have hw5 : Below (w2.heap.size + 1) (w2.alloc (.cells #[.int .i64 m', .int .i64 c'] 32)) w5 := Below.trans (by (repeat' (first | (with_reducible exact Below.refl _ _) | (with_reducible assumption) | (with_reducible refine Below.trans ?_ (Below.mono (by with_reducible assumption) ?_)) | (with_reducible refine Below.alloc ?_ ?_ _) | (with_reducible refine Below.setCell ?_ ?_ _) | (with_reducible refine below_drewN ?_ _) | (with_reducible refine Below.drew ?_) | go_size))) (hb5.mono (by simp [go_sem])); have W5 := WA.below hw5 (by omega); have J5 := JA.below hw5 (by omega); have K5 := KA.below hw5 (by omega); have S5 : w5.cell? ⟨wr.heap.size, 1, none⟩ = some (.int .i64 a1) := (hw5.cell (p := ⟨wr.heap.size, 1, none⟩) (by show wr.heap.size < w2.heap.size + 1; omega)).trans SA)
                | (go_at_call 24; first | (refine (hlc_bound _ m' c' bd _ K5).mono ?_; rintro e w' ⟨rfl, rfl⟩) | (refine (hlc_bound _ m' c' bd _ K5.drew).mono ?_; rintro e w' ⟨rfl, rfl⟩) | (refine (hlc_bound _ m' c' bd _ K5.drew.drew).mono ?_; rintro e w' ⟨rfl, rfl⟩)))
            have HB5 : Below w.heap.size w w5 := (HB2.alloc HB2.size _).trans (hw5.mono (by have := HB2.size; omega))
            have q0 := W5.c0
            have q1 := W5.c1
            have g0 := J5.f0
            have g1 := J5.f1
            have r0 := J5.c0
            have r1 := J5.c1
            have l5 := J5.lt
            clear hb5 hw5 SA S5 s1 j0 j1
            set_option maxRecDepth 5000 in go_wp2
            go_roundw
            case rel => exact ⟨k + 1, m', c', bd, by omega, HS'.out, by go_num, (K5.other (by simp) _).other (by simp) _, (J5.set0 _).set1 _, (HB5.setCell (by simp) _).setCell (by simp) _⟩
            case measure => simp [intOf]; omega
    · by_cases hkn : k = n
      · subst hkn
        set_option maxRecDepth 8000 in go_wp2
        set_option maxRecDepth 8000 in go_region_held3 (fun w' => w'.cell? ⟨w.heap.size + 1, 0, none⟩ = some (.int .i64 m) ∧ w'.cell? ⟨w.heap.size + 1, 1, none⟩ = some (.int .i64 cc)) (first | exact ⟨JI.c0, JI.c1⟩ | exact ⟨J6.c0, J6.c1⟩ | exact ⟨J5.c0, J5.c1⟩)
          (first
            | (go_at_call 23; (first | (refine (hlc_last _ m cc bd _ KI).mono ?_) | (refine (hlc_last _ m cc bd _ KI.drew).mono ?_) | (refine (hlc_last _ m cc bd _ KI.drew.drew).mono ?_)); rintro e w5 ⟨rfl, hb5⟩; have hw5 : Below wr.heap.size wr w5 := Below.trans (by (repeat' (first | (with_reducible exact Below.refl _ _) | (with_reducible assumption) | (with_reducible refine Below.trans ?_ (Below.mono (by with_reducible assumption) ?_)) | (with_reducible refine Below.alloc ?_ ?_ _) | (with_reducible refine Below.setCell ?_ ?_ _) | (with_reducible refine below_drewN ?_ _) | (with_reducible refine Below.drew ?_) | go_size))) (hb5.mono (by simp [go_sem])); have J5 := JI.below hw5 lr)
            | (go_at_call 16; refine (known10 _).mono ?_; rintro e w6 ⟨rfl, hb6⟩; have hw6 : Below wr.heap.size wr w6 := Below.trans (by (repeat' (first | (with_reducible exact Below.refl _ _) | (with_reducible assumption) | (with_reducible refine Below.trans ?_ (Below.mono (by with_reducible assumption) ?_)) | (with_reducible refine Below.alloc ?_ ?_ _) | (with_reducible refine Below.setCell ?_ ?_ _) | (with_reducible refine below_drewN ?_ _) | (with_reducible refine Below.drew ?_) | go_size))) (hb6.mono (by have := hw5.size; simp [go_sem] <;> omega)); have J6 := JI.below hw6 lr))
        go_wp2
        go_ret
        go_light
        exact ⟨rfl, HB.trans (hw6.mono (by omega))⟩
      · have hk : (k : Int) < (n : Int) := by omega
        have h2 : (200 : Int) ≤ (k : Int) := by omega
        clear hlt hkn
        set_option maxRecDepth 8000 in go_wp2
        set_option maxRecDepth 8000 in go_region_held3 (fun w' => w'.cell? ⟨w.heap.size + 1, 0, none⟩ = some (.int .i64 m) ∧ w'.cell? ⟨w.heap.size + 1, 1, none⟩ = some (.int .i64 cc)) (first | exact ⟨JI.c0, JI.c1⟩ | exact ⟨J6.c0, J6.c1⟩ | exact ⟨J5.c0, J5.c1⟩)
          (first
            | (go_at_call 23; (first | (refine (hlc_last _ m cc bd _ KI).mono ?_) | (refine (hlc_last _ m cc bd _ KI.drew).mono ?_) | (refine (hlc_last _ m cc bd _ KI.drew.drew).mono ?_)); rintro e w5 ⟨rfl, hb5⟩; have hw5 : Below wr.heap.size wr w5 := Below.trans (by (repeat' (first | (with_reducible exact Below.refl _ _) | (with_reducible assumption) | (with_reducible refine Below.trans ?_ (Below.mono (by with_reducible assumption) ?_)) | (with_reducible refine Below.alloc ?_ ?_ _) | (with_reducible refine Below.setCell ?_ ?_ _) | (with_reducible refine below_drewN ?_ _) | (with_reducible refine Below.drew ?_) | go_size))) (hb5.mono (by simp [go_sem])); have J5 := JI.below hw5 lr)
            | (go_at_call 16; refine (known10 _).mono ?_; rintro e w6 ⟨rfl, hb6⟩; have hw6 : Below wr.heap.size wr w6 := Below.trans (by (repeat' (first | (with_reducible exact Below.refl _ _) | (with_reducible assumption) | (with_reducible refine Below.trans ?_ (Below.mono (by with_reducible assumption) ?_)) | (with_reducible refine Below.alloc ?_ ?_ _) | (with_reducible refine Below.setCell ?_ ?_ _) | (with_reducible refine below_drewN ?_ _) | (with_reducible refine Below.drew ?_) | go_size))) (hb6.mono (by have := hw5.size; simp [go_sem] <;> omega)); have J6 := JI.below hw6 lr))
        set_option maxRecDepth 8000 in go_wp2
        go_ret
        go_light
        exact ⟨rfl, HB.trans (hw6.mono (by omega))⟩
end Go.Proofs.Ytmbopdabbegbiaa
