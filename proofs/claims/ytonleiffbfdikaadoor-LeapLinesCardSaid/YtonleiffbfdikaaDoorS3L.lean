/- Stage 3: LeapLines (written by gen/s3l.py). -/
import Derived.Test.YtonleiffbfdikaaDoorLinesM
import Derived.Test.YtonleiffbfdikaaDoorDoor3
import Derived.Test.YtonleiffbfdikaaDoorLeapOwn
import Derived.Test.YtonleiffbfdikaaDoorLeapPrt
import Derived.Test.YtonleiffbfdikaaDoorRef3Is
import Derived.Test.YtonleiffbfdikaaDoorArgTable
import Derived.BigGuard
import Derived.BigGuardPart
import Derived.BigCall
set_option linter.unusedSimpArgs false
set_option linter.unusedVariables false
namespace Go.Proofs.YtonleiffbfdikaaDoor
open Go.ChangeShapes Go.WideShapes Go.ChangeAt Go.RowKit Go.Joins

/-- A copy of a table's leaps. -/
def Own1 (w' : World) (n : Nat) (z : Nat → Int) (x : Int) (e : Ending) : Prop := ∃ A c, e = .returned (.agg #[.slice A n c, .int .i64 x]) ∧ FlatAt w' A 2 n z
theorem own_some (ad : Addr) (n c : Nat) (x : Int) (z : Nat → Int) (w : World) (hz : FlatAt w (some ad) 2 n z) (hn : n ≤ 300) (h0 : 0 < n) :
    Calls Tryd.prog 21 #[.agg #[.slice (some ad) n c, .int .i64 x]] w fun e w' => Own1 w' n z x e ∧ Below w.heap.size w w' := by
  have hb := hz.bd
  refine (own_yes ad n c x z w hz hn h0).mono ?_
  rintro e w' ⟨⟨g, cap, rfl, _, hr⟩, hb'⟩
  obtain ⟨A, c', e1, hf, _⟩ := own_flat2 hr hb
  exact ⟨⟨A, c', by rw [e1], hf⟩, hb'⟩
theorem and1023 (n : Int) : ∃ d : Nat, d ≤ 1023 ∧ bits .and .i64 n 1023 = (d : Int) := by
  show ∃ d : Nat, d ≤ 1023 ∧ IntKind.i64.wrap ((BitVec.ofInt 64 n &&& BitVec.ofInt 64 1023).toNat : Int) = (d : Int)
  have e2 : (BitVec.ofInt 64 1023).toNat = 2 ^ 10 - 1 := by decide
  have h1 : (BitVec.ofInt 64 n &&& BitVec.ofInt 64 1023).toNat ≤ 1023 := by
    rw [BitVec.toNat_and, e2]
    exact Nat.and_le_right
  exact ⟨_, h1, IntWalk.i64_in _ (by omega)⟩
set_option maxHeartbeats 2000000 in
theorem lines_out (A : Option Addr) (n c : Nat) (x at' : Int) (z : Nat → Int) (r : ByteArray) (w : World) (hm : Mx w) (hz : FlatAt w A 2 n z) (hn : n ≤ maxLen) (h : 100 < n ∨ (n ≤ 100 ∧ 100 < r.size) ∨ (n ≤ 100 ∧ r.size ≤ 100 ∧ ¬ IsTab z n x)) :
    Calls Tryd.prog 9 #[.agg #[.slice A n c, .int .i64 x], .int .i64 at', .string r] w fun e w' => e = .returned (.bool true) ∧ Below w.heap.size w w' := by
  have hud : undef = Value.tuple #[] := rfl
  have HB0 : Below w.heap.size w (w.alloc (.cells #[.slice A n c, .int .i64 x] 24)) := by (repeat' (first | (with_reducible exact Below.refl _ _) | (with_reducible assumption) | (with_reducible refine Below.trans ?_ (Below.mono (by with_reducible assumption) ?_)) | (with_reducible refine Below.alloc ?_ ?_ _) | (with_reducible refine Below.setCell ?_ ?_ _) | (with_reducible refine below_drewN ?_ _) | (with_reducible refine Below.drew ?_) | go_size))
  have HBB := Lib.hid HB0
  have HM := Lib.hid (hm.below HB0)
  rcases h with h | ⟨h1, h⟩ | ⟨h1, h2, h⟩
  · have t1 : decide ((100 : Int) < (n : Int)) = true := by simp; omega
    clear h hz hm HB0
    go_enter Tryd.func9, Tryd.ntmps9
    go_wp2_with (go_at_call 15; refine (known3 _ HM.out).mono ?_; rintro e w2 ⟨rfl, k2⟩; have HB2 := Lib.hid (HBB.out.trans (k2.mono HBB.out.size)))
    go_ret
    exact ⟨rfl, HB2.out⟩
  · have t1 : decide ((100 : Int) < (n : Int)) = false := by simp; omega
    have t2 : decide ((100 : Int) < (r.size : Int)) = true := by simp; omega
    clear h hz hm HB0
    go_enter Tryd.func9, Tryd.ntmps9
    go_wp2_with (go_at_call 15; refine (known3 _ HM.out).mono ?_; rintro e w2 ⟨rfl, k2⟩; have HB2 := Lib.hid (HBB.out.trans (k2.mono HBB.out.size)))
    go_ret
    exact ⟨rfl, HB2.out⟩
  · have t1 : decide ((100 : Int) < (n : Int)) = false := by simp; omega
    have t2 : decide ((100 : Int) < (r.size : Int)) = false := by simp; omega
    have HI := Lib.hid (ref3_is A n c x z _ false (hz.below HB0) hn (by simp [h]))
    clear h hz hm HB0
    go_enter Tryd.func9, Tryd.ntmps9
    go_wp2_with (first | (go_at_call 24; refine HI.out.mono ?_; rintro e w1 ⟨rfl, k1⟩; have HB1 := Lib.hid (HBB.out.trans (k1.mono HBB.out.size)); have HM1 := Lib.hid (HM.out.below k1)) | (go_at_call 15; refine (known3 _ HM1.out).mono ?_; rintro e w2 ⟨rfl, k2⟩; have HB2 := Lib.hid (HB1.out.trans (k2.mono HB1.out.size))))
    go_ret
    exact ⟨rfl, HB2.out⟩
theorem str_at {s : ByteArray} {i : Nat} {c : UInt8} (h : s.data.toList[i]? = some c) : ∃ q : i < s.size, s[i]'q = c := by
  obtain ⟨q, e⟩ := List.getElem?_eq_some_iff.1 h
  exact ⟨by simpa using q, e⟩
theorem flat_lt {w : World} {A : Option Addr} {m n : Nat} {z : Nat → Int} (h : FlatAt w A m n z) (h0 : 0 < n) : ∀ ad, A = some ad → ad.block < w.heap.size := fun ad had => by
  obtain ⟨B, O, e, hB, _⟩ := h h0
  rw [e] at had
  injection had with had
  subst had
  exact hB
theorem flat_only {w w' : World} {b : Nat} {A : Option Addr} {m n : Nat} {z : Nat → Int} (h : FlatAt w A m n z) (k : Only b w w') (hne : ∀ ad, A = some ad → ad.block ≠ b) : FlatAt w' A m n z := fun h0 => by
  obtain ⟨B, O, e, hB, hc⟩ := h h0
  have hb := hne _ e
  exact ⟨B, O, e, Nat.lt_of_lt_of_le hB k.size, fun j hj => ⟨(k.cell B (O + j) hB hb).trans (hc j hj).1, (hc j hj).2⟩⟩
theorem flat_ne {w : World} {b : Nat} {u : Int} {t : TypeId} {A : Option Addr} {n : Nat} {z : Nat → Int} (hb : w.heap[b]? = some (.cells #[.slice none 0 0, .int .i64 u] t (0, 0))) (h : FlatAt w A 2 n z) (hn : 1 ≤ n) : ∀ ad, A = some ad → ad.block ≠ b := fun ad had => by
  obtain ⟨B, O, e, hB, hc⟩ := h hn
  rw [e] at had
  injection had with had
  subst had
  rintro rfl
  have c0 := (hc 0 (by omega)).1
  have c1 := (hc 1 (by omega)).1
  rw [cell_of_row _ _ _ _ _ _ hb] at c0 c1
  rcases O with _ | O
  · simp at c0
  · simp at c1
theorem tb_only {w w' : World} {b b' : Nat} {v : Value} {x : Int} (h : Tb w b v x) (k : Only b' w w') (hne : b ≠ b') : Tb w' b v x :=
  ⟨(k.cell b 0 h.lt hne).trans h.c0, (k.cell b 1 h.lt hne).trans h.c1, (k.frozen b 0 h.lt hne).trans h.f0, (k.frozen b 1 h.lt hne).trans h.f1, Nat.lt_of_lt_of_le h.lt k.size⟩
theorem tb_set {w : World} {b : Nat} {v v' : Value} {x x' : Int} (h : Tb w b v x) : Tb ((w.setCell ⟨b, 0, none⟩ v').setCell ⟨b, 1, none⟩ (.int .i64 x')) b v' x' :=
  ⟨(World.cell?_setCell_other _ _ _ _ (by simp)).trans (World.cell?_setCell_same _ _ _ h.c0), World.cell?_setCell_same _ _ _ ((World.cell?_setCell_other _ _ _ _ (by simp)).trans h.c1), by simpa using h.f0, by simpa using h.f1, by simpa [World.setCell] using h.lt⟩
set_option maxRecDepth 100000 in
set_option maxHeartbeats 16000000 in
theorem lines_in (ad : Addr) (n c : Nat) (x at' : Int) (z : Nat → Int) (r : ByteArray) (w : World) (hm : Mx w) (ht : Tab w) (hz : FlatAt w (some ad) 2 n z) (hT : IsTab z n x) (hr : r.size ≤ 100) :
    Calls Tryd.prog 9 #[.agg #[.slice (some ad) n c, .int .i64 x], .int .i64 at', .string r] w fun e w' => e = .returned (.bool true) ∧ Below w.heap.size w w' := by
  have hud : undef = Value.tuple #[] := rfl
  have HB0 : Below w.heap.size w (w.alloc (.cells #[.slice (some ad) n c, .int .i64 x] 24)) := by (repeat' (first | (with_reducible exact Below.refl _ _) | (with_reducible assumption) | (with_reducible refine Below.trans ?_ (Below.mono (by with_reducible assumption) ?_)) | (with_reducible refine Below.alloc ?_ ?_ _) | (with_reducible refine Below.setCell ?_ ?_ _) | (with_reducible refine below_drewN ?_ _) | (with_reducible refine Below.drew ?_) | go_size))
  have X0 : Hid (Tb (w.alloc (.cells #[.slice (some ad) n c, .int .i64 x] 24)) w.heap.size (.slice (some ad) n c) x) := Lib.hid ⟨by simp [go_sem], by simp [go_sem], by simp [go_sem], by simp [go_sem], by simp⟩
  have n1 : 1 ≤ n := hT.1
  have n100 : n ≤ 100 := hT.2.1
  have HBB := Lib.hid HB0
  have HBD := Lib.hid hz.bd
  have HZ := Lib.hid hz
  have HM := Lib.hid hm
  have HTB := Lib.hid ht
  have HT := Lib.hid hT
  have HI := Lib.hid (ref3_is (some ad) n c x z _ true (hz.below HB0) (by unfold maxLen; omega) (by simp [hT]))
  have t1 : decide ((100 : Int) < (n : Int)) = false := by simp; omega
  have t2 : decide ((100 : Int) < (r.size : Int)) = false := by simp; omega
  have hri : (r.size : Int) ≤ 100 := by omega
  clear hz hm ht hT HB0
  go_enter Tryd.func9, Tryd.ntmps9
  go_wp2_with fail
  refine HI.out.mono ?_; rintro e w1 ⟨rfl, k1⟩
  have HB1 := Lib.hid (HBB.out.trans (k1.mono HBB.out.size))
  have HX1 := Lib.hid (X0.out.below k1)
  have z1 : w.heap.size < w1.heap.size := HX1.out.lt
  clear k1 X0 HBB HI
  go_wp2
  go_loop [7] (fun i => ∃ k : Nat, k ≤ r.size ∧ i = .int .i64 k ∧ ∀ (j : Nat), j < k → r.data.toList[j]? ≠ some 10) (fun i => r.size - (intOf i).toNat)
  case atStart => exact ⟨0, Nat.zero_le _, rfl, fun j h => absurd h (by omega)⟩
  case round =>
    obtain ⟨k, hk, rfl, hno⟩ := hrel
    by_cases hlt : k < r.size
    · have hl : k < r.data.toList.length := by simpa using hlt
      have lk : (k : Int) < (r.size : Int) := by omega
      have hgl : r.data.toList[k] = r[k]'hlt := rfl
      by_cases hc : (r[k]'hlt) = 10
      · have t3 : (((r[k]'hlt).toNat : Int) == 10) = true := by rw [hc]; rfl
        have HK := Lib.hid (known3 w1 (HM.out.below HB1.out))
        clear hc hno hgl hl
        go_wp2_with (go_at_call 15; refine HK.out.mono ?_; rintro e w2 ⟨rfl, k2⟩; have HB2 := Lib.hid (HB1.out.trans (k2.mono HB1.out.size)))
        go_ret
        exact ⟨rfl, HB2.out⟩
      · have t3 : (((r[k]'hlt).toNat : Int) == 10) = false := by
          rw [beq_eq_false_iff_ne]
          intro e
          exact hc (UInt8.toNat_inj.1 (by rw [show (10 : UInt8).toNat = 10 from rfl]; omega))
        have HN : Hid (∀ (j : Nat), j < k + 1 → r.data.toList[j]? ≠ some 10) := Lib.hid (fun j hj => by
          rcases (show j < k ∨ j = k from by omega) with q | rfl
          · exact hno j q
          · rw [List.getElem?_eq_getElem hl, hgl]
            intro e
            injection e with e
            exact hc e)
        clear hc hno hgl hl
        go_wp2
        go_round
        case rel => exact ⟨k + 1, by omega, by go_num, HN.out⟩
        case measure => simp [intOf]; omega
    · obtain rfl : k = r.size := by omega
      have HNO : Hid ((10 : UInt8) ∉ r.data.toList) := Lib.hid (fun h => by
        obtain ⟨j, hj, e⟩ := List.getElem_of_mem h
        exact hno j (by simpa using hj) (by rw [List.getElem?_eq_getElem hj, e]))
      clear hno hlt
      have HO := Lib.hid (own_some ad n c x z w1 (HZ.out.below HB1.out) (by omega) (by omega))
      obtain ⟨y0, y1, yf0, yf1, yl⟩ := HX1.out
      go_wp2_with fail
      refine HO.out.mono ?_; rintro e w2 ⟨⟨A2, c2, rfl, hf2⟩, k2⟩
      have HB2 := Lib.hid (HB1.out.trans (k2.mono HB1.out.size))
      have HX2 := Lib.hid (HX1.out.below k2)
      have HP := Lib.hid (leap_print_yes A2 n c2 x z w2 hf2 (HTB.out.below HB2.out) HT.out)
      rw [tab_txt] at HP
      have HPR : Hid (∀ (j : Nat), j ≤ n + 1 → ∀ W, Mx W → Calls Tryd.prog 23 #[.string (linesTxt ((tabL z n x).take j) ++ ⟨#[35]⟩ ++ r ++ ⟨#[10, 10]⟩ ++ linesTxt ((tabL z n x).drop j))] W fun e w' => ParseTb W n z x e w' ∧ Below W.heap.size W w') := Lib.hid (fun j hj W hW => parse_remark n j x z r W hW HT.out HBD.out hj HNO.out hr)
      have HPW : Hid (∀ (j : Nat), j ≤ n + 1 → ∀ W, Mx W → Calls Tryd.prog 23 #[.string (linesTxt ((tabL z n x).take j) ++ ⟨#[10, 119, 114, 111, 110, 103, 10]⟩ ++ linesTxt ((tabL z n x).drop j))] W fun e w' => e = .returned (.tuple #[.agg #[.slice none 0 0, .int .i64 0], .int .i64 (((j + 1 : Nat) : Int) + 1), .int .i64 10]) ∧ Below W.heap.size W w') := Lib.hid (fun j hj W hW => parse_wr n j x z W hW HT.out HBD.out hj)
      have HLB : Hid (∀ j i, j < n + 1 → lineAt (tabL z n x) j ≤ i → i < lineAt (tabL z n x) (j + 1) → ∃ c, (linesTxt (tabL z n x)).data.toList[i]? = some c ∧ (c = 10 ↔ i + 1 = lineAt (tabL z n x) (j + 1))) := Lib.hid (fun j i hj h1 h2 => line_byte _ (tabL_no10 HT.out) j i (by rw [tabL_len]; exact hj) h1 h2)
      have HLM : Hid (∀ j, lineAt (tabL z n x) j ≤ (linesTxt (tabL z n x)).size) := Lib.hid (fun j => lineAt_le _ j)
      have HLS : Hid (∀ j, j < n + 1 → lineAt (tabL z n x) j < lineAt (tabL z n x) (j + 1)) := Lib.hid (fun j hj => by
        have := lineAt_succ (tabL z n x) j (by rw [tabL_len]; exact hj)
        omega)
      have HCUT := Lib.hid (fun j => cut_at_line (tabL z n x) j)
      have htz : (linesTxt (tabL z n x)).size ≤ 2100 := by have := tab_size HT.out; rwa [show strOf (tabB z n x) = linesTxt (tabL z n x) from tab_txt z n x] at this
      have htp : 0 < (linesTxt (tabL z n x)).size := by have := HLM.out (0 + 1); have := HLS.out 0 (by omega); omega
      change Hid (Calls Tryd.prog 20 _ w2 fun e w' => e = .returned (.tuple #[.string (linesTxt (tabL z n x)), .int .i64 0]) ∧ Below w2.heap.size w2 w') at HP
      generalize hTX : linesTxt (tabL z n x) = TXT at *
      clear hf2 k2 y0 y1 yf0 yf1 yl HO hTX
      have tz : ((TXT.size : Int) == 0) = false := by rw [beq_eq_false_iff_ne]; omega
      obtain ⟨d, hd, had⟩ := and1023 at'
      obtain ⟨y0, y1, yf0, yf1, yl⟩ := HX2.out
      go_wp2_with fail
      refine HP.out.mono ?_; rintro e w3 ⟨rfl, k3⟩
      have HB3 := Lib.hid (HB2.out.trans (k3.mono HB2.out.size))
      have HX3 := Lib.hid (HX2.out.below k3)
      clear y0 y1 yf0 yf1 yl HX2 HB2 HX1 HB1 k3 HP
      obtain ⟨y0, y1, yf0, yf1, yl⟩ := HX3.out
      have hw2 : IntKind.i64.wrap ((n : Int) + 2) = (n : Int) + 2 := IntWalk.i64_in _ (by omega)
      obtain ⟨N0, hN0⟩ : ∃ N0 : Nat, d % (n + 2) = N0 := ⟨_, rfl⟩
      have hN1 : N0 ≤ n + 1 := by have := Nat.mod_lt d (show 0 < n + 2 from by omega); omega
      have hrem : Int.tmod (d : Int) ((n : Int) + 2) = (N0 : Int) := by rw [← hN0]; exact (Int.ofNat_tmod d (n + 2)).symm
      have hrem2 : (d : Int) % ((n : Int) + 2) = (N0 : Int) := by rw [← hN0]; push_cast; rfl
      have hnz2 : ¬ (n : Int) + 2 = 0 := by omega
      have hTi : (TXT.size : Int) ≤ 2100 := by omega
      clear hN0
      go_wp2
      go_loop [10, 11, 12] (fun kv nv iv => ∃ j i : Nat, j ≤ N0 ∧ nv = .int .i64 ((N0 - j : Nat) : Int) ∧ kv = .int .i64 ((lineAt (tabL z n x) j : Nat) : Int) ∧ iv = .int .i64 i ∧ lineAt (tabL z n x) j ≤ i ∧ (j < n + 1 → i < lineAt (tabL z n x) (j + 1)) ∧ i ≤ TXT.size) (fun _ _ i => TXT.size - (intOf i).toNat)
      case atStart => exact ⟨0, 0, Nat.zero_le _, by simp, rfl, rfl, Nat.le_refl _, fun h => by have := HLS.out 0 h; omega, Nat.zero_le _⟩
      case round =>
        obtain ⟨j, i, hj, rfl, rfl, rfl, hi1, hi2, hi3⟩ := hrel
        by_cases hjn : j < N0
        · have hi2' := hi2 (by omega)
          have hb := HLB.out j i (by omega) hi1 hi2'
          obtain ⟨cc, hcc, hci⟩ := hb
          obtain ⟨q, hq⟩ := str_at hcc
          have li : (i : Int) < (TXT.size : Int) := by omega
          have ln : (0 : Int) < ((N0 - j : Nat) : Int) := by omega
          obtain ⟨m, hm⟩ : ∃ m : Nat, N0 - j = m + 1 := ⟨N0 - j - 1, by omega⟩
          have HJ : Hid (m = N0 - (j + 1)) := Lib.hid (by omega)
          rw [hm] at ln
          rw [hm]
          by_cases hc : cc = 10
          · have t3 : (((TXT[i]'q).toNat : Int) == 10) = true := by rw [hq, hc]; rfl
            have HI1 := Lib.hid (hci.1 hc)
            have HI2 := Lib.hid hi1
            have hTn : lineAt (tabL z n x) (j + 1) ≤ TXT.size := HLM.out _
            clear hcc hci hq hc hi2 hi2' hi1
            generalize hk0 : lineAt (tabL z n x) j = k0
            go_wp2
            go_round
            case rel => exact ⟨j + 1, i + 1, by omega, by rw [← HJ.out]; (try go_num), by rw [← HI1.out]; (try go_num), by go_num, by have := HI1.out; omega, fun h => by have := HLS.out (j + 1) h; have := HI1.out; omega, by omega⟩
            case measure => simp [intOf]; omega
          · have t3 : (((TXT[i]'q).toNat : Int) == 10) = false := by
              rw [hq, beq_eq_false_iff_ne]
              intro e
              exact hc (UInt8.toNat_inj.1 (by rw [show (10 : UInt8).toNat = 10 from rfl]; omega))
            have HI1 : Hid (i + 1 < lineAt (tabL z n x) (j + 1)) := Lib.hid (by
              rcases Nat.lt_or_ge (i + 1) (lineAt (tabL z n x) (j + 1)) with h | h
              · exact h
              · exact absurd (hci.2 (by omega)) hc)
            have HI2 := Lib.hid hi1
            have HM0 := Lib.hid hm
            clear hcc hci hq hc hi2 hi2' hi1
            generalize hk0 : lineAt (tabL z n x) j = k0
            have HK0 := Lib.hid hk0
            clear hk0
            go_wp2
            go_round
            case rel => exact ⟨j, i + 1, by omega, by rw [HM0.out], by rw [HK0.out], by go_num, by have := HI2.out; omega, fun _ => HI1.out, by omega⟩
            case measure => simp [intOf]; omega
        · obtain rfl : j = N0 := by omega
          have HKT := Lib.hid (HCUT.out j)
          have hkl : lineAt (tabL z n x) j ≤ TXT.size := HLM.out j
          have P1 := Lib.hid (HPR.out j hN1)
          have P2 := Lib.hid (HPW.out j hN1)
          rw [← (HKT.out).1, ← (HKT.out).2] at P1 P2
          obtain ⟨yy, hyy⟩ : ∃ yy : Int, ((j + 1 : Nat) : Int) + 1 = yy := ⟨_, rfl⟩
          have ty : decide ((2 : Int) ≤ yy) = true := by simp; omega
          have ty2 : (2 : Int) ≤ yy := by omega
          rw [hyy] at P2
          clear hyy
          obtain ⟨k0, hk0⟩ : ∃ k0, lineAt (tabL z n x) j = k0 := ⟨_, rfl⟩
          rw [hk0] at P1 P2 hkl ⊢
          rw [Nat.sub_self]
          have hki : (k0 : Int) ≤ (TXT.size : Int) := by omega
          have hk00 : (0 : Int) ≤ (k0 : Int) := by omega
          clear HKT hk0 hi1 hi2 HCUT HLB HLM HLS HPR HPW hjn had hrem hrem2
          have M3 := Lib.hid (HM.out.below HB3.out)
          have hsp : (i : Int) < (TXT.size : Int) ∨ ¬ (i : Int) < (TXT.size : Int) := by omega
          rcases hsp with li | li
          all_goals
            go_wp2_with fail
            have g1 : ¬ 9223372036854775807 < k0 + 1 := by omega
            have g2 : ¬ 9223372036854775807 < k0 + 1 + r.size := by omega
            have g3 : ¬ 9223372036854775807 < k0 + 1 + r.size + 2 := by omega
            have g4 : ¬ 9223372036854775807 < k0 + 1 + r.size + 2 + (TXT.size - k0) := by omega
            have g5 : ¬ 9223372036854775807 < k0 + 7 := by omega
            have g6 : ¬ 9223372036854775807 < k0 + 7 + (TXT.size - k0) := by omega
            have D3 : Hid (Below w.heap.size w w3.drew ∧ Tb w3.drew w.heap.size (.slice (some ad) n c) x) := Lib.hid ⟨HB3.out.drew, ⟨HX3.out.c0, HX3.out.c1, HX3.out.f0, HX3.out.f1, HX3.out.lt⟩⟩
            have DW := Lib.hid (P1.out w3.drew (HM.out.below D3.out.1))
            have DA : Hid (Below w.heap.size w (w3.drew.alloc (.cells #[.slice none 0 0, .int .i64 0] 24)) ∧ Tb (w3.drew.alloc (.cells #[.slice none 0 0, .int .i64 0] 24)) w.heap.size (.slice (some ad) n c) x) := Lib.hid ⟨D3.out.1.alloc D3.out.1.size _, D3.out.2.below ((Below.refl _ _).alloc (Nat.le_refl _) _)⟩
            have DWA := Lib.hid (P1.out (w3.drew.alloc (.cells #[.slice none 0 0, .int .i64 0] 24)) (HM.out.below DA.out.1))
            have TN : Hid (Tb (w3.drew.alloc (.cells #[.slice none 0 0, .int .i64 0] 24)) w3.heap.size (.slice none 0 0) 0) := Lib.hid (Tb.new w3.drew (.slice none 0 0) 0 24)
            clear P1
            refine wp_region_held_drew (S := fun w' => True) (by kernel_rfl) ?_ (fun hHeld => ?_)
            · trivial
            refine wpAnyH_take (i := 0) (v := ?_) rfl (by kernel_rfl) (by kernel_rfl) (by kernel_rfl) (fun _ _ _ h => h) (Or.inl ⟨by rfl, ?_⟩) (by assumption) ?_
            rotate_left
            · intro w' hSw; (try dsimp only at hSw); go_simp; (try with_reducible rfl)
            (try simp only [Act.put, List.setIfInBounds_toArray, List.set_cons_zero, List.set_cons_succ, List.getElem_toArray, List.getElem_cons_succ, List.getElem_cons_zero])
            refine wpAnyH_take (i := 1) (v := ?_) rfl (by kernel_rfl) (by kernel_rfl) (by kernel_rfl) (fun _ _ _ h => h) (Or.inl ⟨by rfl, ?_⟩) (by assumption) ?_
            rotate_left
            · intro w' hSw; (try dsimp only at hSw); go_simp; (try with_reducible rfl)
            (try simp only [Act.put, List.setIfInBounds_toArray, List.set_cons_zero, List.set_cons_succ, List.getElem_toArray, List.getElem_cons_succ, List.getElem_cons_zero])
            refine wpAnyH_take (i := 2) (v := ?_) rfl (by kernel_rfl) (by kernel_rfl) (by kernel_rfl) (fun _ _ _ h => h) (Or.inl ⟨by rfl, ?_⟩) (by assumption) ?_
            rotate_left
            · intro w' hSw; (try dsimp only at hSw); go_simp; (try with_reducible rfl)
            (try simp only [Act.put, List.setIfInBounds_toArray, List.set_cons_zero, List.set_cons_succ, List.getElem_toArray, List.getElem_cons_succ, List.getElem_cons_zero])
            refine wpAnyH_take (i := 3) (v := ?_) rfl (by kernel_rfl) (by kernel_rfl) (by kernel_rfl) (fun _ _ _ h => h) (Or.inl ⟨by rfl, ?_⟩) (by assumption) ?_
            rotate_left
            · intro w' hSw; (try dsimp only at hSw); go_simp; (try with_reducible rfl)
            (try simp only [Act.put, List.setIfInBounds_toArray, List.set_cons_zero, List.set_cons_succ, List.getElem_toArray, List.getElem_cons_succ, List.getElem_cons_zero])
            refine wpAnyH_take (i := 4) (v := ?_) rfl (by kernel_rfl) (by kernel_rfl) (by kernel_rfl) (fun _ _ _ h => h) (Or.inl ⟨by rfl, ?_⟩) (by assumption) ?_
            rotate_left
            · intro w' hSw; (try dsimp only at hSw); go_simp; (try with_reducible rfl)
            (try simp only [Act.put, List.setIfInBounds_toArray, List.set_cons_zero, List.set_cons_succ, List.getElem_toArray, List.getElem_cons_succ, List.getElem_cons_zero])
            refine wpAnyH_take (i := 5) (v := ?_) rfl (by kernel_rfl) (by kernel_rfl) (by kernel_rfl) (fun _ _ _ h => h) (Or.inl ⟨by rfl, ?_⟩) (by assumption) ?_
            rotate_left
            · intro w' hSw; (try dsimp only at hSw); go_simp; (try with_reducible rfl)
            (try simp only [Act.put, List.setIfInBounds_toArray, List.set_cons_zero, List.set_cons_succ, List.getElem_toArray, List.getElem_cons_succ, List.getElem_cons_zero])
            refine wpAnyH_take (i := 6) (v := ?_) rfl (by kernel_rfl) (by kernel_rfl) (by kernel_rfl) (fun _ _ _ h => h) (Or.inl ⟨by rfl, ?_⟩) (by assumption) ?_
            rotate_left
            · intro w' hSw; (try dsimp only at hSw); go_simp; (try with_reducible rfl)
            (try simp only [Act.put, List.setIfInBounds_toArray, List.set_cons_zero, List.set_cons_succ, List.getElem_toArray, List.getElem_cons_succ, List.getElem_cons_zero])
            refine wpAnyH_take (i := 7) (v := ?_) rfl (by kernel_rfl) (by kernel_rfl) (by kernel_rfl) (fun _ _ _ h => h) (Or.inl ⟨by rfl, ?_⟩) (by assumption) ?_
            rotate_left
            · intro w' hSw; (try dsimp only at hSw); go_simp; (try with_reducible rfl)
            (try simp only [Act.put, List.setIfInBounds_toArray, List.set_cons_zero, List.set_cons_succ, List.getElem_toArray, List.getElem_cons_succ, List.getElem_cons_zero])
            refine wpAnyH_take (i := 8) (v := ?_) rfl (by kernel_rfl) (by kernel_rfl) (by kernel_rfl) (fun _ _ _ h => h) (Or.inl ⟨by rfl, ?_⟩) (by assumption) ?_
            rotate_left
            · intro w' hSw; (try dsimp only at hSw); go_simp; (try with_reducible rfl)
            (try simp only [Act.put, List.setIfInBounds_toArray, List.set_cons_zero, List.set_cons_succ, List.getElem_toArray, List.getElem_cons_succ, List.getElem_cons_zero])
            refine wpAnyH_take (i := 9) (v := ?_) rfl (by kernel_rfl) (by kernel_rfl) (by kernel_rfl) (fun _ _ _ h => h) (Or.inl ⟨by rfl, ?_⟩) (by assumption) ?_
            rotate_left
            · intro w' hSw; (try dsimp only at hSw); go_simp; (try with_reducible rfl)
            (try simp only [Act.put, List.setIfInBounds_toArray, List.set_cons_zero, List.set_cons_succ, List.getElem_toArray, List.getElem_cons_succ, List.getElem_cons_zero])
            refine wpAnyH_take (i := 10) (v := ?_) rfl (by kernel_rfl) (by kernel_rfl) (by kernel_rfl) (fun _ _ _ h => h) (Or.inl ⟨by rfl, ?_⟩) (by assumption) ?_
            rotate_left
            · intro w' hSw; (try dsimp only at hSw); go_simp; (try with_reducible rfl)
            (try simp only [Act.put, List.setIfInBounds_toArray, List.set_cons_zero, List.set_cons_succ, List.getElem_toArray, List.getElem_cons_succ, List.getElem_cons_zero])
            refine wpAnyH_ready (rs := [11, 16]) (by kernel_rfl) (by simp) ?_
            refine AllReadyH.cons rfl (fun K hK => ?_) (AllReadyH.cons rfl (fun K hK => ?_) (AllReadyH.nil))
            · go_simp
              (go_at_call 23; refine (DW.out).mono ?_; rintro e w4 ⟨⟨A4, c4, rfl, hf4⟩, hb4⟩; have HF4 := Lib.hid (And.intro hf4 hb4); clear hf4 hb4)
              (try dsimp only)
              refine hK.out _ _ ?_ (fun hHeld => ?_)
              · exact trivial
              clear hK K
              (try simp only [Act.put, List.setIfInBounds_toArray, List.set_cons_zero, List.set_cons_succ, List.getElem_toArray, List.getElem_cons_succ, List.getElem_cons_zero])
              refine wpAnyH_take (i := 12) (v := ?_) rfl (by kernel_rfl) (by kernel_rfl) (by kernel_rfl) (fun _ _ _ h => h) (Or.inl ⟨by rfl, ?_⟩) (by assumption) ?_
              rotate_left
              · intro w' hSw; (try dsimp only at hSw); go_simp; (try with_reducible rfl)
              (try simp only [Act.put, List.setIfInBounds_toArray, List.set_cons_zero, List.set_cons_succ, List.getElem_toArray, List.getElem_cons_succ, List.getElem_cons_zero])
              refine wpAnyH_take (i := 13) (v := ?_) rfl (by kernel_rfl) (by kernel_rfl) (by kernel_rfl) (fun _ _ _ h => h) (Or.inl ⟨by rfl, ?_⟩) (by assumption) ?_
              rotate_left
              · intro w' hSw; (try dsimp only at hSw); go_simp; (try with_reducible rfl)
              (try simp only [Act.put, List.setIfInBounds_toArray, List.set_cons_zero, List.set_cons_succ, List.getElem_toArray, List.getElem_cons_succ, List.getElem_cons_zero])
              refine wpAnyH_take (i := 14) (v := ?_) rfl (by kernel_rfl) (by kernel_rfl) (by kernel_rfl) (fun _ _ _ h => h) (Or.inl ⟨by rfl, ?_⟩) (by assumption) ?_
              rotate_left
              · intro w' hSw; (try dsimp only at hSw); go_simp; (try with_reducible rfl)
              (try simp only [Act.put, List.setIfInBounds_toArray, List.set_cons_zero, List.set_cons_succ, List.getElem_toArray, List.getElem_cons_succ, List.getElem_cons_zero])
              refine wpAnyH_take (i := 15) (v := ?_) rfl (by kernel_rfl) (by kernel_rfl) (by kernel_rfl) (fun _ _ _ h => h) (Or.inl ⟨by rfl, ?_⟩) (by assumption) ?_
              rotate_left
              · intro w' hSw; (try dsimp only at hSw); go_simp; (try with_reducible rfl)
              (try simp only [Act.put, List.setIfInBounds_toArray, List.set_cons_zero, List.set_cons_succ, List.getElem_toArray, List.getElem_cons_succ, List.getElem_cons_zero])
              refine wpAnyH_ready (rs := [16]) (by kernel_rfl) (by simp) ?_
              refine AllReadyH.cons rfl (fun K hK => ?_) (AllReadyH.nil)
              go_simp
              (try dsimp only)
              refine hK.out _ _ ?_ (fun hHeld => ?_)
              · exact trivial
              clear hK K
              (try simp only [Act.put, List.setIfInBounds_toArray, List.set_cons_zero, List.set_cons_succ, List.getElem_toArray, List.getElem_cons_succ, List.getElem_cons_zero])
              refine wpAnyH_ready (rs := [17]) (by kernel_rfl) (by simp) ?_
              refine AllReadyH.cons rfl (fun K hK => ?_) (AllReadyH.nil)
              go_simp
              (try dsimp only)
              refine hK.out _ _ ?_ (fun hHeld => ?_)
              · exact trivial
              clear hK K
              (try simp only [Act.put, List.setIfInBounds_toArray, List.set_cons_zero, List.set_cons_succ, List.getElem_toArray, List.getElem_cons_succ, List.getElem_cons_zero])
              refine wpAnyH_take (i := 18) (v := ?_) rfl (by kernel_rfl) (by kernel_rfl) (by kernel_rfl) (fun _ _ _ h => h) (Or.inl ⟨by rfl, ?_⟩) (by assumption) ?_
              rotate_left
              · intro w' hSw; (try dsimp only at hSw); go_simp; (try with_reducible rfl)
              (try simp only [Act.put, List.setIfInBounds_toArray, List.set_cons_zero, List.set_cons_succ, List.getElem_toArray, List.getElem_cons_succ, List.getElem_cons_zero])
              refine wpAnyH_take (i := 19) (v := ?_) rfl (by kernel_rfl) (by kernel_rfl) (by kernel_rfl) (fun _ _ _ h => h) (Or.inl ⟨by rfl, ?_⟩) (by assumption) ?_
              rotate_left
              · intro w' hSw; (try dsimp only at hSw); go_simp; (try with_reducible rfl)
              (try simp only [Act.put, List.setIfInBounds_toArray, List.set_cons_zero, List.set_cons_succ, List.getElem_toArray, List.getElem_cons_succ, List.getElem_cons_zero])
              refine wpAnyH_done (by kernel_rfl) ?_ _
              have kA : Below w4.heap.size w4 (w4.alloc (.cells #[.slice A4 n c4, .int .i64 x] 24)) := (Below.refl _ _).alloc (Nat.le_refl _) _
              have h45 := D3.out.1.trans (HF4.out.2.mono D3.out.1.size)
              have HB5 := Lib.hid (h45.trans (kA.mono h45.size))
              have HX5 := Lib.hid ((D3.out.2.below HF4.out.2).below kA)
              have HA5 : Hid (Tb (w4.alloc (.cells #[.slice A4 n c4, .int .i64 x] 24)) w4.heap.size (.slice A4 n c4) x) := Lib.hid (Tb.new w4 (.slice A4 n c4) x 24)
              have HF5 := Lib.hid (HF4.out.1.below kA)
              have hba : w.heap.size < w4.heap.size := by have := HF4.out.2.size; have := D3.out.2.lt; omega
              clear kA h45 DW DWA DA D3 HF4 TN
              generalize w4.alloc (.cells #[.slice A4 n c4, .int .i64 x] 24) = W5 at *
              generalize w4.heap.size = ba at *
              have D5 : Hid (Below w.heap.size w W5.drew ∧ Tb W5.drew w.heap.size (.slice (some ad) n c) x ∧ Tb W5.drew ba (.slice A4 n c4) x ∧ FlatAt W5.drew A4 2 n z) := Lib.hid ⟨HB5.out.drew, ⟨HX5.out.c0, HX5.out.c1, HX5.out.f0, HX5.out.f1, HX5.out.lt⟩, ⟨HA5.out.c0, HA5.out.c1, HA5.out.f0, HA5.out.f1, HA5.out.lt⟩, HF5.out⟩
              have kD : Below W5.drew.heap.size W5.drew (W5.drew.alloc (.cells #[.slice none 0 0, .int .i64 0] 24)) := (Below.refl _ _).alloc (Nat.le_refl _) _
              have DA5 : Hid (Below w.heap.size w (W5.drew.alloc (.cells #[.slice none 0 0, .int .i64 0] 24)) ∧ Tb (W5.drew.alloc (.cells #[.slice none 0 0, .int .i64 0] 24)) w.heap.size (.slice (some ad) n c) x ∧ Tb (W5.drew.alloc (.cells #[.slice none 0 0, .int .i64 0] 24)) ba (.slice A4 n c4) x ∧ FlatAt (W5.drew.alloc (.cells #[.slice none 0 0, .int .i64 0] 24)) A4 2 n z) := Lib.hid ⟨D5.out.1.trans (kD.mono D5.out.1.size), D5.out.2.1.below kD, D5.out.2.2.1.below kD, D5.out.2.2.2.below kD⟩
              have DV := Lib.hid (P2.out W5.drew (HM.out.below D5.out.1))
              have DVA := Lib.hid (P2.out (W5.drew.alloc (.cells #[.slice none 0 0, .int .i64 0] 24)) (HM.out.below DA5.out.1))
              have TN5 : Hid (Tb (W5.drew.alloc (.cells #[.slice none 0 0, .int .i64 0] 24)) W5.heap.size (.slice none 0 0) 0) := Lib.hid (Tb.new W5.drew (.slice none 0 0) 0 24)
              clear P2 kD HB5 HX5 HA5 HF5
              go_wp2_with fail
              refine wp_region_held_drew (S := fun w' => True) (by kernel_rfl) ?_ (fun hHeld => ?_)
              · trivial
              refine wpAnyH_take (i := 0) (v := ?_) rfl (by kernel_rfl) (by kernel_rfl) (by kernel_rfl) (fun _ _ _ h => h) (Or.inl ⟨by rfl, ?_⟩) (by assumption) ?_
              rotate_left
              · intro w' hSw; (try dsimp only at hSw); go_simp; (try with_reducible rfl)
              (try simp only [Act.put, List.setIfInBounds_toArray, List.set_cons_zero, List.set_cons_succ, List.getElem_toArray, List.getElem_cons_succ, List.getElem_cons_zero])
              refine wpAnyH_take (i := 1) (v := ?_) rfl (by kernel_rfl) (by kernel_rfl) (by kernel_rfl) (fun _ _ _ h => h) (Or.inl ⟨by rfl, ?_⟩) (by assumption) ?_
              rotate_left
              · intro w' hSw; (try dsimp only at hSw); go_simp; (try with_reducible rfl)
              (try simp only [Act.put, List.setIfInBounds_toArray, List.set_cons_zero, List.set_cons_succ, List.getElem_toArray, List.getElem_cons_succ, List.getElem_cons_zero])
              refine wpAnyH_take (i := 2) (v := ?_) rfl (by kernel_rfl) (by kernel_rfl) (by kernel_rfl) (fun _ _ _ h => h) (Or.inl ⟨by rfl, ?_⟩) (by assumption) ?_
              rotate_left
              · intro w' hSw; (try dsimp only at hSw); go_simp; (try with_reducible rfl)
              (try simp only [Act.put, List.setIfInBounds_toArray, List.set_cons_zero, List.set_cons_succ, List.getElem_toArray, List.getElem_cons_succ, List.getElem_cons_zero])
              refine wpAnyH_take (i := 3) (v := ?_) rfl (by kernel_rfl) (by kernel_rfl) (by kernel_rfl) (fun _ _ _ h => h) (Or.inl ⟨by rfl, ?_⟩) (by assumption) ?_
              rotate_left
              · intro w' hSw; (try dsimp only at hSw); go_simp; (try with_reducible rfl)
              (try simp only [Act.put, List.setIfInBounds_toArray, List.set_cons_zero, List.set_cons_succ, List.getElem_toArray, List.getElem_cons_succ, List.getElem_cons_zero])
              refine wpAnyH_take (i := 4) (v := ?_) rfl (by kernel_rfl) (by kernel_rfl) (by kernel_rfl) (fun _ _ _ h => h) (Or.inl ⟨by rfl, ?_⟩) (by assumption) ?_
              rotate_left
              · intro w' hSw; (try dsimp only at hSw); go_simp; (try with_reducible rfl)
              (try simp only [Act.put, List.setIfInBounds_toArray, List.set_cons_zero, List.set_cons_succ, List.getElem_toArray, List.getElem_cons_succ, List.getElem_cons_zero])
              refine wpAnyH_take (i := 5) (v := ?_) rfl (by kernel_rfl) (by kernel_rfl) (by kernel_rfl) (fun _ _ _ h => h) (Or.inl ⟨by rfl, ?_⟩) (by assumption) ?_
              rotate_left
              · intro w' hSw; (try dsimp only at hSw); go_simp; (try with_reducible rfl)
              (try simp only [Act.put, List.setIfInBounds_toArray, List.set_cons_zero, List.set_cons_succ, List.getElem_toArray, List.getElem_cons_succ, List.getElem_cons_zero])
              refine wpAnyH_take (i := 6) (v := ?_) rfl (by kernel_rfl) (by kernel_rfl) (by kernel_rfl) (fun _ _ _ h => h) (Or.inl ⟨by rfl, ?_⟩) (by assumption) ?_
              rotate_left
              · intro w' hSw; (try dsimp only at hSw); go_simp; (try with_reducible rfl)
              (try simp only [Act.put, List.setIfInBounds_toArray, List.set_cons_zero, List.set_cons_succ, List.getElem_toArray, List.getElem_cons_succ, List.getElem_cons_zero])
              refine wpAnyH_take (i := 7) (v := ?_) rfl (by kernel_rfl) (by kernel_rfl) (by kernel_rfl) (fun _ _ _ h => h) (Or.inl ⟨by rfl, ?_⟩) (by assumption) ?_
              rotate_left
              · intro w' hSw; (try dsimp only at hSw); go_simp; (try with_reducible rfl)
              (try simp only [Act.put, List.setIfInBounds_toArray, List.set_cons_zero, List.set_cons_succ, List.getElem_toArray, List.getElem_cons_succ, List.getElem_cons_zero])
              refine wpAnyH_ready (rs := [8, 13]) (by kernel_rfl) (by simp) ?_
              refine AllReadyH.cons rfl (fun K hK => ?_) (AllReadyH.cons rfl (fun K hK => ?_) (AllReadyH.nil))
              · go_simp
                (go_at_call 23; refine (DV.out).mono ?_; rintro e w6 ⟨rfl, hb6⟩; have HF6w := Lib.hid hb6; clear hb6)
                (try dsimp only)
                refine hK.out _ _ ?_ (fun hHeld => ?_)
                · exact trivial
                clear hK K
                (try simp only [Act.put, List.setIfInBounds_toArray, List.set_cons_zero, List.set_cons_succ, List.getElem_toArray, List.getElem_cons_succ, List.getElem_cons_zero])
                refine wpAnyH_take (i := 9) (v := ?_) rfl (by kernel_rfl) (by kernel_rfl) (by kernel_rfl) (fun _ _ _ h => h) (Or.inl ⟨by rfl, ?_⟩) (by assumption) ?_
                rotate_left
                · intro w' hSw; (try dsimp only at hSw); go_simp; (try with_reducible rfl)
                (try simp only [Act.put, List.setIfInBounds_toArray, List.set_cons_zero, List.set_cons_succ, List.getElem_toArray, List.getElem_cons_succ, List.getElem_cons_zero])
                refine wpAnyH_take (i := 10) (v := ?_) rfl (by kernel_rfl) (by kernel_rfl) (by kernel_rfl) (fun _ _ _ h => h) (Or.inl ⟨by rfl, ?_⟩) (by assumption) ?_
                rotate_left
                · intro w' hSw; (try dsimp only at hSw); go_simp; (try with_reducible rfl)
                (try simp only [Act.put, List.setIfInBounds_toArray, List.set_cons_zero, List.set_cons_succ, List.getElem_toArray, List.getElem_cons_succ, List.getElem_cons_zero])
                refine wpAnyH_take (i := 11) (v := ?_) rfl (by kernel_rfl) (by kernel_rfl) (by kernel_rfl) (fun _ _ _ h => h) (Or.inl ⟨by rfl, ?_⟩) (by assumption) ?_
                rotate_left
                · intro w' hSw; (try dsimp only at hSw); go_simp; (try with_reducible rfl)
                (try simp only [Act.put, List.setIfInBounds_toArray, List.set_cons_zero, List.set_cons_succ, List.getElem_toArray, List.getElem_cons_succ, List.getElem_cons_zero])
                refine wpAnyH_take (i := 12) (v := ?_) rfl (by kernel_rfl) (by kernel_rfl) (by kernel_rfl) (fun _ _ _ h => h) (Or.inl ⟨by rfl, ?_⟩) (by assumption) ?_
                rotate_left
                · intro w' hSw; (try dsimp only at hSw); go_simp; (try with_reducible rfl)
                (try simp only [Act.put, List.setIfInBounds_toArray, List.set_cons_zero, List.set_cons_succ, List.getElem_toArray, List.getElem_cons_succ, List.getElem_cons_zero])
                refine wpAnyH_ready (rs := [13]) (by kernel_rfl) (by simp) ?_
                refine AllReadyH.cons rfl (fun K hK => ?_) (AllReadyH.nil)
                go_simp
                (try dsimp only)
                refine hK.out _ _ ?_ (fun hHeld => ?_)
                · exact trivial
                clear hK K
                (try simp only [Act.put, List.setIfInBounds_toArray, List.set_cons_zero, List.set_cons_succ, List.getElem_toArray, List.getElem_cons_succ, List.getElem_cons_zero])
                refine wpAnyH_ready (rs := [14]) (by kernel_rfl) (by simp) ?_
                refine AllReadyH.cons rfl (fun K hK => ?_) (AllReadyH.nil)
                go_simp
                (try dsimp only)
                refine hK.out _ _ ?_ (fun hHeld => ?_)
                · exact trivial
                clear hK K
                (try simp only [Act.put, List.setIfInBounds_toArray, List.set_cons_zero, List.set_cons_succ, List.getElem_toArray, List.getElem_cons_succ, List.getElem_cons_zero])
                refine wpAnyH_take (i := 15) (v := ?_) rfl (by kernel_rfl) (by kernel_rfl) (by kernel_rfl) (fun _ _ _ h => h) (Or.inl ⟨by rfl, ?_⟩) (by assumption) ?_
                rotate_left
                · intro w' hSw; (try dsimp only at hSw); go_simp; (try with_reducible rfl)
                (try simp only [Act.put, List.setIfInBounds_toArray, List.set_cons_zero, List.set_cons_succ, List.getElem_toArray, List.getElem_cons_succ, List.getElem_cons_zero])
                refine wpAnyH_take (i := 16) (v := ?_) rfl (by kernel_rfl) (by kernel_rfl) (by kernel_rfl) (fun _ _ _ h => h) (Or.inl ⟨by rfl, ?_⟩) (by assumption) ?_
                rotate_left
                · intro w' hSw; (try dsimp only at hSw); go_simp; (try with_reducible rfl)
                (try simp only [Act.put, List.setIfInBounds_toArray, List.set_cons_zero, List.set_cons_succ, List.getElem_toArray, List.getElem_cons_succ, List.getElem_cons_zero])
                refine wpAnyH_done (by kernel_rfl) ?_ _
                have kA : Below w6.heap.size w6 (w6.alloc (.cells #[.slice none 0 0, .int .i64 0] 24)) := (Below.refl _ _).alloc (Nat.le_refl _) _
                have HB6 := Lib.hid ((D5.out.1.trans (HF6w.out.mono D5.out.1.size)).trans (kA.mono (D5.out.1.trans (HF6w.out.mono D5.out.1.size)).size))
                have HX6 := Lib.hid ((D5.out.2.1.below HF6w.out).below kA)
                have HA6 := Lib.hid ((D5.out.2.2.1.below HF6w.out).below kA)
                have HF6 := Lib.hid ((D5.out.2.2.2.below HF6w.out).below kA)
                clear kA DV DVA D5 DA5 HF6w
                generalize w6.alloc (.cells #[.slice none 0 0, .int .i64 0] 24) = W6 at *
                have F6 := HF6.out
                obtain ⟨q0, q1, qf0, qf1, ql⟩ := HX6.out
                obtain ⟨r0, r1, rf0, rf1, rl⟩ := HA6.out
                have HTS := Lib.hid (tables_same A4 (some ad) n c4 c x z W6 F6 (HZ.out.below HB6.out) (by omega))
                have HK6 := Lib.hid (HM.out.below HB6.out)
                clear F6 HF6 HX6 HA6
                go_wp2_with (first | (go_at_call 13; refine HTS.out.mono ?_; rintro e W7 ⟨rfl, k7⟩; have HB7 := Lib.hid (HB6.out.trans (k7.mono HB6.out.size)); have HM7 := Lib.hid (HK6.out.below k7)) | (go_at_call 15; refine (known3 _ HM7.out).mono ?_; rintro e W8 ⟨rfl, k8⟩; have HB8 := Lib.hid (HB7.out.trans (k8.mono HB7.out.size))))
                go_ret
                exact ⟨rfl, HB8.out⟩
              · go_simp
                (try dsimp only)
                refine hK.out _ _ ?_ (fun hHeld => ?_)
                · exact trivial
                clear hK K
                (try simp only [Act.put, List.setIfInBounds_toArray, List.set_cons_zero, List.set_cons_succ, List.getElem_toArray, List.getElem_cons_succ, List.getElem_cons_zero])
                refine wpAnyH_ready (rs := [8]) (by kernel_rfl) (by simp) ?_
                refine AllReadyH.cons rfl (fun K hK => ?_) (AllReadyH.nil)
                go_simp
                (go_at_call 23; refine (DVA.out).mono ?_; rintro e w6 ⟨rfl, hb6⟩; have HF6w := Lib.hid hb6; have T6 := TN5.out.below hb6; have hs5 := Lib.hid T6; obtain ⟨s0, s1, sf0, sf1, sl⟩ := T6; clear hb6)
                (try dsimp only)
                refine hK.out _ _ ?_ (fun hHeld => ?_)
                · exact trivial
                clear hK K
                (try simp only [Act.put, List.setIfInBounds_toArray, List.set_cons_zero, List.set_cons_succ, List.getElem_toArray, List.getElem_cons_succ, List.getElem_cons_zero])
                refine wpAnyH_take (i := 9) (v := ?_) rfl (by kernel_rfl) (by kernel_rfl) (by kernel_rfl) (fun _ _ _ h => h) (Or.inl ⟨by rfl, ?_⟩) (by assumption) ?_
                rotate_left
                · intro w' hSw; (try dsimp only at hSw); go_simp; (try with_reducible rfl)
                (try simp only [Act.put, List.setIfInBounds_toArray, List.set_cons_zero, List.set_cons_succ, List.getElem_toArray, List.getElem_cons_succ, List.getElem_cons_zero])
                refine wpAnyH_take (i := 10) (v := ?_) rfl (by kernel_rfl) (by kernel_rfl) (by kernel_rfl) (fun _ _ _ h => h) (Or.inl ⟨by rfl, ?_⟩) (by assumption) ?_
                rotate_left
                · intro w' hSw; (try dsimp only at hSw); go_simp; (try with_reducible rfl)
                (try simp only [Act.put, List.setIfInBounds_toArray, List.set_cons_zero, List.set_cons_succ, List.getElem_toArray, List.getElem_cons_succ, List.getElem_cons_zero])
                refine wpAnyH_take (i := 11) (v := ?_) rfl (by kernel_rfl) (by kernel_rfl) (by kernel_rfl) (fun _ _ _ h => h) (Or.inl ⟨by rfl, ?_⟩) (by assumption) ?_
                rotate_left
                · intro w' hSw; (try dsimp only at hSw); go_simp; (try with_reducible rfl)
                (try simp only [Act.put, List.setIfInBounds_toArray, List.set_cons_zero, List.set_cons_succ, List.getElem_toArray, List.getElem_cons_succ, List.getElem_cons_zero])
                refine wpAnyH_take (i := 12) (v := ?_) rfl (by kernel_rfl) (by kernel_rfl) (by kernel_rfl) (fun _ _ _ h => h) (Or.inl ⟨by rfl, ?_⟩) (by assumption) ?_
                rotate_left
                · intro w' hSw; (try dsimp only at hSw); go_simp; (try with_reducible rfl)
                (try simp only [Act.put, List.setIfInBounds_toArray, List.set_cons_zero, List.set_cons_succ, List.getElem_toArray, List.getElem_cons_succ, List.getElem_cons_zero])
                refine wpAnyH_ready (rs := [14]) (by kernel_rfl) (by simp) ?_
                refine AllReadyH.cons rfl (fun K hK => ?_) (AllReadyH.nil)
                go_simp
                (try dsimp only)
                refine hK.out _ _ ?_ (fun hHeld => ?_)
                · exact trivial
                clear hK K
                (try simp only [Act.put, List.setIfInBounds_toArray, List.set_cons_zero, List.set_cons_succ, List.getElem_toArray, List.getElem_cons_succ, List.getElem_cons_zero])
                refine wpAnyH_take (i := 15) (v := ?_) rfl (by kernel_rfl) (by kernel_rfl) (by kernel_rfl) (fun _ _ _ h => h) (Or.inl ⟨by rfl, ?_⟩) (by assumption) ?_
                rotate_left
                · intro w' hSw; (try dsimp only at hSw); go_simp; (try with_reducible rfl)
                (try simp only [Act.put, List.setIfInBounds_toArray, List.set_cons_zero, List.set_cons_succ, List.getElem_toArray, List.getElem_cons_succ, List.getElem_cons_zero])
                refine wpAnyH_take (i := 16) (v := ?_) rfl (by kernel_rfl) (by kernel_rfl) (by kernel_rfl) (fun _ _ _ h => h) (Or.inl ⟨by rfl, ?_⟩) (by assumption) ?_
                rotate_left
                · intro w' hSw; (try dsimp only at hSw); go_simp; (try with_reducible rfl)
                (try simp only [Act.put, List.setIfInBounds_toArray, List.set_cons_zero, List.set_cons_succ, List.getElem_toArray, List.getElem_cons_succ, List.getElem_cons_zero])
                refine wpAnyH_done (by kernel_rfl) ?_ _
                have kO : Only W5.heap.size w6 ((w6.setCell ⟨W5.heap.size, 0, none⟩ (.slice none 0 0)).setCell ⟨W5.heap.size, 1, none⟩ (.int .i64 0)) := ((Only.refl _ w6).setB _).setB _
                have hq1 := D5.out.2.1.lt
                have hq2 := D5.out.2.2.1.lt
                change w.heap.size < W5.heap.size at hq1
                change ba < W5.heap.size at hq2
                have hq3 : w.heap.size ≤ W5.heap.size := by omega
                have hq4 := (DA5.out.1.trans (HF6w.out.mono DA5.out.1.size))
                have HB6 := Lib.hid (hq4.trans (kO.below hq3 hq4.size))
                have HX6 := Lib.hid (tb_only (DA5.out.2.1.below HF6w.out) kO (by omega))
                have HA6 := Lib.hid (tb_only (DA5.out.2.2.1.below HF6w.out) kO (by omega))
                have HF6 := Lib.hid (flat_only (DA5.out.2.2.2.below HF6w.out) kO (fun ad had => by have := flat_lt D5.out.2.2.2 (by omega) ad had; change ad.block < W5.heap.size at this; omega))
                clear kO hq4 DV DVA D5 DA5 HF6w hs5
                generalize (w6.setCell ⟨W5.heap.size, 0, none⟩ (.slice none 0 0)).setCell ⟨W5.heap.size, 1, none⟩ (.int .i64 0) = W6 at *
                have F6 := HF6.out
                obtain ⟨q0, q1, qf0, qf1, ql⟩ := HX6.out
                obtain ⟨r0, r1, rf0, rf1, rl⟩ := HA6.out
                have HTS := Lib.hid (tables_same A4 (some ad) n c4 c x z W6 F6 (HZ.out.below HB6.out) (by omega))
                have HK6 := Lib.hid (HM.out.below HB6.out)
                clear F6 HF6 HX6 HA6
                go_wp2_with (first | (go_at_call 13; refine HTS.out.mono ?_; rintro e W7 ⟨rfl, k7⟩; have HB7 := Lib.hid (HB6.out.trans (k7.mono HB6.out.size)); have HM7 := Lib.hid (HK6.out.below k7)) | (go_at_call 15; refine (known3 _ HM7.out).mono ?_; rintro e W8 ⟨rfl, k8⟩; have HB8 := Lib.hid (HB7.out.trans (k8.mono HB7.out.size))))
                go_ret
                exact ⟨rfl, HB8.out⟩
            · go_simp
              (try dsimp only)
              refine hK.out _ _ ?_ (fun hHeld => ?_)
              · exact trivial
              clear hK K
              (try simp only [Act.put, List.setIfInBounds_toArray, List.set_cons_zero, List.set_cons_succ, List.getElem_toArray, List.getElem_cons_succ, List.getElem_cons_zero])
              refine wpAnyH_ready (rs := [11]) (by kernel_rfl) (by simp) ?_
              refine AllReadyH.cons rfl (fun K hK => ?_) (AllReadyH.nil)
              go_simp
              (go_at_call 23; refine (DWA.out).mono ?_; rintro e w4 ⟨⟨A4, c4, rfl, hf4⟩, hb4⟩; have HF4 := Lib.hid (And.intro hf4 hb4); have T4 := TN.out.below hb4; have HT4 := Lib.hid T4; obtain ⟨s0, s1, sf0, sf1, sl⟩ := T4; clear hf4 hb4)
              (try dsimp only)
              refine hK.out _ _ ?_ (fun hHeld => ?_)
              · exact trivial
              clear hK K
              (try simp only [Act.put, List.setIfInBounds_toArray, List.set_cons_zero, List.set_cons_succ, List.getElem_toArray, List.getElem_cons_succ, List.getElem_cons_zero])
              refine wpAnyH_take (i := 12) (v := ?_) rfl (by kernel_rfl) (by kernel_rfl) (by kernel_rfl) (fun _ _ _ h => h) (Or.inl ⟨by rfl, ?_⟩) (by assumption) ?_
              rotate_left
              · intro w' hSw; (try dsimp only at hSw); go_simp; (try with_reducible rfl)
              (try simp only [Act.put, List.setIfInBounds_toArray, List.set_cons_zero, List.set_cons_succ, List.getElem_toArray, List.getElem_cons_succ, List.getElem_cons_zero])
              refine wpAnyH_take (i := 13) (v := ?_) rfl (by kernel_rfl) (by kernel_rfl) (by kernel_rfl) (fun _ _ _ h => h) (Or.inl ⟨by rfl, ?_⟩) (by assumption) ?_
              rotate_left
              · intro w' hSw; (try dsimp only at hSw); go_simp; (try with_reducible rfl)
              (try simp only [Act.put, List.setIfInBounds_toArray, List.set_cons_zero, List.set_cons_succ, List.getElem_toArray, List.getElem_cons_succ, List.getElem_cons_zero])
              refine wpAnyH_take (i := 14) (v := ?_) rfl (by kernel_rfl) (by kernel_rfl) (by kernel_rfl) (fun _ _ _ h => h) (Or.inl ⟨by rfl, ?_⟩) (by assumption) ?_
              rotate_left
              · intro w' hSw; (try dsimp only at hSw); go_simp; (try with_reducible rfl)
              (try simp only [Act.put, List.setIfInBounds_toArray, List.set_cons_zero, List.set_cons_succ, List.getElem_toArray, List.getElem_cons_succ, List.getElem_cons_zero])
              refine wpAnyH_take (i := 15) (v := ?_) rfl (by kernel_rfl) (by kernel_rfl) (by kernel_rfl) (fun _ _ _ h => h) (Or.inl ⟨by rfl, ?_⟩) (by assumption) ?_
              rotate_left
              · intro w' hSw; (try dsimp only at hSw); go_simp; (try with_reducible rfl)
              (try simp only [Act.put, List.setIfInBounds_toArray, List.set_cons_zero, List.set_cons_succ, List.getElem_toArray, List.getElem_cons_succ, List.getElem_cons_zero])
              refine wpAnyH_ready (rs := [17]) (by kernel_rfl) (by simp) ?_
              refine AllReadyH.cons rfl (fun K hK => ?_) (AllReadyH.nil)
              go_simp
              (try dsimp only)
              refine hK.out _ _ ?_ (fun hHeld => ?_)
              · exact trivial
              clear hK K
              (try simp only [Act.put, List.setIfInBounds_toArray, List.set_cons_zero, List.set_cons_succ, List.getElem_toArray, List.getElem_cons_succ, List.getElem_cons_zero])
              refine wpAnyH_take (i := 18) (v := ?_) rfl (by kernel_rfl) (by kernel_rfl) (by kernel_rfl) (fun _ _ _ h => h) (Or.inl ⟨by rfl, ?_⟩) (by assumption) ?_
              rotate_left
              · intro w' hSw; (try dsimp only at hSw); go_simp; (try with_reducible rfl)
              (try simp only [Act.put, List.setIfInBounds_toArray, List.set_cons_zero, List.set_cons_succ, List.getElem_toArray, List.getElem_cons_succ, List.getElem_cons_zero])
              refine wpAnyH_take (i := 19) (v := ?_) rfl (by kernel_rfl) (by kernel_rfl) (by kernel_rfl) (fun _ _ _ h => h) (Or.inl ⟨by rfl, ?_⟩) (by assumption) ?_
              rotate_left
              · intro w' hSw; (try dsimp only at hSw); go_simp; (try with_reducible rfl)
              (try simp only [Act.put, List.setIfInBounds_toArray, List.set_cons_zero, List.set_cons_succ, List.getElem_toArray, List.getElem_cons_succ, List.getElem_cons_zero])
              refine wpAnyH_done (by kernel_rfl) ?_ _
              have kO : Only w3.heap.size w4 ((w4.setCell ⟨w3.heap.size, 0, none⟩ (.slice A4 n c4)).setCell ⟨w3.heap.size, 1, none⟩ (.int .i64 x)) := ((Only.refl _ w4).setB _).setB _
              have hq1 : w.heap.size < w3.heap.size := HX3.out.lt
              have hq4 := (DA.out.1.trans (HF4.out.2.mono DA.out.1.size))
              have HB5 := Lib.hid (hq4.trans (kO.below (Nat.le_of_lt hq1) hq4.size))
              have HX5 := Lib.hid (tb_only (DA.out.2.below HF4.out.2) kO (by omega))
              have HA5 := Lib.hid (tb_set (v' := .slice A4 n c4) (x' := x) HT4.out)
              have hblk : w4.heap[w3.heap.size]? = some (.cells #[.slice none 0 0, .int .i64 0] 24 (0, 0)) := (HF4.out.2.block w3.heap.size (by rw [World.size_alloc]; exact Nat.lt_succ_self w3.heap.size)).trans (heap_alloc_new w3.drew _)
              have HF5 := Lib.hid (flat_only HF4.out.1 kO (flat_ne hblk HF4.out.1 n1))
              have hba := hq1
              clear kO hq4 hblk DW DWA DA D3 HF4 TN HT4 s0 s1 sf0 sf1 sl
              generalize (w4.setCell ⟨w3.heap.size, 0, none⟩ (.slice A4 n c4)).setCell ⟨w3.heap.size, 1, none⟩ (.int .i64 x) = W5 at *
              generalize w3.heap.size = ba at *
              have D5 : Hid (Below w.heap.size w W5.drew ∧ Tb W5.drew w.heap.size (.slice (some ad) n c) x ∧ Tb W5.drew ba (.slice A4 n c4) x ∧ FlatAt W5.drew A4 2 n z) := Lib.hid ⟨HB5.out.drew, ⟨HX5.out.c0, HX5.out.c1, HX5.out.f0, HX5.out.f1, HX5.out.lt⟩, ⟨HA5.out.c0, HA5.out.c1, HA5.out.f0, HA5.out.f1, HA5.out.lt⟩, HF5.out⟩
              have kD : Below W5.drew.heap.size W5.drew (W5.drew.alloc (.cells #[.slice none 0 0, .int .i64 0] 24)) := (Below.refl _ _).alloc (Nat.le_refl _) _
              have DA5 : Hid (Below w.heap.size w (W5.drew.alloc (.cells #[.slice none 0 0, .int .i64 0] 24)) ∧ Tb (W5.drew.alloc (.cells #[.slice none 0 0, .int .i64 0] 24)) w.heap.size (.slice (some ad) n c) x ∧ Tb (W5.drew.alloc (.cells #[.slice none 0 0, .int .i64 0] 24)) ba (.slice A4 n c4) x ∧ FlatAt (W5.drew.alloc (.cells #[.slice none 0 0, .int .i64 0] 24)) A4 2 n z) := Lib.hid ⟨D5.out.1.trans (kD.mono D5.out.1.size), D5.out.2.1.below kD, D5.out.2.2.1.below kD, D5.out.2.2.2.below kD⟩
              have DV := Lib.hid (P2.out W5.drew (HM.out.below D5.out.1))
              have DVA := Lib.hid (P2.out (W5.drew.alloc (.cells #[.slice none 0 0, .int .i64 0] 24)) (HM.out.below DA5.out.1))
              have TN5 : Hid (Tb (W5.drew.alloc (.cells #[.slice none 0 0, .int .i64 0] 24)) W5.heap.size (.slice none 0 0) 0) := Lib.hid (Tb.new W5.drew (.slice none 0 0) 0 24)
              clear P2 kD HB5 HX5 HA5 HF5
              go_wp2_with fail
              refine wp_region_held_drew (S := fun w' => True) (by kernel_rfl) ?_ (fun hHeld => ?_)
              · trivial
              refine wpAnyH_take (i := 0) (v := ?_) rfl (by kernel_rfl) (by kernel_rfl) (by kernel_rfl) (fun _ _ _ h => h) (Or.inl ⟨by rfl, ?_⟩) (by assumption) ?_
              rotate_left
              · intro w' hSw; (try dsimp only at hSw); go_simp; (try with_reducible rfl)
              (try simp only [Act.put, List.setIfInBounds_toArray, List.set_cons_zero, List.set_cons_succ, List.getElem_toArray, List.getElem_cons_succ, List.getElem_cons_zero])
              refine wpAnyH_take (i := 1) (v := ?_) rfl (by kernel_rfl) (by kernel_rfl) (by kernel_rfl) (fun _ _ _ h => h) (Or.inl ⟨by rfl, ?_⟩) (by assumption) ?_
              rotate_left
              · intro w' hSw; (try dsimp only at hSw); go_simp; (try with_reducible rfl)
              (try simp only [Act.put, List.setIfInBounds_toArray, List.set_cons_zero, List.set_cons_succ, List.getElem_toArray, List.getElem_cons_succ, List.getElem_cons_zero])
              refine wpAnyH_take (i := 2) (v := ?_) rfl (by kernel_rfl) (by kernel_rfl) (by kernel_rfl) (fun _ _ _ h => h) (Or.inl ⟨by rfl, ?_⟩) (by assumption) ?_
              rotate_left
              · intro w' hSw; (try dsimp only at hSw); go_simp; (try with_reducible rfl)
              (try simp only [Act.put, List.setIfInBounds_toArray, List.set_cons_zero, List.set_cons_succ, List.getElem_toArray, List.getElem_cons_succ, List.getElem_cons_zero])
              refine wpAnyH_take (i := 3) (v := ?_) rfl (by kernel_rfl) (by kernel_rfl) (by kernel_rfl) (fun _ _ _ h => h) (Or.inl ⟨by rfl, ?_⟩) (by assumption) ?_
              rotate_left
              · intro w' hSw; (try dsimp only at hSw); go_simp; (try with_reducible rfl)
              (try simp only [Act.put, List.setIfInBounds_toArray, List.set_cons_zero, List.set_cons_succ, List.getElem_toArray, List.getElem_cons_succ, List.getElem_cons_zero])
              refine wpAnyH_take (i := 4) (v := ?_) rfl (by kernel_rfl) (by kernel_rfl) (by kernel_rfl) (fun _ _ _ h => h) (Or.inl ⟨by rfl, ?_⟩) (by assumption) ?_
              rotate_left
              · intro w' hSw; (try dsimp only at hSw); go_simp; (try with_reducible rfl)
              (try simp only [Act.put, List.setIfInBounds_toArray, List.set_cons_zero, List.set_cons_succ, List.getElem_toArray, List.getElem_cons_succ, List.getElem_cons_zero])
              refine wpAnyH_take (i := 5) (v := ?_) rfl (by kernel_rfl) (by kernel_rfl) (by kernel_rfl) (fun _ _ _ h => h) (Or.inl ⟨by rfl, ?_⟩) (by assumption) ?_
              rotate_left
              · intro w' hSw; (try dsimp only at hSw); go_simp; (try with_reducible rfl)
              (try simp only [Act.put, List.setIfInBounds_toArray, List.set_cons_zero, List.set_cons_succ, List.getElem_toArray, List.getElem_cons_succ, List.getElem_cons_zero])
              refine wpAnyH_take (i := 6) (v := ?_) rfl (by kernel_rfl) (by kernel_rfl) (by kernel_rfl) (fun _ _ _ h => h) (Or.inl ⟨by rfl, ?_⟩) (by assumption) ?_
              rotate_left
              · intro w' hSw; (try dsimp only at hSw); go_simp; (try with_reducible rfl)
              (try simp only [Act.put, List.setIfInBounds_toArray, List.set_cons_zero, List.set_cons_succ, List.getElem_toArray, List.getElem_cons_succ, List.getElem_cons_zero])
              refine wpAnyH_take (i := 7) (v := ?_) rfl (by kernel_rfl) (by kernel_rfl) (by kernel_rfl) (fun _ _ _ h => h) (Or.inl ⟨by rfl, ?_⟩) (by assumption) ?_
              rotate_left
              · intro w' hSw; (try dsimp only at hSw); go_simp; (try with_reducible rfl)
              (try simp only [Act.put, List.setIfInBounds_toArray, List.set_cons_zero, List.set_cons_succ, List.getElem_toArray, List.getElem_cons_succ, List.getElem_cons_zero])
              refine wpAnyH_ready (rs := [8, 13]) (by kernel_rfl) (by simp) ?_
              refine AllReadyH.cons rfl (fun K hK => ?_) (AllReadyH.cons rfl (fun K hK => ?_) (AllReadyH.nil))
              · go_simp
                (go_at_call 23; refine (DV.out).mono ?_; rintro e w6 ⟨rfl, hb6⟩; have HF6w := Lib.hid hb6; clear hb6)
                (try dsimp only)
                refine hK.out _ _ ?_ (fun hHeld => ?_)
                · exact trivial
                clear hK K
                (try simp only [Act.put, List.setIfInBounds_toArray, List.set_cons_zero, List.set_cons_succ, List.getElem_toArray, List.getElem_cons_succ, List.getElem_cons_zero])
                refine wpAnyH_take (i := 9) (v := ?_) rfl (by kernel_rfl) (by kernel_rfl) (by kernel_rfl) (fun _ _ _ h => h) (Or.inl ⟨by rfl, ?_⟩) (by assumption) ?_
                rotate_left
                · intro w' hSw; (try dsimp only at hSw); go_simp; (try with_reducible rfl)
                (try simp only [Act.put, List.setIfInBounds_toArray, List.set_cons_zero, List.set_cons_succ, List.getElem_toArray, List.getElem_cons_succ, List.getElem_cons_zero])
                refine wpAnyH_take (i := 10) (v := ?_) rfl (by kernel_rfl) (by kernel_rfl) (by kernel_rfl) (fun _ _ _ h => h) (Or.inl ⟨by rfl, ?_⟩) (by assumption) ?_
                rotate_left
                · intro w' hSw; (try dsimp only at hSw); go_simp; (try with_reducible rfl)
                (try simp only [Act.put, List.setIfInBounds_toArray, List.set_cons_zero, List.set_cons_succ, List.getElem_toArray, List.getElem_cons_succ, List.getElem_cons_zero])
                refine wpAnyH_take (i := 11) (v := ?_) rfl (by kernel_rfl) (by kernel_rfl) (by kernel_rfl) (fun _ _ _ h => h) (Or.inl ⟨by rfl, ?_⟩) (by assumption) ?_
                rotate_left
                · intro w' hSw; (try dsimp only at hSw); go_simp; (try with_reducible rfl)
                (try simp only [Act.put, List.setIfInBounds_toArray, List.set_cons_zero, List.set_cons_succ, List.getElem_toArray, List.getElem_cons_succ, List.getElem_cons_zero])
                refine wpAnyH_take (i := 12) (v := ?_) rfl (by kernel_rfl) (by kernel_rfl) (by kernel_rfl) (fun _ _ _ h => h) (Or.inl ⟨by rfl, ?_⟩) (by assumption) ?_
                rotate_left
                · intro w' hSw; (try dsimp only at hSw); go_simp; (try with_reducible rfl)
                (try simp only [Act.put, List.setIfInBounds_toArray, List.set_cons_zero, List.set_cons_succ, List.getElem_toArray, List.getElem_cons_succ, List.getElem_cons_zero])
                refine wpAnyH_ready (rs := [13]) (by kernel_rfl) (by simp) ?_
                refine AllReadyH.cons rfl (fun K hK => ?_) (AllReadyH.nil)
                go_simp
                (try dsimp only)
                refine hK.out _ _ ?_ (fun hHeld => ?_)
                · exact trivial
                clear hK K
                (try simp only [Act.put, List.setIfInBounds_toArray, List.set_cons_zero, List.set_cons_succ, List.getElem_toArray, List.getElem_cons_succ, List.getElem_cons_zero])
                refine wpAnyH_ready (rs := [14]) (by kernel_rfl) (by simp) ?_
                refine AllReadyH.cons rfl (fun K hK => ?_) (AllReadyH.nil)
                go_simp
                (try dsimp only)
                refine hK.out _ _ ?_ (fun hHeld => ?_)
                · exact trivial
                clear hK K
                (try simp only [Act.put, List.setIfInBounds_toArray, List.set_cons_zero, List.set_cons_succ, List.getElem_toArray, List.getElem_cons_succ, List.getElem_cons_zero])
                refine wpAnyH_take (i := 15) (v := ?_) rfl (by kernel_rfl) (by kernel_rfl) (by kernel_rfl) (fun _ _ _ h => h) (Or.inl ⟨by rfl, ?_⟩) (by assumption) ?_
                rotate_left
                · intro w' hSw; (try dsimp only at hSw); go_simp; (try with_reducible rfl)
                (try simp only [Act.put, List.setIfInBounds_toArray, List.set_cons_zero, List.set_cons_succ, List.getElem_toArray, List.getElem_cons_succ, List.getElem_cons_zero])
                refine wpAnyH_take (i := 16) (v := ?_) rfl (by kernel_rfl) (by kernel_rfl) (by kernel_rfl) (fun _ _ _ h => h) (Or.inl ⟨by rfl, ?_⟩) (by assumption) ?_
                rotate_left
                · intro w' hSw; (try dsimp only at hSw); go_simp; (try with_reducible rfl)
                (try simp only [Act.put, List.setIfInBounds_toArray, List.set_cons_zero, List.set_cons_succ, List.getElem_toArray, List.getElem_cons_succ, List.getElem_cons_zero])
                refine wpAnyH_done (by kernel_rfl) ?_ _
                have kA : Below w6.heap.size w6 (w6.alloc (.cells #[.slice none 0 0, .int .i64 0] 24)) := (Below.refl _ _).alloc (Nat.le_refl _) _
                have HB6 := Lib.hid ((D5.out.1.trans (HF6w.out.mono D5.out.1.size)).trans (kA.mono (D5.out.1.trans (HF6w.out.mono D5.out.1.size)).size))
                have HX6 := Lib.hid ((D5.out.2.1.below HF6w.out).below kA)
                have HA6 := Lib.hid ((D5.out.2.2.1.below HF6w.out).below kA)
                have HF6 := Lib.hid ((D5.out.2.2.2.below HF6w.out).below kA)
                clear kA DV DVA D5 DA5 HF6w
                generalize w6.alloc (.cells #[.slice none 0 0, .int .i64 0] 24) = W6 at *
                have F6 := HF6.out
                obtain ⟨q0, q1, qf0, qf1, ql⟩ := HX6.out
                obtain ⟨r0, r1, rf0, rf1, rl⟩ := HA6.out
                have HTS := Lib.hid (tables_same A4 (some ad) n c4 c x z W6 F6 (HZ.out.below HB6.out) (by omega))
                have HK6 := Lib.hid (HM.out.below HB6.out)
                clear F6 HF6 HX6 HA6
                go_wp2_with (first | (go_at_call 13; refine HTS.out.mono ?_; rintro e W7 ⟨rfl, k7⟩; have HB7 := Lib.hid (HB6.out.trans (k7.mono HB6.out.size)); have HM7 := Lib.hid (HK6.out.below k7)) | (go_at_call 15; refine (known3 _ HM7.out).mono ?_; rintro e W8 ⟨rfl, k8⟩; have HB8 := Lib.hid (HB7.out.trans (k8.mono HB7.out.size))))
                go_ret
                exact ⟨rfl, HB8.out⟩
              · go_simp
                (try dsimp only)
                refine hK.out _ _ ?_ (fun hHeld => ?_)
                · exact trivial
                clear hK K
                (try simp only [Act.put, List.setIfInBounds_toArray, List.set_cons_zero, List.set_cons_succ, List.getElem_toArray, List.getElem_cons_succ, List.getElem_cons_zero])
                refine wpAnyH_ready (rs := [8]) (by kernel_rfl) (by simp) ?_
                refine AllReadyH.cons rfl (fun K hK => ?_) (AllReadyH.nil)
                go_simp
                (go_at_call 23; refine (DVA.out).mono ?_; rintro e w6 ⟨rfl, hb6⟩; have HF6w := Lib.hid hb6; have T6 := TN5.out.below hb6; have hs5 := Lib.hid T6; obtain ⟨s0, s1, sf0, sf1, sl⟩ := T6; clear hb6)
                (try dsimp only)
                refine hK.out _ _ ?_ (fun hHeld => ?_)
                · exact trivial
                clear hK K
                (try simp only [Act.put, List.setIfInBounds_toArray, List.set_cons_zero, List.set_cons_succ, List.getElem_toArray, List.getElem_cons_succ, List.getElem_cons_zero])
                refine wpAnyH_take (i := 9) (v := ?_) rfl (by kernel_rfl) (by kernel_rfl) (by kernel_rfl) (fun _ _ _ h => h) (Or.inl ⟨by rfl, ?_⟩) (by assumption) ?_
                rotate_left
                · intro w' hSw; (try dsimp only at hSw); go_simp; (try with_reducible rfl)
                (try simp only [Act.put, List.setIfInBounds_toArray, List.set_cons_zero, List.set_cons_succ, List.getElem_toArray, List.getElem_cons_succ, List.getElem_cons_zero])
                refine wpAnyH_take (i := 10) (v := ?_) rfl (by kernel_rfl) (by kernel_rfl) (by kernel_rfl) (fun _ _ _ h => h) (Or.inl ⟨by rfl, ?_⟩) (by assumption) ?_
                rotate_left
                · intro w' hSw; (try dsimp only at hSw); go_simp; (try with_reducible rfl)
                (try simp only [Act.put, List.setIfInBounds_toArray, List.set_cons_zero, List.set_cons_succ, List.getElem_toArray, List.getElem_cons_succ, List.getElem_cons_zero])
                refine wpAnyH_take (i := 11) (v := ?_) rfl (by kernel_rfl) (by kernel_rfl) (by kernel_rfl) (fun _ _ _ h => h) (Or.inl ⟨by rfl, ?_⟩) (by assumption) ?_
                rotate_left
                · intro w' hSw; (try dsimp only at hSw); go_simp; (try with_reducible rfl)
                (try simp only [Act.put, List.setIfInBounds_toArray, List.set_cons_zero, List.set_cons_succ, List.getElem_toArray, List.getElem_cons_succ, List.getElem_cons_zero])
                refine wpAnyH_take (i := 12) (v := ?_) rfl (by kernel_rfl) (by kernel_rfl) (by kernel_rfl) (fun _ _ _ h => h) (Or.inl ⟨by rfl, ?_⟩) (by assumption) ?_
                rotate_left
                · intro w' hSw; (try dsimp only at hSw); go_simp; (try with_reducible rfl)
                (try simp only [Act.put, List.setIfInBounds_toArray, List.set_cons_zero, List.set_cons_succ, List.getElem_toArray, List.getElem_cons_succ, List.getElem_cons_zero])
                refine wpAnyH_ready (rs := [14]) (by kernel_rfl) (by simp) ?_
                refine AllReadyH.cons rfl (fun K hK => ?_) (AllReadyH.nil)
                go_simp
                (try dsimp only)
                refine hK.out _ _ ?_ (fun hHeld => ?_)
                · exact trivial
                clear hK K
                (try simp only [Act.put, List.setIfInBounds_toArray, List.set_cons_zero, List.set_cons_succ, List.getElem_toArray, List.getElem_cons_succ, List.getElem_cons_zero])
                refine wpAnyH_take (i := 15) (v := ?_) rfl (by kernel_rfl) (by kernel_rfl) (by kernel_rfl) (fun _ _ _ h => h) (Or.inl ⟨by rfl, ?_⟩) (by assumption) ?_
                rotate_left
                · intro w' hSw; (try dsimp only at hSw); go_simp; (try with_reducible rfl)
                (try simp only [Act.put, List.setIfInBounds_toArray, List.set_cons_zero, List.set_cons_succ, List.getElem_toArray, List.getElem_cons_succ, List.getElem_cons_zero])
                refine wpAnyH_take (i := 16) (v := ?_) rfl (by kernel_rfl) (by kernel_rfl) (by kernel_rfl) (fun _ _ _ h => h) (Or.inl ⟨by rfl, ?_⟩) (by assumption) ?_
                rotate_left
                · intro w' hSw; (try dsimp only at hSw); go_simp; (try with_reducible rfl)
                (try simp only [Act.put, List.setIfInBounds_toArray, List.set_cons_zero, List.set_cons_succ, List.getElem_toArray, List.getElem_cons_succ, List.getElem_cons_zero])
                refine wpAnyH_done (by kernel_rfl) ?_ _
                have kO : Only W5.heap.size w6 ((w6.setCell ⟨W5.heap.size, 0, none⟩ (.slice none 0 0)).setCell ⟨W5.heap.size, 1, none⟩ (.int .i64 0)) := ((Only.refl _ w6).setB _).setB _
                have hq1 := D5.out.2.1.lt
                have hq2 := D5.out.2.2.1.lt
                change w.heap.size < W5.heap.size at hq1
                change ba < W5.heap.size at hq2
                have hq3 : w.heap.size ≤ W5.heap.size := by omega
                have hq4 := (DA5.out.1.trans (HF6w.out.mono DA5.out.1.size))
                have HB6 := Lib.hid (hq4.trans (kO.below hq3 hq4.size))
                have HX6 := Lib.hid (tb_only (DA5.out.2.1.below HF6w.out) kO (by omega))
                have HA6 := Lib.hid (tb_only (DA5.out.2.2.1.below HF6w.out) kO (by omega))
                have HF6 := Lib.hid (flat_only (DA5.out.2.2.2.below HF6w.out) kO (fun ad had => by have := flat_lt D5.out.2.2.2 (by omega) ad had; change ad.block < W5.heap.size at this; omega))
                clear kO hq4 DV DVA D5 DA5 HF6w hs5
                generalize (w6.setCell ⟨W5.heap.size, 0, none⟩ (.slice none 0 0)).setCell ⟨W5.heap.size, 1, none⟩ (.int .i64 0) = W6 at *
                have F6 := HF6.out
                obtain ⟨q0, q1, qf0, qf1, ql⟩ := HX6.out
                obtain ⟨r0, r1, rf0, rf1, rl⟩ := HA6.out
                have HTS := Lib.hid (tables_same A4 (some ad) n c4 c x z W6 F6 (HZ.out.below HB6.out) (by omega))
                have HK6 := Lib.hid (HM.out.below HB6.out)
                clear F6 HF6 HX6 HA6
                go_wp2_with (first | (go_at_call 13; refine HTS.out.mono ?_; rintro e W7 ⟨rfl, k7⟩; have HB7 := Lib.hid (HB6.out.trans (k7.mono HB6.out.size)); have HM7 := Lib.hid (HK6.out.below k7)) | (go_at_call 15; refine (known3 _ HM7.out).mono ?_; rintro e W8 ⟨rfl, k8⟩; have HB8 := Lib.hid (HB7.out.trans (k8.mono HB7.out.size))))
                go_ret
                exact ⟨rfl, HB8.out⟩
end Go.Proofs.YtonleiffbfdikaaDoor
