/- Stage 26: TraceJoins: lines of two rows of answers, one behind the other, are those of both: for every row of steps and of answers, wherever it is cut (written by gen/s26j.py). -/
import Derived.Test.YtelabakcadhffaaDoorTrHvy
import Derived.Test.YtelabakcadhffaaDoorS26Q
import Derived.Test.YtelabakcadhffaaDoorLow40
set_option linter.unusedSimpArgs false
set_option linter.unusedVariables false
namespace Go.Proofs.YtelabakcadhffaaDoor
open Go.ChangeShapes Go.WideShapes Go.ChangeAt Go.RowKit Go.Joins Go.Deep Go.Sort

set_option maxHeartbeats 1000000 in
theorem joins_out (SA AA : Option Addr) (n n' sc ac : Nat) (q : Int) (w : World) (h : 40 < n ∨ n' ≠ n) (hn : n ≤ maxLen) (hn' : n' ≤ maxLen) :
    Calls Tryd.prog 4 #[.slice SA n sc, .slice AA n' ac, .int .i64 q] w fun e w' => e = .returned (.bool true) ∧ Below w.heap.size w w' := by
  unfold maxLen at hn hn'
  by_cases h1 : 40 < n
  · have t1 : decide ((40 : Int) < (n : Int)) = true := by simp only [decide_eq_true_eq]; omega
    clear h
    go_enter Tryd.func4, Tryd.ntmps4
    go_wp2
    go_ret
    exact ⟨rfl, Below.refl _ _⟩
  · have t1 : decide ((40 : Int) < (n : Int)) = false := by simp only [decide_eq_false_iff_not]; omega
    have t2 : ((n' : Int) != (n : Int)) = true := by simp only [bne_iff_ne, ne_eq]; omega
    have t3 : ¬ (n' : Int) = (n : Int) := by omega
    have t4 : ¬ n' = n := by omega
    have t5 : (n' != n) = true := by simpa using t4
    clear h
    go_enter Tryd.func4, Tryd.ntmps4
    go_wp2
    go_ret
    exact ⟨rfl, Below.refl _ _⟩
theorem RowG.drop {α : Type} {f : α → List Value} {m : Nat} {w : World} {B O : Nat} {sp : Option Nat} {L : List α} (h : RowG f w (some ⟨B, O, sp⟩) L) (hm : ∀ x, (f x).length = m) (k : Nat) : RowG f w (some ⟨B, O + k * m, sp⟩) (L.drop k) := fun h0 => by
  rw [List.length_drop] at h0
  obtain ⟨B', O', e, hB, hc⟩ := h (by omega)
  injection e with e
  injection e with e1 e2 e3
  subst e1 e2 e3
  refine ⟨_, _, rfl, hB, fun j u hu => ?_⟩
  have he : L.flatMap f = (L.take k).flatMap f ++ (L.drop k).flatMap f := by rw [← List.flatMap_append, List.take_append_drop]
  have hl : ((L.take k).flatMap f).length = k * m := by rw [fm_len f m hm, List.length_take, show min k L.length = k from by omega]
  rw [Nat.add_assoc]
  refine hc (k * m + j) u ?_
  rw [he, List.getElem?_append_right (by omega), hl, show k * m + j - k * m = j from by omega]
  exact hu
theorem RowG.dropA {α : Type} {f : α → List Value} {m : Nat} {w : World} {a : Addr} {L : List α} (h : RowG f w (some a) L) (hm : ∀ x, (f x).length = m) (k : Nat) : RowG f w (some (a.add (k * m))) (L.drop k) := fun h0 => by
  have h1 := h0
  rw [List.length_drop] at h1
  obtain ⟨B, O, e, _⟩ := h (by omega)
  injection e with e
  subst e
  rw [add_plain]
  exact h.drop hm k h0
theorem RowG.take {α : Type} {f : α → List Value} {w : World} {A : Option Addr} {L : List α} (h : RowG f w A L) (k : Nat) : RowG f w A (L.take k) := fun h0 => by
  rw [List.length_take] at h0
  obtain ⟨B, O, e, hB, hc⟩ := h (by omega)
  refine ⟨B, O, e, hB, fun j u hu => hc j u ?_⟩
  have he : L.flatMap f = (L.take k).flatMap f ++ (L.drop k).flatMap f := by rw [← List.flatMap_append, List.take_append_drop]
  have hj := (List.getElem?_eq_some_iff.1 hu).1
  rw [he, List.getElem?_append_left hj]
  exact hu
theorem RowG.none {α : Type} {f : α → List Value} {w : World} {A : Option Addr} : RowG f w A [] := fun h => absurd h (by simp)
/-- trace.Lines, whatever the length. -/
theorem tr_lines_any (SA AA : Option Addr) (S : List Sp) (A : List An) (n sc ac : Nat) (w : World) (ht : Tab w) (hS : RowG Sp.cs w SA S) (hA : RowG An.cs w AA A) (hs : S.length = n) (ha : A.length = n) (hn : n ≤ 100) (hSo : ∀ x ∈ S, x.Ok) (hAo : ∀ x ∈ A, x.In w) :
    Calls Tryd.prog 9 #[.slice SA n sc, .slice AA n ac] w fun e w' => e = .returned (.string ⟨(linesL (S.zip A)).toArray⟩) ∧ Below w.heap.size w w' := by
  rcases Nat.eq_zero_or_pos n with h0 | h0
  · subst h0
    obtain rfl := List.eq_nil_of_length_eq_zero hs
    exact tr_lines0 SA AA 0 0 sc ac w (.inl rfl) (by omega) (by omega)
  · exact tr_lines SA AA S A n sc ac w ht hS hA hs ha hn h0 hSo hAo
theorem ans_in {w : World} {x : An} (h : AnQ w x) (f : Fits x) : x.In w :=
  { b2 := h.b2, b3 := h.b3, b4 := h.b4, b5 := h.b5, by_ := h.by_, is := h.is, vl := by have := f.1; omega, row := h.row, ins := fun y hy => ⟨(h.ins y hy).by_, (h.ins y hy).is, (h.ins y hy).n, by have := (f.2.2 y hy).1; omega, by have := (f.2.2 y hy).2; omega⟩, pl := by have := f.2.1; omega }
theorem anq_below {w w' : World} {x : An} (h : AnQ w x) (k : Below w.heap.size w w') : AnQ w' x := { h with by_ := h.by_.below k, row := h.row.below k, ins := fun y hy => { h.ins y hy with by_ := (h.ins y hy).by_.below k } }
theorem cut_at {α β : Type} {S : List α} {A : List β} (h : S.length = A.length) (k : Nat) : (S.take k).zip (A.take k) ++ (S.drop k).zip (A.drop k) = S.zip A := by
  have h1 : (S.take k ++ S.drop k).zip (A.take k ++ A.drop k) = (S.take k).zip (A.take k) ++ (S.drop k).zip (A.drop k) := List.zip_append (by rw [List.length_take, List.length_take, h])
  rw [List.take_append_drop, List.take_append_drop] at h1
  exact h1.symm
set_option maxRecDepth 100000 in
set_option maxHeartbeats 60000000 in
theorem joins_in (SA AA : Option Addr) (S : List Sp) (A : List An) (n sc ac : Nat) (q : Int) (w : World) (ht : Tab w) (hS : RowG Sp.cs w SA S) (hA : RowG An.cs w AA A) (hs : S.length = n) (ha : A.length = n) (hn : n ≤ 40) (hSo : ∀ x ∈ S, x.Ok) (hAo : ∀ x ∈ A, AnQ w x) (hAb : ∀ x ∈ A, BdA x 281474976710656) (hsc : n ≤ sc) (hac : n ≤ ac) (hscm : sc ≤ maxLen) (hacm : ac ≤ maxLen) :
    Calls Tryd.prog 4 #[.slice SA n sc, .slice AA n ac, .int .i64 q] w fun e w' => e = .returned (.bool true) ∧ Below w.heap.size w w' := by
  have t1 : decide ((40 : Int) < (n : Int)) = false := by simp only [decide_eq_false_iff_not]; omega
  have t2 : ((n : Int) != (n : Int)) = false := by simp
  have HT := Lib.hid ht
  have HSR := Lib.hid hS
  have HAR := Lib.hid hA
  have HSO := Lib.hid hSo
  have HAO := Lib.hid hAo
  have HAB := Lib.hid hAb
  have HSL := Lib.hid hs
  have HAL := Lib.hid ha
  have hni : (n : Int) ≤ 40 := by omega
  have HBB : Hid (Below w.heap.size w w) := Lib.hid (Below.refl _ _)
  unfold maxLen at hscm hacm
  clear ht hS hA hSo hAo hAb hs ha
  go_enter Tryd.func4, Tryd.ntmps4
  go_wp2_with fail
  go_loopw [7] (fun i wr => ∃ k : Nat, k ≤ n ∧ i = .int .i64 k ∧ Hid (∀ (j : Nat) (x : An), j < k → A[j]? = some x → Fits x) ∧ Below w.heap.size w wr) (fun i _ => n - (intOf i).toNat)
  case atStart => exact ⟨0, Nat.zero_le _, rfl, Lib.hid (fun j x h => by omega), HBB.out⟩
  case round =>
    obtain ⟨k, hk, rfl, HF, hB⟩ := hrel
    by_cases hlt : k < n
    · have tk : decide ((k : Int) < (n : Int)) = true := by simpa using hlt
      have lk : (k : Int) < (n : Int) := by omega
      have wk : IntKind.i64.wrap ((k : Int) + 1) = (k : Int) + 1 := IntWalk.i64_in _ (by omega)
      have hka : k < A.length := by rw [HAL.out]; exact hlt
      have hx : A[k]? = some A[k] := List.getElem?_eq_getElem hka
      obtain ⟨B, O, rfl, lB, hc⟩ := HAR.out (by omega)
      have r0 : wr.cell? ⟨B, O + k * 7, none⟩ = A[k].cs[0]? := (hB.cell (p := ⟨B, O + (k * 7 + 0), none⟩) lB).trans ((hc (k * 7 + 0) _ ((fm_at An.cs 7 An.len hx 0 (by omega)).trans (List.getElem?_eq_getElem (by rw [An.len]; omega)))).trans (List.getElem?_eq_getElem (by rw [An.len]; omega)).symm)
      have r1 : wr.cell? ⟨B, O + k * 7 + 1, none⟩ = A[k].cs[1]? := (hB.cell (p := ⟨B, O + (k * 7 + 1), none⟩) lB).trans ((hc (k * 7 + 1) _ ((fm_at An.cs 7 An.len hx 1 (by omega)).trans (List.getElem?_eq_getElem (by rw [An.len]; omega)))).trans (List.getElem?_eq_getElem (by rw [An.len]; omega)).symm)
      have r2 : wr.cell? ⟨B, O + k * 7 + 2, none⟩ = A[k].cs[2]? := (hB.cell (p := ⟨B, O + (k * 7 + 2), none⟩) lB).trans ((hc (k * 7 + 2) _ ((fm_at An.cs 7 An.len hx 2 (by omega)).trans (List.getElem?_eq_getElem (by rw [An.len]; omega)))).trans (List.getElem?_eq_getElem (by rw [An.len]; omega)).symm)
      have r3 : wr.cell? ⟨B, O + k * 7 + 3, none⟩ = A[k].cs[3]? := (hB.cell (p := ⟨B, O + (k * 7 + 3), none⟩) lB).trans ((hc (k * 7 + 3) _ ((fm_at An.cs 7 An.len hx 3 (by omega)).trans (List.getElem?_eq_getElem (by rw [An.len]; omega)))).trans (List.getElem?_eq_getElem (by rw [An.len]; omega)).symm)
      have r4 : wr.cell? ⟨B, O + k * 7 + 4, none⟩ = A[k].cs[4]? := (hB.cell (p := ⟨B, O + (k * 7 + 4), none⟩) lB).trans ((hc (k * 7 + 4) _ ((fm_at An.cs 7 An.len hx 4 (by omega)).trans (List.getElem?_eq_getElem (by rw [An.len]; omega)))).trans (List.getElem?_eq_getElem (by rw [An.len]; omega)).symm)
      have r5 : wr.cell? ⟨B, O + k * 7 + 5, none⟩ = A[k].cs[5]? := (hB.cell (p := ⟨B, O + (k * 7 + 5), none⟩) lB).trans ((hc (k * 7 + 5) _ ((fm_at An.cs 7 An.len hx 5 (by omega)).trans (List.getElem?_eq_getElem (by rw [An.len]; omega)))).trans (List.getElem?_eq_getElem (by rw [An.len]; omega)).symm)
      have r6 : wr.cell? ⟨B, O + k * 7 + 6, none⟩ = A[k].cs[6]? := (hB.cell (p := ⟨B, O + (k * 7 + 6), none⟩) lB).trans ((hc (k * 7 + 6) _ ((fm_at An.cs 7 An.len hx 6 (by omega)).trans (List.getElem?_eq_getElem (by rw [An.len]; omega)))).trans (List.getElem?_eq_getElem (by rw [An.len]; omega)).symm)
      have HH := Lib.hid (tr_heavy A[k] wr (anq_below (HAO.out _ (List.getElem_mem hka)) hB) (HAB.out _ (List.getElem_mem hka)))
      have HNX : Hid (Fits A[k] → ∀ (j : Nat) (x : An), j < k + 1 → A[j]? = some x → Fits x) := Lib.hid (fun h j x hj hy => by
        by_cases hjk : j = k
        · subst hjk
          rw [hx] at hy
          injection hy with hy
          subst hy
          exact h
        · exact HF.out j x (by omega) hy)
      generalize A[k] = x at *
      obtain ⟨y0, y1, y2, y3, y4, y5, y6, y7, y8, y9, y10⟩ := x
      replace r0 : wr.cell? ⟨B, O + k * 7, none⟩ = some (.int .i64 y0) := r0
      replace r1 : wr.cell? ⟨B, O + k * 7 + 1, none⟩ = some (.int .i64 y1) := r1
      replace r2 : wr.cell? ⟨B, O + k * 7 + 2, none⟩ = some (.int .i64 y2) := r2
      replace r3 : wr.cell? ⟨B, O + k * 7 + 3, none⟩ = some (.int .i64 y3) := r3
      replace r4 : wr.cell? ⟨B, O + k * 7 + 4, none⟩ = some (.bool y4) := r4
      replace r5 : wr.cell? ⟨B, O + k * 7 + 5, none⟩ = some (.slice y5 y6.length y7) := r5
      replace r6 : wr.cell? ⟨B, O + k * 7 + 6, none⟩ = some (.slice y8 y9.length y10) := r6
      have HBr := Lib.hid hB
      simp only at HH
      clear hx hc hB HF
      go_wp2_with fail
      refine HH.out.mono ?_; rintro e w1 ⟨hb, rfl, hfit, hb1⟩
      have HB1 := Lib.hid (HBr.out.trans (hb1.mono HBr.out.size))
      cases hb with
      | true =>
        clear hb1 HBB HH
        go_wp2
        go_ret
        exact ⟨rfl, HB1.out⟩
      | false =>
        have HFY := Lib.hid (HNX.out (hfit rfl))
        clear hb1 hfit HH HNX
        go_wp2
        go_roundw
        case rel => exact ⟨k + 1, by omega, by go_num, HFY, HB1.out⟩
        case measure => simp [intOf]; omega
    · obtain rfl : k = n := by omega
      have tk : decide ((k : Int) < (k : Int)) = false := by simp
      have HIN : Hid (∀ x ∈ A, x.In w) := Lib.hid (fun x hx => by
        obtain ⟨j, hj, e⟩ := List.mem_iff_getElem.1 hx
        exact ans_in (HAO.out x hx) (HF.out j x (by rw [← HAL.out]; exact hj) (by rw [← e]; exact List.getElem?_eq_getElem hj)))
      have HBr := Lib.hid hB
      have hq := bits_and_le q 65535 (by omega)
      have hqq : ((65535 : Nat) : Int) = 65535 := rfl
      rw [hqq] at hq
      have wn : IntKind.i64.wrap ((k : Int) + 1) = (k : Int) + 1 := IntWalk.i64_in _ (by omega)
      have hne : ¬ (k : Int) + 1 = 0 := by omega
      have hq1 := hq.1
      obtain ⟨c, hcv, hck⟩ : ∃ c : Nat, (bits .and .i64 q 65535).tmod ((k : Int) + 1) = (c : Int) ∧ c ≤ k := by
        have h1 : (bits .and .i64 q 65535).tmod ((k : Int) + 1) = (bits .and .i64 q 65535) % ((k : Int) + 1) := Int.tmod_eq_emod_of_nonneg hq1
        have h2 := Int.emod_nonneg (bits .and .i64 q 65535) hne
        have h3 := Int.emod_lt_of_pos (bits .and .i64 q 65535) (show (0 : Int) < (k : Int) + 1 by omega)
        refine ⟨((bits .and .i64 q 65535) % ((k : Int) + 1)).toNat, ?_, ?_⟩
        · rw [h1, Int.toNat_of_nonneg h2]
        · omega
      have HCV := Lib.hid hcv
      clear HF hB HBB hqq hq hq1 hcv
      go_wp2_with fail
      rw [HCV.out]
      have hlw : (S.take c).length = c := by rw [List.length_take, HSL.out]; omega
      have hlw2 : (A.take c).length = c := by rw [List.length_take, HAL.out]; omega
      have hlw3 : (S.drop c).length = k - c := by rw [List.length_drop, HSL.out]
      have hlw4 : (A.drop c).length = k - c := by rw [List.length_drop, HAL.out]
      have HL := Lib.hid (And.intro hlw (And.intro hlw2 (And.intro hlw3 hlw4)))
      have HCAT := Lib.hid (show linesL ((S.take c).zip (A.take c)) ++ linesL ((S.drop c).zip (A.drop c)) = linesL (S.zip A) by rw [← linesL_append, cut_at (by rw [HSL.out, HAL.out])])
      have hsz : (linesL (S.zip A)).length ≤ 40 * 200000000001 := by
        refine Nat.le_trans (linesL_len (fun q hq => ?_)) (Nat.mul_le_mul_right _ (by rw [List.length_zip]; have := HSL.out; omega))
        have h1 := HSO.out q.1 (List.of_mem_zip hq).1
        have h2 := HIN.out q.2 (List.of_mem_zip hq).2
        exact line_len h1.b0 h1.b1 h2.b2 h2.b3 h2.b4 h2.b5 h2.vl (fun y hy => ⟨(h2.ins y hy).s1, (h2.ins y hy).s2⟩) h2.pl
      obtain ⟨x1, hx1⟩ : ∃ x : ByteArray, x = ⟨(linesL ((S.take c).zip (A.take c))).toArray⟩ := ⟨_, rfl⟩
      obtain ⟨x2, hx2⟩ : ∃ x : ByteArray, x = ⟨(linesL ((S.drop c).zip (A.drop c))).toArray⟩ := ⟨_, rfl⟩
      obtain ⟨x3, hx3⟩ : ∃ x : ByteArray, x = ⟨(linesL (S.zip A)).toArray⟩ := ⟨_, rfl⟩
      have hcat : x1 ++ x2 = x3 := by
        rw [hx1, hx2, hx3, ← HCAT.out]
        apply ByteArray.ext
        simp
      have hs3 : x3.size ≤ 40 * 200000000001 := by rw [hx3]; simpa [ByteArray.size] using hsz
      have hs12 : x1.size + x2.size = x3.size := by rw [← hcat, ByteArray.size_append]
      have v1 : ¬ 9223372036854775807 < x1.size + x2.size := by omega
      have v2 : (x1 ++ x2).toList = x3.toList := by rw [hcat]
      have v3 : ((x1 ++ x2).toList == x3.toList) = true := by simpa using v2
      have LT := Lib.hid fun (W : World) (hb : Below w.heap.size w W) (c1 c2 : Nat) => tr_lines_any SA AA (S.take c) (A.take c) c c1 c2 W (HT.out.below hb) ((HSR.out.take c).below hb) ((HAR.out.take c).below hb) HL.out.1 HL.out.2.1 (by omega) (fun x hx => HSO.out x (List.mem_of_mem_take hx)) (fun x hx => (HIN.out x (List.mem_of_mem_take hx)).below hb)
      have LD := Lib.hid fun (W : World) (hb : Below w.heap.size w W) (D1 D2 : Option Addr) (g1 : RowG Sp.cs w D1 (S.drop c)) (g2 : RowG An.cs w D2 (A.drop c)) (c1 c2 : Nat) => tr_lines_any D1 D2 (S.drop c) (A.drop c) (k - c) c1 c2 W (HT.out.below hb) (g1.below hb) (g2.below hb) HL.out.2.2.1 HL.out.2.2.2 (by omega) (fun x hx => HSO.out x (List.mem_of_mem_drop hx)) (fun x hx => (HIN.out x (List.mem_of_mem_drop hx)).below hb)
      have LA := Lib.hid fun (W : World) (hb : Below w.heap.size w W) => tr_lines_any SA AA S A k sc ac W (HT.out.below hb) (HSR.out.below hb) (HAR.out.below hb) HSL.out HAL.out (by omega) HSO.out (fun x hx => (HIN.out x hx).below hb)
      rw [← hx1] at LT
      rw [← hx2] at LD
      rw [← hx3] at LA
      have LK := Lib.hid fun (W : World) (hb : Below w.heap.size w W) => known26 W (HT.out.below hb)
      have HGR := Lib.hid fun (d' : Nat) (os : Array Obj) => HBr.out.trans ((below_regrown wr d' os).mono HBr.out.size)
      have B1 := Lib.hid fun (d' : Nat) (os : Array Obj) (c1 c2 : Nat) => Calls.regrown_of (LT.out (grow (redrawn wr d') os) (HGR.out d' os) c1 c2)
      have B3 := Lib.hid fun (d' : Nat) (os : Array Obj) => Calls.regrown_of (LA.out (grow (redrawn wr d') os) (HGR.out d' os))
      have B4 := Lib.hid fun (d' : Nat) (os : Array Obj) => Calls.regrown_of (tr_lines0 SA none k 0 sc 0 (grow (redrawn wr d') os) (.inr rfl) (by omega) (by omega))
      have B5 := Lib.hid fun (d' : Nat) (os : Array Obj) => Calls.regrown_of (LK.out (grow (redrawn wr d') os) (HGR.out d' os))
      have HZS : Hid (SA = none → k = 0) := Lib.hid (fun h => by
        rcases Nat.eq_zero_or_pos k with h0 | h0
        · exact h0
        · obtain ⟨_, _, e, _⟩ := HSR.out (by rw [HSL.out]; exact h0)
          rw [h] at e; cases e)
      have HZA : Hid (AA = none → k = 0) := Lib.hid (fun h => by
        rcases Nat.eq_zero_or_pos k with h0 | h0
        · exact h0
        · obtain ⟨_, _, e, _⟩ := HAR.out (by rw [HAL.out]; exact h0)
          rw [h] at e; cases e)
      have w1 : (c : Int) ≤ (k : Int) := by omega
      have w2 : (k : Int) ≤ (sc : Int) := by omega
      have w3 : (k : Int) ≤ (ac : Int) := by omega
      have w4 : (c : Int) ≤ (sc : Int) := by omega
      have w5 : (c : Int) ≤ (ac : Int) := by omega
      clear hx1 hx2 hx3 hcat hs3 hs12 hsz hlw hlw2 hlw3 hlw4 LT LA LK HCAT
      rcases SA with _ | ⟨SB, SO, ss⟩
      · have hs0 := HZS.out rfl
        have g1 : RowG Sp.cs w none (S.drop c) := by rw [List.eq_nil_of_length_eq_zero (show (S.drop c).length = 0 by rw [HL.out.2.2.1]; omega)]; exact RowG.none
        clear hs0
        rcases AA with _ | ⟨AB, AO, aq⟩
        · have hk0 := HZA.out rfl
          have g2 : RowG An.cs w none (A.drop c) := by rw [List.eq_nil_of_length_eq_zero (show (A.drop c).length = 0 by rw [HL.out.2.2.2]; omega)]; exact RowG.none
          clear hk0
          as_aux_lemma =>
            have B2 := Lib.hid fun (d' : Nat) (os : Array Obj) (c1 c2 : Nat) => Calls.regrown_of (LD.out (grow (redrawn wr d') os) (HGR.out d' os) _ _ g1 g2 c1 c2)
            refine wp_region_quiet_below (by kernel_rfl) (by kernel_rfl) ?_
            repeat (go_big_quiet_step (fail))
            go_big_quiet_step ((go_at_call 9; exact B1.out _ _ _ _))
            repeat (go_big_quiet_step (fail))
            go_big_quiet_step ((go_at_call 9; exact B2.out _ _ _ _))
            repeat (go_big_quiet_step (fail))
            go_big_quiet_step ((go_at_call 9; exact B3.out _ _))
            repeat (go_big_quiet_step (fail))
            go_big_quiet_step ((go_at_call 9; exact B4.out _ _))
            repeat (go_big_quiet_step (fail))
            go_big_quiet_step ((go_at_call 7; exact B5.out _ _))
            repeat (go_big_quiet_step (fail))
            refine wpQuiet_nil ?_
            intro _ hw'
            obtain ⟨⟨dq, osq⟩, hw''⟩ := hw'
            subst hw''
            have HFF := Lib.hid (HGR.out dq osq)
            clear B1 B2 B3 B4 B5 LD HGR
            generalize grow (redrawn wr dq) osq = W9 at *
            go_wp2
            go_ret
            exact ⟨rfl, HFF.out⟩
        · by_cases ha : ac = c
          · have hab := ha.symm
            clear ha
            subst hab
            have g2 : RowG An.cs w (some ⟨AB, AO, aq⟩) (A.drop c) := by rw [List.eq_nil_of_length_eq_zero (show (A.drop c).length = 0 by rw [HL.out.2.2.2]; omega)]; exact RowG.none
            as_aux_lemma =>
              have B2 := Lib.hid fun (d' : Nat) (os : Array Obj) (c1 c2 : Nat) => Calls.regrown_of (LD.out (grow (redrawn wr d') os) (HGR.out d' os) _ _ g1 g2 c1 c2)
              rw [show k - c = 0 from by omega] at B2
              refine wp_region_quiet_below (by kernel_rfl) (by kernel_rfl) ?_
              repeat (go_big_quiet_step (fail))
              go_big_quiet_step ((go_at_call 9; exact B1.out _ _ _ _))
              repeat (go_big_quiet_step (fail))
              go_big_quiet_step ((go_at_call 9; exact B2.out _ _ _ _))
              repeat (go_big_quiet_step (fail))
              go_big_quiet_step ((go_at_call 9; exact B3.out _ _))
              repeat (go_big_quiet_step (fail))
              go_big_quiet_step ((go_at_call 9; exact B4.out _ _))
              repeat (go_big_quiet_step (fail))
              go_big_quiet_step ((go_at_call 7; exact B5.out _ _))
              repeat (go_big_quiet_step (fail))
              refine wpQuiet_nil ?_
              intro _ hw'
              obtain ⟨⟨dq, osq⟩, hw''⟩ := hw'
              subst hw''
              have HFF := Lib.hid (HGR.out dq osq)
              clear B1 B2 B3 B4 B5 LD HGR
              generalize grow (redrawn wr dq) osq = W9 at *
              go_wp2
              go_ret
              exact ⟨rfl, HFF.out⟩
          · have g2 := HAR.out.dropA (m := 7) An.len c
            as_aux_lemma =>
              have B2 := Lib.hid fun (d' : Nat) (os : Array Obj) (c1 c2 : Nat) => Calls.regrown_of (LD.out (grow (redrawn wr d') os) (HGR.out d' os) _ _ g1 g2 c1 c2)
              refine wp_region_quiet_below (by kernel_rfl) (by kernel_rfl) ?_
              repeat (go_big_quiet_step (fail))
              go_big_quiet_step ((go_at_call 9; exact B1.out _ _ _ _))
              repeat (go_big_quiet_step (fail))
              go_big_quiet_step ((go_at_call 9; exact B2.out _ _ _ _))
              repeat (go_big_quiet_step (fail))
              go_big_quiet_step ((go_at_call 9; exact B3.out _ _))
              repeat (go_big_quiet_step (fail))
              go_big_quiet_step ((go_at_call 9; exact B4.out _ _))
              repeat (go_big_quiet_step (fail))
              go_big_quiet_step ((go_at_call 7; exact B5.out _ _))
              repeat (go_big_quiet_step (fail))
              refine wpQuiet_nil ?_
              intro _ hw'
              obtain ⟨⟨dq, osq⟩, hw''⟩ := hw'
              subst hw''
              have HFF := Lib.hid (HGR.out dq osq)
              clear B1 B2 B3 B4 B5 LD HGR
              generalize grow (redrawn wr dq) osq = W9 at *
              go_wp2
              go_ret
              exact ⟨rfl, HFF.out⟩
      · by_cases hs : sc = c
        · have hsb := hs.symm
          clear hs
          subst hsb
          have g1 : RowG Sp.cs w (some ⟨SB, SO, ss⟩) (S.drop c) := by rw [List.eq_nil_of_length_eq_zero (show (S.drop c).length = 0 by rw [HL.out.2.2.1]; omega)]; exact RowG.none
          rcases AA with _ | ⟨AB, AO, aq⟩
          · have hk0 := HZA.out rfl
            have g2 : RowG An.cs w none (A.drop c) := by rw [List.eq_nil_of_length_eq_zero (show (A.drop c).length = 0 by rw [HL.out.2.2.2]; omega)]; exact RowG.none
            clear hk0
            as_aux_lemma =>
              have B2 := Lib.hid fun (d' : Nat) (os : Array Obj) (c1 c2 : Nat) => Calls.regrown_of (LD.out (grow (redrawn wr d') os) (HGR.out d' os) _ _ g1 g2 c1 c2)
              rw [show k - c = 0 from by omega] at B2
              refine wp_region_quiet_below (by kernel_rfl) (by kernel_rfl) ?_
              repeat (go_big_quiet_step (fail))
              go_big_quiet_step ((go_at_call 9; exact B1.out _ _ _ _))
              repeat (go_big_quiet_step (fail))
              go_big_quiet_step ((go_at_call 9; exact B2.out _ _ _ _))
              repeat (go_big_quiet_step (fail))
              go_big_quiet_step ((go_at_call 9; exact B3.out _ _))
              repeat (go_big_quiet_step (fail))
              go_big_quiet_step ((go_at_call 9; exact B4.out _ _))
              repeat (go_big_quiet_step (fail))
              go_big_quiet_step ((go_at_call 7; exact B5.out _ _))
              repeat (go_big_quiet_step (fail))
              refine wpQuiet_nil ?_
              intro _ hw'
              obtain ⟨⟨dq, osq⟩, hw''⟩ := hw'
              subst hw''
              have HFF := Lib.hid (HGR.out dq osq)
              clear B1 B2 B3 B4 B5 LD HGR
              generalize grow (redrawn wr dq) osq = W9 at *
              go_wp2
              go_ret
              exact ⟨rfl, HFF.out⟩
          · by_cases ha : ac = c
            · have hab := ha.symm
              clear ha
              subst hab
              have g2 : RowG An.cs w (some ⟨AB, AO, aq⟩) (A.drop c) := by rw [List.eq_nil_of_length_eq_zero (show (A.drop c).length = 0 by rw [HL.out.2.2.2]; omega)]; exact RowG.none
              as_aux_lemma =>
                have B2 := Lib.hid fun (d' : Nat) (os : Array Obj) (c1 c2 : Nat) => Calls.regrown_of (LD.out (grow (redrawn wr d') os) (HGR.out d' os) _ _ g1 g2 c1 c2)
                rw [show k - c = 0 from by omega] at B2
                refine wp_region_quiet_below (by kernel_rfl) (by kernel_rfl) ?_
                repeat (go_big_quiet_step (fail))
                go_big_quiet_step ((go_at_call 9; exact B1.out _ _ _ _))
                repeat (go_big_quiet_step (fail))
                go_big_quiet_step ((go_at_call 9; exact B2.out _ _ _ _))
                repeat (go_big_quiet_step (fail))
                go_big_quiet_step ((go_at_call 9; exact B3.out _ _))
                repeat (go_big_quiet_step (fail))
                go_big_quiet_step ((go_at_call 9; exact B4.out _ _))
                repeat (go_big_quiet_step (fail))
                go_big_quiet_step ((go_at_call 7; exact B5.out _ _))
                repeat (go_big_quiet_step (fail))
                refine wpQuiet_nil ?_
                intro _ hw'
                obtain ⟨⟨dq, osq⟩, hw''⟩ := hw'
                subst hw''
                have HFF := Lib.hid (HGR.out dq osq)
                clear B1 B2 B3 B4 B5 LD HGR
                generalize grow (redrawn wr dq) osq = W9 at *
                go_wp2
                go_ret
                exact ⟨rfl, HFF.out⟩
            · have g2 := HAR.out.dropA (m := 7) An.len c
              as_aux_lemma =>
                have B2 := Lib.hid fun (d' : Nat) (os : Array Obj) (c1 c2 : Nat) => Calls.regrown_of (LD.out (grow (redrawn wr d') os) (HGR.out d' os) _ _ g1 g2 c1 c2)
                rw [show k - c = 0 from by omega] at B2
                refine wp_region_quiet_below (by kernel_rfl) (by kernel_rfl) ?_
                repeat (go_big_quiet_step (fail))
                go_big_quiet_step ((go_at_call 9; exact B1.out _ _ _ _))
                repeat (go_big_quiet_step (fail))
                go_big_quiet_step ((go_at_call 9; exact B2.out _ _ _ _))
                repeat (go_big_quiet_step (fail))
                go_big_quiet_step ((go_at_call 9; exact B3.out _ _))
                repeat (go_big_quiet_step (fail))
                go_big_quiet_step ((go_at_call 9; exact B4.out _ _))
                repeat (go_big_quiet_step (fail))
                go_big_quiet_step ((go_at_call 7; exact B5.out _ _))
                repeat (go_big_quiet_step (fail))
                refine wpQuiet_nil ?_
                intro _ hw'
                obtain ⟨⟨dq, osq⟩, hw''⟩ := hw'
                subst hw''
                have HFF := Lib.hid (HGR.out dq osq)
                clear B1 B2 B3 B4 B5 LD HGR
                generalize grow (redrawn wr dq) osq = W9 at *
                go_wp2
                go_ret
                exact ⟨rfl, HFF.out⟩
        · have g1 := HSR.out.dropA (m := 10) Sp.len c
          rcases AA with _ | ⟨AB, AO, aq⟩
          · have hk0 := HZA.out rfl
            have g2 : RowG An.cs w none (A.drop c) := by rw [List.eq_nil_of_length_eq_zero (show (A.drop c).length = 0 by rw [HL.out.2.2.2]; omega)]; exact RowG.none
            clear hk0
            as_aux_lemma =>
              have B2 := Lib.hid fun (d' : Nat) (os : Array Obj) (c1 c2 : Nat) => Calls.regrown_of (LD.out (grow (redrawn wr d') os) (HGR.out d' os) _ _ g1 g2 c1 c2)
              refine wp_region_quiet_below (by kernel_rfl) (by kernel_rfl) ?_
              repeat (go_big_quiet_step (fail))
              go_big_quiet_step ((go_at_call 9; exact B1.out _ _ _ _))
              repeat (go_big_quiet_step (fail))
              go_big_quiet_step ((go_at_call 9; exact B2.out _ _ _ _))
              repeat (go_big_quiet_step (fail))
              go_big_quiet_step ((go_at_call 9; exact B3.out _ _))
              repeat (go_big_quiet_step (fail))
              go_big_quiet_step ((go_at_call 9; exact B4.out _ _))
              repeat (go_big_quiet_step (fail))
              go_big_quiet_step ((go_at_call 7; exact B5.out _ _))
              repeat (go_big_quiet_step (fail))
              refine wpQuiet_nil ?_
              intro _ hw'
              obtain ⟨⟨dq, osq⟩, hw''⟩ := hw'
              subst hw''
              have HFF := Lib.hid (HGR.out dq osq)
              clear B1 B2 B3 B4 B5 LD HGR
              generalize grow (redrawn wr dq) osq = W9 at *
              go_wp2
              go_ret
              exact ⟨rfl, HFF.out⟩
          · by_cases ha : ac = c
            · have hab := ha.symm
              clear ha
              subst hab
              have g2 : RowG An.cs w (some ⟨AB, AO, aq⟩) (A.drop c) := by rw [List.eq_nil_of_length_eq_zero (show (A.drop c).length = 0 by rw [HL.out.2.2.2]; omega)]; exact RowG.none
              as_aux_lemma =>
                have B2 := Lib.hid fun (d' : Nat) (os : Array Obj) (c1 c2 : Nat) => Calls.regrown_of (LD.out (grow (redrawn wr d') os) (HGR.out d' os) _ _ g1 g2 c1 c2)
                rw [show k - c = 0 from by omega] at B2
                refine wp_region_quiet_below (by kernel_rfl) (by kernel_rfl) ?_
                repeat (go_big_quiet_step (fail))
                go_big_quiet_step ((go_at_call 9; exact B1.out _ _ _ _))
                repeat (go_big_quiet_step (fail))
                go_big_quiet_step ((go_at_call 9; exact B2.out _ _ _ _))
                repeat (go_big_quiet_step (fail))
                go_big_quiet_step ((go_at_call 9; exact B3.out _ _))
                repeat (go_big_quiet_step (fail))
                go_big_quiet_step ((go_at_call 9; exact B4.out _ _))
                repeat (go_big_quiet_step (fail))
                go_big_quiet_step ((go_at_call 7; exact B5.out _ _))
                repeat (go_big_quiet_step (fail))
                refine wpQuiet_nil ?_
                intro _ hw'
                obtain ⟨⟨dq, osq⟩, hw''⟩ := hw'
                subst hw''
                have HFF := Lib.hid (HGR.out dq osq)
                clear B1 B2 B3 B4 B5 LD HGR
                generalize grow (redrawn wr dq) osq = W9 at *
                go_wp2
                go_ret
                exact ⟨rfl, HFF.out⟩
            · have g2 := HAR.out.dropA (m := 7) An.len c
              as_aux_lemma =>
                have B2 := Lib.hid fun (d' : Nat) (os : Array Obj) (c1 c2 : Nat) => Calls.regrown_of (LD.out (grow (redrawn wr d') os) (HGR.out d' os) _ _ g1 g2 c1 c2)
                refine wp_region_quiet_below (by kernel_rfl) (by kernel_rfl) ?_
                repeat (go_big_quiet_step (fail))
                go_big_quiet_step ((go_at_call 9; exact B1.out _ _ _ _))
                repeat (go_big_quiet_step (fail))
                go_big_quiet_step ((go_at_call 9; exact B2.out _ _ _ _))
                repeat (go_big_quiet_step (fail))
                go_big_quiet_step ((go_at_call 9; exact B3.out _ _))
                repeat (go_big_quiet_step (fail))
                go_big_quiet_step ((go_at_call 9; exact B4.out _ _))
                repeat (go_big_quiet_step (fail))
                go_big_quiet_step ((go_at_call 7; exact B5.out _ _))
                repeat (go_big_quiet_step (fail))
                refine wpQuiet_nil ?_
                intro _ hw'
                obtain ⟨⟨dq, osq⟩, hw''⟩ := hw'
                subst hw''
                have HFF := Lib.hid (HGR.out dq osq)
                clear B1 B2 B3 B4 B5 LD HGR
                generalize grow (redrawn wr dq) osq = W9 at *
                go_wp2
                go_ret
                exact ⟨rfl, HFF.out⟩
theorem tab_of_laidJ {W : World} (h : laidMetH Tryd.prog Rows.traceJoinsRow.laid W) : Tab W :=
  Lib.tabIs_of_head (g := 0) (t := 64) (e := 57) (n := 20) (rest := []) (by kernel_rfl) (by kernel_rfl) Tryd.underlying64 Tryd.underlying57 (by kernel_rfl) (by kernel_rfl) (laidMet_tail (laidMet_tail h))
set_option maxRecDepth 100000 in
theorem traceJoins_contract (H : Type) (enc : TypeId × Value → H) (W : World) (base : Nat) (args : Array Value) (ds gs : List (DataW H)) (before : List MemPlace)
    (hval0 : ∀ (j : Nat) t v, Tryd.f4.params[j]? = some t → args[j]? = some v → Value.okWide Tryd.prog W .any base t v)
    (hW : DataW.Whole enc Tryd.prog Tryd.f4.params.toList Rows.traceJoinsSpec.vars false W args.toList ds gs before)
    (hsz0 : (DataW.weightsEach Tryd.prog (Tryd.f4.params.toList ++ (OpenSpec.ofChange Rows.traceJoinsSpec).bare.plain.varTypes Tryd.prog) (ds ++ gs)).all (· ≤ reachBytes) = true) (hL : laidMetH Tryd.prog Rows.traceJoinsRow.laid W) (hS : W.ShapedOpen Tryd.prog) :
    Calls Tryd.prog 4 args W fun e W' => ∃ v, e = .returned v ∧ Rows.traceJoinsSpec.post enc Tryd.prog Tryd.f4 false true false false W args v W' := by
  have hval : ∀ (j : Nat) t v, Tryd.f4.params[j]? = some t → args[j]? = some v → Value.okWide Tryd.prog W .any base t v := hval0
  have hsz := hsz0
  have hW' := hW
  obtain ⟨p, q, hA0, hV, rfl, hfz, hnd⟩ := hW
  have hA : DataW.TrodAll enc Tryd.prog W 0 (fun _ => true) true Tryd.f4.params.toList args.toList ds p := hA0
  rw [Tryd.params4] at hA hval hsz
  have hsame : (Rows.traceJoinsSpec.fn H (ds ++ gs)).results = [.lit (.bool true)] ∧ (Rows.traceJoinsSpec.fn H (ds ++ gs)).args = ds ∧ (Rows.traceJoinsSpec.fn H (ds ++ gs)).vars = [] → ∀ W', Below W.heap.size W W' → Rows.traceJoinsSpec.post enc Tryd.prog Tryd.f4 false true false false W args (.bool true) W' :=
    fun h W' hb => law_post (tb := 4) hW' law_laid (by kernel_rfl) rfl Tryd.underlying4 h.1 h.2.1 rfl h.2.2 hb
  obtain ⟨v0, vs0, d0, ds0, p0, q0, hargs, rfl, rfl, h0, r0⟩ := trodAll_cons hA
  obtain ⟨v1, vs1, d1, ds1, p1, q1, rfl, rfl, rfl, h1, r1⟩ := trodAll_cons r0
  obtain ⟨v2, vs2, d2, ds2, p2, q2, rfl, rfl, rfl, h2, r2⟩ := trodAll_cons r1
  obtain ⟨rfl, rfl, rfl⟩ := trodAll_nil r2
  obtain rfl : args = #[v0, v1, v2] := by cases args; simp_all
  obtain ⟨rfl, rfl⟩ := trodVars_none hV
  have hpost := hsame ⟨rfl, rfl, rfl⟩
  clear hsame hA0 hval0 hsz0
  obtain ⟨S, SA, sc, rfl, s1, s2, s3, s4, s5, _⟩ := open_rows Sp.cs 10 (by omega) Sp.len Tryd.underlying26 step_cells Sp.Ok (fun _ _ => True) ⟨0, 0, 0, 0, 0, 0, 0, ⟨#[]⟩, ⟨#[]⟩, none, 0, 0⟩ step_trod (hval 0 26 v0 rfl rfl) h0
  obtain ⟨A, AA, ac, rfl, e1, e2, e3, e4, e5, e6⟩ := open_rows An.cs 7 (by omega) An.len Tryd.underlying27 ans_cells (AnQ W) BdA ⟨0, 0, 0, 0, false, none, [], 0, none, [], 0⟩ ans_trod (hval 1 27 v1 rfl rfl) h1
  obtain ⟨a2, rfl, rfl, rfl, wf2⟩ := open_int Tryd.underlying3 (hval 2 3 v2 rfl rfl) h2
  have ht := tab_of_laidJ hL
  have hbd : ∀ x ∈ A, BdA x 281474976710656 := e6 _ (fun n hn => Nat.le_trans (sized_eachG hsz (j := 1) rfl rfl n hn) (by unfold reachBytes; omega))
  by_cases h : 40 < S.length ∨ A.length ≠ S.length
  · exact (joins_out SA AA S.length A.length sc ac a2 W h (by omega) (by omega)).mono fun e W' ⟨he, hb⟩ => ⟨_, he, hpost W' hb⟩
  · have hl : A.length = S.length := by omega
    rw [hl] at hpost ⊢
    exact (joins_in SA AA S A S.length sc ac a2 W ht s3 e3 rfl hl (by omega) s4 e4 hbd s1 (by omega) s2 e2).mono fun e W' ⟨he, hb⟩ => ⟨_, he, hpost W' hb⟩
theorem traceJoins_reads (os : Os) {H : Type} (enc : TypeId × Value → H) : (DataW.whole enc Tryd.prog ((layW os).forCall (fun _ _ => 0) ⟨#[], #[.slice none 0 0, .slice none 0 0, .int .i64 0], []⟩).memory Tryd.f4.params.toList Rows.traceJoinsSpec.vars false #[.slice none 0 0, .slice none 0 0, .int .i64 0].toList 8).isSome = true := by kernel_rfl
theorem traceJoins_met (os : Os) : laidMet Tryd.prog Rows.traceJoinsRow.laid ((layW os).forCall (fun _ _ => 0) ⟨#[], #[.slice none 0 0, .slice none 0 0, .int .i64 0], []⟩).memory := laidMet_of_run' 8 (by kernel_rfl) (by kernel_rfl)
set_option maxRecDepth 100000 in
theorem traceJoins_lifted (os : Os) (started : os.Started) (H : Type) (enc : TypeId × Value → H) (F : Stop.Interp) :
    ReturnsInHanded {} Tryd.checked os 4 .any ((OpenSpec.ofChange Rows.traceJoinsSpec).preRow enc Tryd.prog Tryd.f4 Rows.traceJoinsRow.domain false Rows.traceJoinsRow.laid) (((OpenSpec.ofChange Rows.traceJoinsSpec).at F).post enc Tryd.prog Tryd.f4 false true false false) := by
  obtain ⟨x, hx⟩ := Option.isSome_iff_exists.1 (traceJoins_reads os enc)
  refine returnsInHanded_of_row (C := Tryd.checked) (s := OpenSpec.ofChange Rows.traceJoinsSpec) law_own started (by kernel_rfl) Tryd.func4
    (witness_row_at (enc := enc) (C := Tryd.checked) false (layW os) #[.slice none 0 0, .slice none 0 0, .int .i64 0] rfl (by kernel_rfl) (by kernel_rfl) (by kernel_rfl)
      (OpenSpec.preRow_of_cond 8 hx (by rfl) (fun k hk => by cases hk) (by kernel_rfl) (traceJoins_met os))) ?_
  intro W base args ds gs before hval hW _ _ hsz hL hS _
  exact traceJoins_contract H enc W base args ds gs before hval hW hsz hL hS
theorem traceJoins_said : Rows.TraceJoinsSaid :=
  OpenClaim.holds_of_cond 4 Tryd.f4 rfl rfl rfl rfl rfl rfl rfl ⟨rfl, rfl, rfl, rfl, rfl⟩ rfl rfl rfl rfl rfl (by kernel_rfl) Tryd.func4 (by kernel_rfl)
    (of_decide_eq_true (by kernel_rfl)) (by unfold Func.isWrapper; first | (rw [if_pos (by decide +kernel)]; kernel_rfl) | (rw [if_neg (by decide +kernel)]; exact ⟨rfl, rfl⟩))
    (fun os started H enc _ F => by rw [OpenClaim.pre_eq_preRow]; exact traceJoins_lifted os started H enc F)
theorem traceJoins_holds : Rows.TraceJoinsCardSaid :=
  Claim7.holds_tied_plain_at .later [] _ _ _ _ traceJoins_said (fun _ h => by cases h) (by kernel_rfl) (fun _ h => by cases h) traceJoins_row_tie rfl ⟨rfl, rfl⟩ (by kernel_rfl) rfl (plain_of (f0 := 4) (fn0 := Tryd.f4) (by kernel_rfl) Tryd.func4 (by kernel_rfl) (by kernel_rfl)) (by kernel_rfl)
end Go.Proofs.YtelabakcadhffaaDoor
