/- leap.Print of a table: its text. -/
import Derived.Test.YtonleiffbfdikaaDoorBld
import Derived.Test.YtonleiffbfdikaaDoorDec
import Derived.Test.YtonleiffbfdikaaDoorLeapOf2
import Derived.Deep.RegionWith
set_option linter.unusedSimpArgs false
set_option linter.unusedVariables false
namespace Go.Proofs.YtonleiffbfdikaaDoor
open Go.RowKit Go.Sort

/-- The line of one leap; the lines of the first k; a table's text. -/
noncomputable def lineB (z : Nat → Int) (k : Nat) : List UInt8 := (dayS (z (k * 2)) ++ ⟨#[32]⟩ ++ strOf (Lib.decDigits (z (k * 2 + 1)).toNat) ++ ⟨#[10]⟩).data.toList
noncomputable def linesB (z : Nat → Int) : Nat → List UInt8
  | 0 => []
  | k + 1 => linesB z k ++ lineB z k
noncomputable def tabB (z : Nat → Int) (n : Nat) (x : Int) : List UInt8 := linesB z n ++ (⟨#[101, 120, 112, 105, 114, 101, 115, 32]⟩ ++ dayS x ++ ⟨#[10]⟩ : ByteArray).data.toList
theorem bld_below {B b : Nat} {bs : List Value} {w w' : World} (h : Lib.IsBuilder 55 5 B b bs w) (k : Below w.heap.size w w') : Lib.IsBuilder 55 5 B b bs w' := by
  have f : ∀ p, Lib.BuilderAt 55 5 B b p bs w → Lib.BuilderAt 55 5 B b p bs w' := by
    rintro p ⟨hB, v, hb, hown, hne⟩
    have hlt : b < w.heap.size := (Array.getElem?_eq_some_iff.1 hb).1
    exact ⟨hB, v, (k.block b hlt).trans hb, (But.of_below (S := fun _ => False) k).row hown (fun _ _ hf => hf), hne⟩
  exact h.elim (fun h => .inl (f _ h)) (fun h => .inr (f _ h))
theorem dec_len {n : Nat} (h : n < 10000) : (Lib.decDigits n).length ≤ 4 := (pad_eq 3 n h).2
theorem lineB_len {z : Nat → Int} {k : Nat} (h : LeapOk z k) : (lineB z k).length ≤ 20 := by
  have h1 := dayS_size _ h.1 h.2.1
  have h2 := dec_len (n := (z (k * 2 + 1)).toNat) (by have := h.2.2.2.1; omega)
  have e : (lineB z k).length = (dayS (z (k * 2)) ++ ⟨#[32]⟩ ++ strOf (Lib.decDigits (z (k * 2 + 1)).toNat) ++ ⟨#[10]⟩).size := by
    unfold lineB; rw [Array.length_toList]; rfl
  rw [e, ByteArray.size_append, ByteArray.size_append, ByteArray.size_append, h1, strOf_size]
  have a1 : (⟨#[32]⟩ : ByteArray).size = 1 := rfl
  have a2 : (⟨#[10]⟩ : ByteArray).size = 1 := rfl
  omega
theorem linesB_len {z : Nat → Int} : ∀ k, (∀ j, j < k → LeapOk z j) → (linesB z k).length ≤ k * 20
  | 0, _ => by simp [linesB]
  | k + 1, h => by
    have h1 := linesB_len k (fun j hj => h j (by omega))
    have h2 := lineB_len (h k (by omega))
    rw [linesB, List.length_append]
    omega
set_option maxRecDepth 100000 in
set_option maxHeartbeats 4000000 in
theorem leap_print_yes (A : Option Addr) (n c : Nat) (x : Int) (z : Nat → Int) (w : World) (hz : FlatAt w A 2 n z) (ht : Tab w) (hT : IsTab z n x) :
    Calls Tryd.prog 20 #[.agg #[.slice A n c, .int .i64 x]] w fun e w' => e = .returned (.tuple #[.string (strOf (tabB z n x)), .int .i64 0]) ∧ Below w.heap.size w w' := by
  have HB0 : Below w.heap.size w (w.alloc (.cells #[.slice A n c, .int .i64 x] 24)) := by (repeat' (first | (with_reducible exact Below.refl _ _) | (with_reducible assumption) | (with_reducible refine Below.trans ?_ (Below.mono (by with_reducible assumption) ?_)) | (with_reducible refine Below.alloc ?_ ?_ _) | (with_reducible refine Below.setCell ?_ ?_ _) | (with_reducible refine below_drewN ?_ _) | (with_reducible refine Below.drew ?_) | go_size))
  have X0 : Tb (w.alloc (.cells #[.slice A n c, .int .i64 x] 24)) w.heap.size (.slice A n c) x := ⟨by simp [go_sem], by simp [go_sem], by simp [go_sem], by simp [go_sem], by simp⟩
  have n1 : 1 ≤ n := hT.1
  have n100 : n ≤ 100 := hT.2.1
  have hx1 := hT.2.2.2.1
  have hx2 := hT.2.2.2.2.1
  have HOK := Lib.hid hT.2.2.1
  have HI := Lib.hid (leap_is_yes A n c x z _ (hz.below HB0) hT)
  obtain ⟨BA, OA, rfl, lBA, hcA⟩ := hz (by omega)
  have HCA := Lib.hid hcA
  have HT := Lib.hid ht
  clear hz ht hT hcA
  go_enter Tryd.func20, Tryd.ntmps20
  go_wp2_with fail
  refine HI.out.mono ?_; rintro e w1 ⟨rfl, hb1⟩
  have HB1 := HB0.trans (hb1.mono HB0.size)
  have X1 := X0.below hb1
  have HBW : Below w1.heap.size w1 (w1.alloc (.cells #[.pointer none, .slice none 0 0] 55)) := by (repeat' (first | (with_reducible exact Below.refl _ _) | (with_reducible assumption) | (with_reducible refine Below.trans ?_ (Below.mono (by with_reducible assumption) ?_)) | (with_reducible refine Below.alloc ?_ ?_ _) | (with_reducible refine Below.setCell ?_ ?_ _) | (with_reducible refine below_drewN ?_ _) | (with_reducible refine Below.drew ?_) | go_size))
  have X2 := X1.below HBW
  have HB2 := HB1.trans (HBW.mono HB1.size)
  have hwl : w.heap.size < w1.heap.size := X1.lt
  have BL0 : Hid (Lib.IsBuilder 55 5 w1.heap.size w1.heap.size (Lib.byteCells (linesB z 0)) (w1.alloc (.cells #[.pointer none, .slice none 0 0] 55))) :=
    Lib.hid (.inl ⟨Nat.le_refl _, .slice none 0 0, heap_alloc_new w1 _, World.ownsRow_nil _ _ _ _, by simp [Value.ownBlock]⟩)
  have Y2 := Lib.hid X2
  obtain ⟨y0, y1, yf0, yf1, yl⟩ := X2
  clear hb1 X0 X1 HBW HB0 HI HB1
  go_wp2_with fail
  go_loopw [13] (fun i wr => ∃ k : Nat, k ≤ n ∧ i = .int .i64 k ∧ Below w.heap.size w wr ∧ Lib.IsBuilder 55 5 w1.heap.size w1.heap.size (Lib.byteCells (linesB z k)) wr ∧ Tb wr w.heap.size (.slice (some ⟨BA, OA, none⟩) n c) x ∧ w1.heap.size < wr.heap.size) (fun i _ => n - (intOf i).toNat)
  case atStart => exact ⟨0, Nat.zero_le _, rfl, HB2, BL0.out, Y2.out, by simp [World.size_alloc]⟩
  case round =>
    clear BL0 Y2 y0 y1 yf0 yf1 yl HB2
    obtain ⟨k, hk, rfl, HB, HL, X, hws⟩ := hrel
    have XX := Lib.hid X
    obtain ⟨y0, y1, yf0, yf1, yl⟩ := X
    by_cases hlt : k < n
    · have hok := HOK.out k hlt
      have hd1 := hok.1
      have hd2 := hok.2.1
      have ho1 := hok.2.2.1
      have ho2 := hok.2.2.2.1
      have t2 : ((k : Int) < (n : Int)) := by omega
      have cd := (HB.cell (p := ⟨BA, OA + k * 2, none⟩) lBA).trans (HCA.out (k * 2) (by omega)).1
      have co : wr.cell? ⟨BA, OA + k * 2 + 1, none⟩ = some (.int .i64 (z (k * 2 + 1))) := (HB.cell (p := ⟨BA, OA + k * 2 + 1, none⟩) lBA).trans (HCA.out (k * 2 + 1) (by omega)).1
      have lB2 : BA < wr.heap.size := Nat.lt_of_lt_of_le lBA HB.size
      have HLN : Hid (Lib.byteCells (linesB z (k + 1)) = Lib.byteCells (linesB z k) ++ Lib.strCells (dayS (z (k * 2)) ++ ⟨#[32]⟩ ++ strOf (Lib.decDigits (z (k * 2 + 1)).toNat) ++ ⟨#[10]⟩)) := by
        show _ = _
        rw [linesB, Lib.strCells_eq]
        simp [Lib.byteCells, lineB]
      have hlen := linesB_len (z := z) k (fun j hj => HOK.out j (by omega))
      have hs1 : (dayS (z (k * 2))).size ≤ 10 := by rw [dayS_size _ hd1 hd2]; omega
      have hs2 := dec_len (n := (z (k * 2 + 1)).toNat) (by omega)
      rw [← strOf_size] at hs2
      have P1 := Lib.hid fun (w : World) (h : Tab w) => leap_dayText (z (k * 2)) w h hd1 hd2
      have P2 : Hid (∀ w : World, Tab w → Calls Tryd.prog 31 #[.int .i64 (z (k * 2 + 1))] w fun e w' => e = .returned (.string (strOf (Lib.decDigits (z (k * 2 + 1)).toNat))) ∧ Below w.heap.size w w') := fun w h => by
        have := itoa_ok (z (k * 2 + 1)).toNat w h (by omega)
        rwa [Int.toNat_of_nonneg ho1] at this
      have HW := Lib.hid fun (s : ByteArray) (w : World) (h : Lib.IsBuilder 55 5 w1.heap.size w1.heap.size (Lib.byteCells (linesB z k)) w) (hs : s.size ≤ 100) (hw : w1.heap.size ≤ w.heap.size) => bld_write _ _ _ s w h (by rw [Lib.byteCells_length]; omega) hw
      have HLL := Lib.hid HL
      generalize z (k * 2) = zd at *
      generalize strOf (Lib.decDigits (z (k * 2 + 1)).toNat) = S2 at *
      generalize z (k * 2 + 1) = zo at *
      generalize dayS zd = S1 at *
      have m1 : ¬ 9223372036854775807 < S1.size + 1 := by omega
      have m2 : ¬ 9223372036854775807 < S1.size + 1 + S2.size := by omega
      have m3 : ¬ 9223372036854775807 < S1.size + 1 + S2.size + 1 := by omega
      have HSZ : Hid ((S1 ++ ⟨#[32]⟩ ++ S2 ++ ⟨#[10]⟩ : ByteArray).size ≤ 100) := by
        show _ ≤ _
        rw [ByteArray.size_append, ByteArray.size_append, ByteArray.size_append]
        have a1 : (⟨#[32]⟩ : ByteArray).size = 1 := rfl
        have a2 : (⟨#[10]⟩ : ByteArray).size = 1 := rfl
        omega
      have HBR := Lib.hid HB
      clear hok hd1 hd2 ho1 ho2 hlt HL hlen
      have r0 : (wr.alloc (.cells #[.int .i64 zd, .int .i64 zo] 33)).cell? ⟨wr.heap.size, 0, none⟩ = some (.int .i64 zd) := by simp
      have r1 : (wr.alloc (.cells #[.int .i64 zd, .int .i64 zo] 33)).cell? ⟨wr.heap.size, 1, none⟩ = some (.int .i64 zo) := by simp
      have rl : wr.heap.size < (wr.alloc (.cells #[.int .i64 zd, .int .i64 zo] 33)).heap.size := by simp
      go_wp2_with fail
      go_region_with
        (first | (go_at_call 30; refine (P1.out _ (HT.out.below (by (repeat' (first | (with_reducible exact Below.refl _ _) | (with_reducible assumption) | (with_reducible refine Below.trans ?_ (Below.mono (by with_reducible assumption) ?_)) | (with_reducible refine Below.alloc ?_ ?_ _) | (with_reducible refine Below.setCell ?_ ?_ _) | (with_reducible refine below_drewN ?_ _) | (with_reducible refine Below.drew ?_) | go_size))))).mono ?_; rintro e w3 ⟨rfl, hb3⟩; have r0 := (hb3.cell (p := ⟨wr.heap.size, 0, none⟩) rl).trans r0; have r1 := (hb3.cell (p := ⟨wr.heap.size, 1, none⟩) rl).trans r1; have rl := Nat.lt_of_lt_of_le rl hb3.size) | (go_at_call 31; refine (P2.out _ (HT.out.below (by (repeat' (first | (with_reducible exact Below.refl _ _) | (with_reducible assumption) | (with_reducible refine Below.trans ?_ (Below.mono (by with_reducible assumption) ?_)) | (with_reducible refine Below.alloc ?_ ?_ _) | (with_reducible refine Below.setCell ?_ ?_ _) | (with_reducible refine below_drewN ?_ _) | (with_reducible refine Below.drew ?_) | go_size))))).mono ?_; rintro e w4 ⟨rfl, hb4⟩; have r0 := (hb4.cell (p := ⟨wr.heap.size, 0, none⟩) rl).trans r0; have r1 := (hb4.cell (p := ⟨wr.heap.size, 1, none⟩) rl).trans r1; have rl := Nat.lt_of_lt_of_le rl hb4.size) | (go_at_call 29; refine (HW.out _ _ (bld_below HLL.out (by (repeat' (first | (with_reducible exact Below.refl _ _) | (with_reducible assumption) | (with_reducible refine Below.trans ?_ (Below.mono (by with_reducible assumption) ?_)) | (with_reducible refine Below.alloc ?_ ?_ _) | (with_reducible refine Below.setCell ?_ ?_ _) | (with_reducible refine below_drewN ?_ _) | (with_reducible refine Below.drew ?_) | go_size)))) HSZ.out (Nat.le_trans (Nat.le_of_lt hws) (show Below wr.heap.size wr _ from (by (repeat' (first | (with_reducible exact Below.refl _ _) | (with_reducible assumption) | (with_reducible refine Below.trans ?_ (Below.mono (by with_reducible assumption) ?_)) | (with_reducible refine Below.alloc ?_ ?_ _) | (with_reducible refine Below.setCell ?_ ?_ _) | (with_reducible refine below_drewN ?_ _) | (with_reducible refine Below.drew ?_) | go_size)))).size)).mono ?_; rintro e w5 ⟨rfl, hl5, hb5⟩; have HB5 : Below w.heap.size w w5 := ((show Below w.heap.size w _ from (by (repeat' (first | (with_reducible exact Below.refl _ _) | (with_reducible assumption) | (with_reducible refine Below.trans ?_ (Below.mono (by with_reducible assumption) ?_)) | (with_reducible refine Below.alloc ?_ ?_ _) | (with_reducible refine Below.setCell ?_ ?_ _) | (with_reducible refine below_drewN ?_ _) | (with_reducible refine Below.drew ?_) | go_size)))).trans (hb5.mono (Nat.le_of_lt hwl))); have X5 := (XX.out.below (by (repeat' (first | (with_reducible exact Below.refl _ _) | (with_reducible assumption) | (with_reducible refine Below.trans ?_ (Below.mono (by with_reducible assumption) ?_)) | (with_reducible refine Below.alloc ?_ ?_ _) | (with_reducible refine Below.setCell ?_ ?_ _) | (with_reducible refine below_drewN ?_ _) | (with_reducible refine Below.drew ?_) | go_size)))).below0 hb5 hwl))
      all_goals
        have hl5' := hl5.lt
        have HLX := Lib.hid hl5
        clear hl5 hb5 r0 r1 rl
        go_wp2
        exact ⟨⟨k + 1, by omega, by simp, HB5, by rw [HLN.out]; exact .inr HLX.out, X5, hl5'⟩, by simp [intOf]; omega⟩
    · obtain rfl : k = n := by omega
      have t2 : ¬ ((k : Int) < (k : Int)) := by omega
      have hlen := linesB_len (z := z) k (fun j hj => HOK.out j hj)
      have hsx : (dayS x).size ≤ 10 := by rw [dayS_size _ hx1 hx2]; omega
      have HTB : Hid (Lib.byteCells (tabB z k x) = Lib.byteCells (linesB z k) ++ Lib.strCells (⟨#[101, 120, 112, 105, 114, 101, 115, 32]⟩ ++ dayS x ++ ⟨#[10]⟩)) := by
        show _ = _
        rw [tabB, Lib.strCells_eq]
        simp [Lib.byteCells]
      have HNE : Hid (tabB z k x ≠ []) := by
        show _ ≠ _
        unfold tabB
        intro h
        rw [List.append_eq_nil_iff] at h
        have h2 := congrArg List.length h.2
        rw [← Lib.size_eq, ByteArray.size_append, ByteArray.size_append] at h2
        have a2 : (⟨#[10]⟩ : ByteArray).size = 1 := rfl
        simp only [List.length_nil] at h2
        omega
      have PX := Lib.hid fun (w : World) (h : Tab w) => leap_dayText x w h hx1 hx2
      have HLL := Lib.hid HL
      generalize dayS x = SX at *
      have m1 : ¬ 9223372036854775807 < 8 + SX.size := by omega
      have m2 : ¬ 9223372036854775807 < 8 + SX.size + 1 := by omega
      have HSZ : Hid ((⟨#[101, 120, 112, 105, 114, 101, 115, 32]⟩ ++ SX ++ ⟨#[10]⟩ : ByteArray).size ≤ 100) := by
        show _ ≤ _
        rw [ByteArray.size_append, ByteArray.size_append]
        have a1 : (⟨#[101, 120, 112, 105, 114, 101, 115, 32]⟩ : ByteArray).size = 8 := rfl
        have a2 : (⟨#[10]⟩ : ByteArray).size = 1 := rfl
        omega
      clear hlt HL
      go_wp2_with fail
      refine (PX.out _ (HT.out.below HB)).mono ?_; rintro e w6 ⟨rfl, hb6⟩
      have HB6 := HB.trans (hb6.mono HB.size)
      have HL6 := Lib.hid (bld_below HLL.out hb6)
      have hw6 : w1.heap.size ≤ w6.heap.size := Nat.le_trans (Nat.le_of_lt hws) hb6.size
      clear hb6 HLL
      go_wp2_with fail
      refine (bld_write _ _ _ _ w6 HL6.out (by rw [Lib.byteCells_length]; have := HSZ.out; omega) hw6).mono ?_; rintro e w7 ⟨rfl, hl7, hb7⟩
      have HB7 := HB6.trans (hb7.mono (Nat.le_of_lt hwl))
      have HL7 : Hid (Lib.IsBuilder 55 5 w1.heap.size w1.heap.size (Lib.byteCells (tabB z k x)) w7) := by
        show Lib.IsBuilder _ _ _ _ _ _
        rw [HTB.out]; exact .inr hl7
      clear hb7 hl7
      go_wp2_with fail
      refine (bld_string _ _ _ w7 HL7.out HNE.out).mono ?_; rintro e w8 ⟨rfl, hb8⟩
      have HB8 := HB7.trans (hb8.mono (Nat.le_of_lt hwl))
      clear hb8
      go_wp2
      go_ret2
      exact ⟨rfl, HB8⟩
end Go.Proofs.YtonleiffbfdikaaDoor
