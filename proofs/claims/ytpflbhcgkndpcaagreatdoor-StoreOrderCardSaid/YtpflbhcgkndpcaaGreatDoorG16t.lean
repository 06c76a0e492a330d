/- octet.Sum of one row; the reference's Sum: one number. -/
import Derived.Test.YtpflbhcgkndpcaaGreatDoorOctMem
import Derived.Lib.LaidTab
import Derived.Shelf.Unicode.PredsPay
/- The check sum of a row of bytes (plain mathematics): by four binary digits at once, or one after another; one byte that is another one tells. -/
set_option linter.unusedSimpArgs false
set_option linter.unusedVariables false
namespace Go.Proofs.YtpflbhcgkndpcaaGreatDoor
open Go.RowKit Go.Sort

def nibL : List Int := [0, 498536548, 997073096, 651767980, 1994146192, 1802195444, 1303535960, 1342533948, 3988292384, 4027552580, 3604390888, 3412177804, 2607071920, 2262029012, 2685067896, 3183342108]
/-- One binary digit on. -/
def crc1 (c : Nat) : Nat := if c % 2 = 1 then c / 2 ^^^ 3988292384 else c / 2
/-- Four binary digits on, by the table. -/
def crc4 (c : Nat) : Nat := c / 16 ^^^ (nibL.getD (c % 16) 0).toNat
def crcB (s b : Nat) : Nat := crc4 (crc4 (s ^^^ b))
theorem crc1_xor (a b : Nat) : crc1 (a ^^^ b) = crc1 a ^^^ crc1 b := by
  have h1 : (a ^^^ b) / 2 = a / 2 ^^^ b / 2 := Nat.xor_div_two
  have h2 : (a ^^^ b) % 2 = (a + b) % 2 := by
    have := Nat.xor_mod_two_pow (a := a) (b := b) (n := 1)
    rw [show (2 : Nat) ^ 1 = 2 from rfl] at this
    rw [this]
    rcases Nat.mod_two_eq_zero_or_one a with ha | ha <;> rcases Nat.mod_two_eq_zero_or_one b with hb | hb <;> rw [ha, hb, Nat.add_mod, ha, hb] <;> rfl
  unfold crc1
  rw [h1, h2]
  rcases Nat.mod_two_eq_zero_or_one a with ha | ha <;> rcases Nat.mod_two_eq_zero_or_one b with hb | hb
  · have : (a + b) % 2 = 0 := by omega
    simp [ha, hb, this]
  · have : (a + b) % 2 = 1 := by omega
    simp [ha, hb, this, Nat.xor_assoc]
  · have : (a + b) % 2 = 1 := by omega
    simp only [ha, hb, this, if_true]
    simp only [show ¬ (0 : Nat) = 1 by decide, if_false]
    rw [Nat.xor_assoc, Nat.xor_comm (b / 2), ← Nat.xor_assoc]
  · have : (a + b) % 2 = 0 := by omega
    simp only [ha, hb, this, if_true]
    simp only [show ¬ (0 : Nat) = 1 by decide, if_false]
    rw [Nat.xor_assoc, Nat.xor_comm 3988292384, Nat.xor_assoc, Nat.xor_self, Nat.xor_zero]
theorem crc1_two (a : Nat) : crc1 (2 * a) = a := by
  unfold crc1
  rw [if_neg (by omega)]
  omega
theorem crc4_is (c : Nat) : crc1 (crc1 (crc1 (crc1 c))) = crc4 c := by
  have hc : c = (2 * (2 * (2 * (2 * (c / 16))))) ^^^ (c % 16) := by
    have h : 2 * (2 * (2 * (2 * (c / 16)))) = 2 ^ 4 * (c / 16) := by omega
    rw [h]
    have := Nat.two_pow_add_eq_or_of_lt (i := 4) (b := c % 16) (Nat.mod_lt _ (by decide)) (c / 16)
    have h3 := Nat.div_add_mod c 16
    have h4 : (2 ^ 4 * (c / 16)) ^^^ (c % 16) = 2 ^ 4 * (c / 16) + c % 16 := by
      rw [this]
      refine Nat.eq_of_testBit_eq fun i => ?_
      rw [Nat.testBit_xor, Nat.testBit_or, Nat.testBit_two_pow_mul]
      by_cases hi : 4 ≤ i
      · have : (c % 16).testBit i = false := Nat.testBit_lt_two_pow (Nat.lt_of_lt_of_le (Nat.mod_lt c (by decide : 0 < 16)) (by have := Nat.pow_le_pow_right (n := 2) (by decide) hi; omega))
        simp [this]
      · simp [hi]
    rw [h4]
    omega
  have hr : ∀ r : Fin 16, crc1 (crc1 (crc1 (crc1 r.val))) = (nibL.getD r.val 0).toNat := by decide
  conv => lhs; rw [hc]
  rw [crc1_xor, crc1_two, crc1_xor, crc1_two, crc1_xor, crc1_two, crc1_xor, crc1_two, hr ⟨c % 16, Nat.mod_lt _ (by decide)⟩]
  rfl
theorem xorN (a b : Nat) (ha : a ≤ 4294967295) (hb : b ≤ 4294967295) : bits .xor .u32 (a : Int) (b : Int) = ((a ^^^ b : Nat) : Int) ∧ a ^^^ b ≤ 4294967295 := by
  have h : bits .xor .u32 (a : Int) (b : Int) = IntKind.u32.wrap ((BitVec.ofInt 32 a ^^^ BitVec.ofInt 32 b).toNat : Int) := rfl
  have hl := Nat.xor_lt_two_pow (n := 32) (x := a) (y := b) (by omega) (by omega)
  have e : (2 : Nat) ^ 32 = 4294967296 := by decide
  rw [e] at hl
  have ht : (BitVec.ofInt 32 a ^^^ BitVec.ofInt 32 b).toNat = a ^^^ b := by
    rw [BitVec.toNat_xor, BitVec.ofInt_natCast, BitVec.ofInt_natCast, BitVec.toNat_ofNat, BitVec.toNat_ofNat, Nat.mod_eq_of_lt (by omega), Nat.mod_eq_of_lt (by omega)]
  rw [h, ht]
  exact ⟨IntWalk.u32_in _ (by omega), by omega⟩
theorem and15N (a : Nat) (ha : a ≤ 4294967295) : bits .and .u32 (a : Int) 15 = ((a % 16 : Nat) : Int) := by
  have h : bits .and .u32 (a : Int) 15 = IntKind.u32.wrap ((BitVec.ofInt 32 a &&& BitVec.ofInt 32 15).toNat : Int) := rfl
  have e2 : (BitVec.ofInt 32 15).toNat = 2 ^ 4 - 1 := by decide
  have ht : (BitVec.ofInt 32 a &&& BitVec.ofInt 32 15).toNat = a % 16 := by
    rw [BitVec.toNat_and, e2, BitVec.ofInt_natCast, BitVec.toNat_ofNat, Nat.mod_eq_of_lt (by omega), Nat.and_two_pow_sub_one_eq_mod]
  rw [h, ht]
  exact IntWalk.u32_in _ (by omega)
theorem crc4_le (c : Nat) (h : c ≤ 4294967295) : crc4 c ≤ 4294967295 := by
  have : ∀ i : Fin 16, (nibL.getD i.val 0).toNat < 2 ^ 32 := by decide
  have hl := Nat.xor_lt_two_pow (n := 32) (x := c / 16) (y := (nibL.getD (c % 16) 0).toNat) (by omega) (this ⟨c % 16, Nat.mod_lt _ (by decide)⟩)
  unfold crc4
  omega
def crcI : Nat → Nat → Nat
  | 0, s => s
  | k + 1, s => crc1 (crcI k s)
theorem crcI_eight (s : Nat) : crcI 8 s = crc4 (crc4 s) := by
  show crc1 (crc1 (crc1 (crc1 (crc1 (crc1 (crc1 (crc1 s))))))) = _
  rw [crc4_is, crc4_is]
theorem crc1_le (c : Nat) (h : c ≤ 4294967295) : crc1 c ≤ 4294967295 := by
  have hl := Nat.xor_lt_two_pow (n := 32) (x := c / 2) (y := 3988292384) (by omega) (by decide)
  unfold crc1
  split <;> omega
theorem and1N (a : Nat) (ha : a ≤ 4294967295) : bits .and .u32 (a : Int) 1 = ((a % 2 : Nat) : Int) := by
  have h : bits .and .u32 (a : Int) 1 = IntKind.u32.wrap ((BitVec.ofInt 32 a &&& BitVec.ofInt 32 1).toNat : Int) := rfl
  have e2 : (BitVec.ofInt 32 1).toNat = 2 ^ 1 - 1 := by decide
  have ht : (BitVec.ofInt 32 a &&& BitVec.ofInt 32 1).toNat = a % 2 := by
    rw [BitVec.toNat_and, e2, BitVec.ofInt_natCast, BitVec.toNat_ofNat, Nat.mod_eq_of_lt (by omega), Nat.and_two_pow_sub_one_eq_mod]
  rw [h, ht]
  exact IntWalk.u32_in _ (by omega)
theorem xor_right_inj {a b k : Nat} (h : a ^^^ k = b ^^^ k) : a = b := by
  have := congrArg (· ^^^ k) h
  simpa [Nat.xor_assoc] using this
theorem xor_left_inj {a b k : Nat} (h : k ^^^ a = k ^^^ b) : a = b := by
  rw [Nat.xor_comm k a, Nat.xor_comm k b] at h
  exact xor_right_inj h
theorem crc4_inj {c c' : Nat} (h : c ≤ 4294967295) (h' : c' ≤ 4294967295) (e : crc4 c = crc4 c') : c = c' := by
  unfold crc4 at e
  have e1 := congrArg (· / 2 ^ 28) e
  simp only [Nat.xor_div_two_pow] at e1
  have p : (2 : Nat) ^ 28 = 268435456 := by decide
  have z1 : c / 16 / 2 ^ 28 = 0 := by rw [p]; omega
  have z2 : c' / 16 / 2 ^ 28 = 0 := by rw [p]; omega
  rw [z1, z2, Nat.zero_xor, Nat.zero_xor] at e1
  have hd : ∀ i j : Fin 16, (nibL.getD i.val 0).toNat / 2 ^ 28 = (nibL.getD j.val 0).toNat / 2 ^ 28 → i.val = j.val := by decide
  have hm := hd ⟨c % 16, Nat.mod_lt _ (by decide)⟩ ⟨c' % 16, Nat.mod_lt _ (by decide)⟩ e1
  simp only at hm
  rw [hm] at e
  have := xor_right_inj e
  omega
theorem xor_le {a b : Nat} (h : a ≤ 4294967295) (k : b ≤ 4294967295) : a ^^^ b ≤ 4294967295 := by
  have := Nat.xor_lt_two_pow (n := 32) (x := a) (y := b) (by omega) (by omega)
  omega
theorem crcB_inj_s {s s' b : Nat} (h : s ≤ 4294967295) (h' : s' ≤ 4294967295) (hb : b ≤ 255) (e : crcB s b = crcB s' b) : s = s' := by
  unfold crcB at e
  have l := xor_le h (show b ≤ 4294967295 by omega)
  have l' := xor_le h' (show b ≤ 4294967295 by omega)
  exact xor_right_inj (crc4_inj l l' (crc4_inj (crc4_le _ l) (crc4_le _ l') e))
theorem crcB_inj_b {s b b' : Nat} (h : s ≤ 4294967295) (hb : b ≤ 255) (hb' : b' ≤ 255) (e : crcB s b = crcB s b') : b = b' := by
  unfold crcB at e
  have l := xor_le h (show b ≤ 4294967295 by omega)
  have l' := xor_le h (show b' ≤ 4294967295 by omega)
  exact xor_left_inj (crc4_inj l l' (crc4_inj (crc4_le _ l) (crc4_le _ l') e))
/-- The sum's state behind a row of bytes. -/
def crcL (s : Nat) : List Int → Nat
  | [] => s
  | b :: t => crcL (crcB s b.toNat) t
theorem crcL_append (s : Nat) (a b : List Int) : crcL s (a ++ b) = crcL (crcL s a) b := by
  induction a generalizing s with
  | nil => rfl
  | cons x a ih => exact ih (crcB s x.toNat)
theorem crcB_le {s b : Nat} (h : s ≤ 4294967295) (hb : b ≤ 255) : crcB s b ≤ 4294967295 := crc4_le _ (crc4_le _ (xor_le h (by omega)))
theorem crcL_le {s : Nat} {l : List Int} (h : s ≤ 4294967295) (hb : isBy l) : crcL s l ≤ 4294967295 := by
  induction l generalizing s with
  | nil => exact h
  | cons x l ih => exact ih (crcB_le h (by have := hb x (by simp); omega)) (fun y hy => hb y (by simp [hy]))
theorem crcL_inj {s s' : Nat} {l : List Int} (h : s ≤ 4294967295) (h' : s' ≤ 4294967295) (hb : isBy l) (e : crcL s l = crcL s' l) : s = s' := by
  induction l generalizing s s' with
  | nil => exact e
  | cons x l ih =>
    have hx : x.toNat ≤ 255 := by have := hb x (by simp); omega
    exact crcB_inj_s h h' hx (ih (crcB_le h hx) (crcB_le h' hx) (fun y hy => hb y (by simp [hy])) e)
theorem crcL_one {s : Nat} {a c : List Int} {x y : Int} (h : s ≤ 4294967295) (ha : isBy a) (hc : isBy c) (hx : 0 ≤ x ∧ x ≤ 255) (hy : 0 ≤ y ∧ y ≤ 255) (hne : x ≠ y) : crcL s (a ++ x :: c) ≠ crcL s (a ++ y :: c) := by
  rw [crcL_append, crcL_append]
  intro e
  have h1 := crcL_le h ha
  have e2 := crcL_inj (l := c) (crcB_le h1 (b := x.toNat) (by omega)) (crcB_le h1 (b := y.toNat) (by omega)) hc e
  have := crcB_inj_b h1 (by omega) (by omega) e2
  omega
/-- The check sum. -/
def sumL (l : List Int) : Nat := 4294967295 ^^^ crcL 4294967295 l
theorem sumL_le {l : List Int} (h : isBy l) : sumL l ≤ 4294967295 := xor_le (by omega) (crcL_le (by omega) h)
theorem sumL_one {a c : List Int} {x y : Int} (ha : isBy a) (hc : isBy c) (hx : 0 ≤ x ∧ x ≤ 255) (hy : 0 ≤ y ∧ y ≤ 255) (hne : x ≠ y) : sumL (a ++ x :: c) ≠ sumL (a ++ y :: c) := fun e => crcL_one (s := 4294967295) (by omega) ha hc hx hy hne (xor_left_inj e)
/-- The table of remainders stands. -/
def Nib (w : World) : Prop := Lib.TabIs Tryz.prog w "meridian/octet.nibbles" .u32 nibL
theorem Nib.below {w w' : World} (h : Nib w) (k : Below w.heap.size w w') : Nib w' := TabIs_below (g := 0) (by kernel_rfl) h k
theorem nib_cell {w : World} (ht : Nib w) (i : Nat) (hi : i < 16) : w.cell? ⟨0, i, none⟩ = some (.int .u32 (((nibL.getD i 0).toNat : Nat) : Int)) ∧ (nibL.getD i 0).toNat ≤ 4294967295 := by
  have h1 := Lib.TabIs.cell ht (g := 0) (by kernel_rfl) i hi
  have : ∀ i : Fin 16, nibL.getD i.val 0 = ((nibL.getD i.val 0).toNat : Int) ∧ (nibL.getD i.val 0).toNat ≤ 4294967295 := by decide
  obtain ⟨a, b⟩ := this ⟨i, hi⟩
  exact ⟨by rw [← a]; exact h1, b⟩
end Go.Proofs.YtpflbhcgkndpcaaGreatDoor

/- octet.Sum of one row; the reference's Sum: one number. -/
namespace Go.Proofs.YtpflbhcgkndpcaaGreatDoor
open Go.RowKit Go.Sort

theorem crcL_take (s : Nat) (l : List Int) (j : Nat) (h : j < l.length) : crcL s (l.take (j + 1)) = crcB (crcL s (l.take j)) l[j].toNat := by
  rw [List.take_succ_eq_append_getElem h, crcL_append]
  rfl
set_option maxRecDepth 100000 in
set_option maxHeartbeats 4000000 in
theorem oct_sum (g c cc : Nat) (A : Option Addr) (l : List Int) (w : World) (ht : Nib w) (hg : w.cell? ⟨g, 0, none⟩ = some (.slice A l.length cc)) (hby : ByL w A l) (hb : isBy l) (hn : l.length ≤ 1000000) :
    Calls Tryz.prog 156 #[.slice (some ⟨g, 0, none⟩) 1 c] w fun e w' => e = .returned (.int .u32 (sumL l : Nat)) ∧ w = w' := by
  have HT := Lib.hid (fun i hi => nib_cell ht i hi)
  have HB := Lib.hid (And.intro hby hb)
  have HLE := Lib.hid (sumL_le hb)
  have hni : (l.length : Int) ≤ 1000000 := by omega
  have HS : Hid (sumL l = 4294967295 ^^^ crcL 4294967295 l) := Lib.hid rfl
  clear ht hby hb
  go_enter Tryz.func156, Tryz.ntmps156
  go_wp2
  go_loop [3, 10] (fun s i => ∃ (k : Nat) (v : Nat), k ≤ 1 ∧ i = .int .i64 k ∧ s = .int .u32 v ∧ v ≤ 4294967295 ∧ (k = 0 → v = 4294967295) ∧ (k = 1 → v = crcL 4294967295 l)) (fun _ i => 1 - (intOf i).toNat)
  case atStart => exact ⟨0, 4294967295, by omega, rfl, rfl, by omega, fun _ => rfl, fun h => by omega⟩
  case round =>
    obtain ⟨k, v, hk, rfl, rfl, hv, hv0, hv1⟩ := hrel
    by_cases hk0 : k = 0
    · subst hk0
      obtain rfl := hv0 rfl
      clear hv0 hv1
      go_wp2
      go_loop [3, 16] (fun s i => ∃ (j : Nat) (v : Nat), j ≤ l.length ∧ i = .int .i64 j ∧ s = .int .u32 v ∧ v ≤ 4294967295 ∧ Hid (v = crcL 4294967295 (l.take j))) (fun _ i => l.length - (intOf i).toNat)
      case atStart => exact ⟨0, 4294967295, Nat.zero_le _, rfl, rfl, hv, Lib.hid rfl⟩
      case round =>
        obtain ⟨j, s, hj, rfl, rfl, hs, HSJ⟩ := hrel
        by_cases hlt : j < l.length
        · obtain ⟨B, O, rfl, hB, hcells⟩ := HB.out.1 (by omega)
          have hcell0 := hcells j _ (bC_at l j hlt)
          have hx := HB.out.2 l[j] (List.getElem_mem hlt)
          have HJ : Hid (crcL 4294967295 (l.take (j + 1)) = crcB (crcL 4294967295 (l.take j)) l[j].toNat) := Lib.hid (crcL_take _ l j hlt)
          have lj : (j : Int) < (l.length : Int) := by omega
          obtain ⟨b, hbe⟩ : ∃ b : Nat, l[j].toNat = b := ⟨_, rfl⟩
          have hbi : l[j] = (b : Int) := by omega
          rw [hbe] at HJ
          rw [hbi] at hcell0
          have hb1 : b ≤ 255 := by omega
          clear hcells hx hbe hbi
          have hwb : IntKind.u32.wrap (b : Int) = (b : Int) := IntWalk.u32_in _ (by omega)
          obtain ⟨h1, l1⟩ := xorN s b hs (by omega)
          have e1 := and15N (s ^^^ b) l1
          obtain ⟨c1, k1⟩ := HT.out ((s ^^^ b) % 16) (Nat.mod_lt _ (by decide))
          have d1 : (s ^^^ b) / 16 ≤ 4294967295 := by omega
          have M1 : Hid (crc4 (s ^^^ b) = (s ^^^ b) / 16 ^^^ (nibL.getD ((s ^^^ b) % 16) 0).toNat) := Lib.hid rfl
          obtain ⟨h2, l2⟩ := xorN ((s ^^^ b) / 16) ((nibL.getD ((s ^^^ b) % 16) 0).toNat) d1 k1
          rw [← M1.out] at h2 l2
          have g1 : (((s ^^^ b) % 16 : Nat) : Int) < 16 := by omega
          have q1 : ((s ^^^ b : Nat) : Int) / 16 = (((s ^^^ b) / 16 : Nat) : Int) := rfl
          obtain ⟨Q1, hQ1⟩ : ∃ q : Int, ((s ^^^ b : Nat) : Int) / 16 = q := ⟨_, rfl⟩
          rw [← q1, hQ1] at h2
          have HX : Hid (crcB s b = crc4 (crc4 (s ^^^ b))) := Lib.hid rfl
          generalize (nibL.getD ((s ^^^ b) % 16) 0).toNat = v1 at *
          generalize (s ^^^ b) % 16 = r1 at *
          clear q1 M1 d1
          generalize s ^^^ b = s1 at *
          have e2 := and15N (crc4 s1) l2
          obtain ⟨c2, k2⟩ := HT.out (crc4 s1 % 16) (Nat.mod_lt _ (by decide))
          have d2 : crc4 s1 / 16 ≤ 4294967295 := by omega
          have M2 : Hid (crc4 (crc4 s1) = crc4 s1 / 16 ^^^ (nibL.getD (crc4 s1 % 16) 0).toNat) := Lib.hid rfl
          obtain ⟨h3, l3⟩ := xorN (crc4 s1 / 16) ((nibL.getD (crc4 s1 % 16) 0).toNat) d2 k2
          rw [← M2.out] at h3 l3
          have g2 : ((crc4 s1 % 16 : Nat) : Int) < 16 := by omega
          have q2 : ((crc4 s1 : Nat) : Int) / 16 = ((crc4 s1 / 16 : Nat) : Int) := rfl
          obtain ⟨Q2, hQ2⟩ : ∃ q : Int, ((crc4 s1 : Nat) : Int) / 16 = q := ⟨_, rfl⟩
          rw [← q2, hQ2] at h3
          generalize (nibL.getD (crc4 s1 % 16) 0).toNat = v2 at *
          generalize crc4 s1 % 16 = r2 at *
          clear q2 M2 d2
          generalize crc4 s1 = s2 at *
          generalize crc4 s2 = s3 at *
          go_wp2
          go_round
          case rel => exact ⟨j + 1, s3, by omega, by go_num, rfl, l3, Lib.hid (by rw [HJ.out, ← HSJ.out, HX.out])⟩
          case measure => simp [intOf]; omega
        · obtain rfl : j = l.length := by omega
          go_wp2
          go_round
          case rel => exact ⟨1, s, by omega, by go_num, rfl, hs, fun h => by omega, fun _ => by rw [HSJ.out, List.take_length]⟩
          case measure => simp [intOf]
    · obtain rfl : k = 1 := by omega
      have hve := hv1 rfl
      obtain ⟨h3, l3⟩ := xorN 4294967295 v (by omega) hv
      have h3' : bits .xor .u32 IntKind.u32.max (v : Int) = ((4294967295 ^^^ v : Nat) : Int) := h3
      obtain ⟨v3, hv3⟩ : ∃ q, 4294967295 ^^^ v = q := ⟨_, rfl⟩
      rw [hv3] at h3' l3
      have HV : Hid (sumL l = v3) := Lib.hid (by rw [HS.out, ← hve, hv3])
      clear hve hv3 h3 l3 hv0 hv1
      go_wp2
      go_ret
      exact ⟨by rw [HV.out]; rfl, rfl⟩
set_option maxRecDepth 100000 in
set_option maxHeartbeats 4000000 in
theorem ref_sum (cc : Nat) (A : Option Addr) (l : List Int) (w : World) (hby : ByL w A l) (hb : isBy l) (hn : l.length ≤ 1000000) :
    Calls Tryz.prog 226 #[.slice A l.length cc] w fun e w' => e = .returned (.int .u32 (sumL l : Nat)) ∧ w = w' := by
  have HB := Lib.hid (And.intro hby hb)
  have hni : (l.length : Int) ≤ 1000000 := by omega
  have HSM : Hid (sumL l = 4294967295 ^^^ crcL 4294967295 l) := Lib.hid rfl
  clear hby hb
  go_enter Tryz.func226, Tryz.ntmps226
  go_wp2
  go_loop [3, 4] (fun s i => ∃ (j : Nat) (v : Nat), j ≤ l.length ∧ i = .int .i64 j ∧ s = .int .u32 v ∧ v ≤ 4294967295 ∧ Hid (v = crcL 4294967295 (l.take j))) (fun _ i => l.length - (intOf i).toNat)
  case atStart => exact ⟨0, 4294967295, Nat.zero_le _, rfl, rfl, by omega, Lib.hid rfl⟩
  case round =>
    obtain ⟨j, s, hj, rfl, rfl, hs, HS⟩ := hrel
    by_cases hlt : j < l.length
    · obtain ⟨B, O, rfl, hB, hcells⟩ := HB.out.1 (by omega)
      have hcell0 := hcells j _ (bC_at l j hlt)
      have hx := HB.out.2 l[j] (List.getElem_mem hlt)
      have HJ : Hid (crcL 4294967295 (l.take (j + 1)) = crcB (crcL 4294967295 (l.take j)) l[j].toNat) := Lib.hid (crcL_take _ l j hlt)
      have lj : (j : Int) < (l.length : Int) := by omega
      obtain ⟨b, hbe⟩ : ∃ b : Nat, l[j].toNat = b := ⟨_, rfl⟩
      have hbi : l[j] = (b : Int) := by omega
      rw [hbe] at HJ
      rw [hbi] at hcell0
      have hb1 : b ≤ 255 := by omega
      clear hcells hx hbe hbi
      have hwb : IntKind.u32.wrap (b : Int) = (b : Int) := IntWalk.u32_in _ (by omega)
      obtain ⟨h1, l1⟩ := xorN s b hs (by omega)
      have HX : Hid (crcB s b = crc4 (crc4 (s ^^^ b))) := Lib.hid rfl
      generalize s ^^^ b = s1 at *
      go_wp2
      go_loop [3, 5] (fun s i => ∃ (k : Nat) (v : Nat), k ≤ 8 ∧ i = .int .i64 k ∧ s = .int .u32 v ∧ v ≤ 4294967295 ∧ Hid (v = crcI k s1)) (fun _ i => 8 - (intOf i).toNat)
      case atStart => exact ⟨0, s1, by omega, rfl, rfl, l1, Lib.hid rfl⟩
      case round =>
        obtain ⟨k, v, hk, rfl, rfl, hv, HV⟩ := hrel
        by_cases hk8 : k < 8
        · have lk : (k : Int) < 8 := by omega
          have e1 := and1N v hv
          have q1 : (v : Int) / 2 = ((v / 2 : Nat) : Int) := rfl
          obtain ⟨Q, hQ⟩ : ∃ q : Int, (v : Int) / 2 = q := ⟨_, rfl⟩
          have HC : Hid (crcI (k + 1) s1 = crc1 (crcI k s1)) := Lib.hid rfl
          rcases Nat.mod_two_eq_zero_or_one v with h2 | h2
          · have HN : Hid (Q = ((crc1 v : Nat) : Int)) := Lib.hid (by rw [← hQ, q1]; unfold crc1; rw [if_neg (by omega)])
            have LN := Lib.hid (crc1_le v hv)
            rw [h2] at e1
            clear q1
            go_wp2
            go_round
            case rel => exact ⟨k + 1, crc1 v, by omega, by go_num, by rw [HN.out], LN.out, Lib.hid (by rw [HC.out, ← HV.out])⟩
            case measure => simp [intOf]; omega
          · obtain ⟨x1, x2⟩ := xorN (v / 2) 3988292384 (by omega) (by omega)
            have HN : Hid (v / 2 ^^^ 3988292384 = crc1 v) := Lib.hid (by unfold crc1; rw [if_pos h2])
            rw [HN.out, ← q1, hQ] at x1
            have x1' : bits .xor .u32 Q 3988292384 = ((crc1 v : Nat) : Int) := x1
            have LN := Lib.hid (crc1_le v hv)
            rw [h2] at e1
            have HC2 : Hid (crcI (k + 1) s1 = crc1 v) := Lib.hid (by rw [HC.out, ← HV.out])
            clear q1 x1 x2 HN HC
            generalize crc1 v = v' at *
            go_wp2
            go_round
            case rel => exact ⟨k + 1, v', by omega, by go_num, rfl, LN.out, Lib.hid HC2.out.symm⟩
            case measure => simp [intOf]; omega
        · obtain rfl : k = 8 := by omega
          go_wp2
          go_round
          case rel => exact ⟨j + 1, v, by omega, by go_num, rfl, hv, Lib.hid (by rw [HJ.out, ← HS.out, HX.out, HV.out, crcI_eight])⟩
          case measure => simp [intOf]; omega
    · obtain rfl : j = l.length := by omega
      obtain ⟨h3, l3⟩ := xorN 4294967295 s (by omega) hs
      have h3' : bits .xor .u32 IntKind.u32.max (s : Int) = ((4294967295 ^^^ s : Nat) : Int) := h3
      obtain ⟨v3, hv3⟩ : ∃ q, 4294967295 ^^^ s = q := ⟨_, rfl⟩
      rw [hv3] at h3'
      have HV : Hid (sumL l = v3) := Lib.hid (by rw [HSM.out, ← hv3, HS.out, List.take_length])
      clear hv3 h3 l3
      go_wp2
      go_ret
      exact ⟨by rw [HV.out]; rfl, rfl⟩
end Go.Proofs.YtpflbhcgkndpcaaGreatDoor

