/- Which bytes are a packet's; an argument that is a slice of bytes. -/
import Derived.Test.YtfllemmmgmdliaaPkDec
import Derived.Test.YtfllemmmgmdliaaLaw
set_option linter.unusedSimpArgs false
set_option linter.unusedVariables false
namespace Go.Proofs.Ytfllemmmgmdliaa
open Go.ChangeShapes Go.WideShapes Go.ChangeAt Go.RowKit Go.Joins

theorem and56 (x : Int) (h0 : 0 ≤ x) (h1 : x ≤ 255) : bits .and .u8 x 56 = x / 8 % 8 * 8 := by
  obtain ⟨n, rfl⟩ := Int.eq_ofNat_of_zero_le h0
  have : ∀ n : Fin 256, bits .and .u8 (n.val : Int) 56 = (n.val : Int) / 8 % 8 * 8 := by decide +kernel
  exact this ⟨n, by omega⟩
/-- The head is right. -/
def rB (f : Nat → Int) : Bool := (f 2 == 0) && ((f 3 == 0) && ((bits .and .u8 (f 0) 56 == 32) && ((bits .and .u8 (f 0) 7 == 3) || (bits .and .u8 (f 0) 7 == 4))))
/-- .. and what follows is 0. -/
def zK (f : Nat → Int) : Nat → Bool
  | 0 => true
  | k + 1 => zK f k && (f (12 + k) == 0)
def rK (f : Nat → Int) (k : Nat) : Bool := rB f && zK f k
theorem zK_iff (f : Nat → Int) (n : Nat) : zK f n = true ↔ ∀ j, j < n → f (12 + j) = 0 := by
  induction n with
  | zero => simp [zK]
  | succ n ih =>
    simp only [zK, Bool.and_eq_true, ih, beq_iff_eq]
    constructor
    · rintro ⟨h1, h2⟩ j hj
      rcases (show j < n ∨ j = n from by omega) with q | rfl
      · exact h1 j q
      · exact h2
    · intro h
      exact ⟨fun j hj => h j (by omega), h n (by omega)⟩
theorem lay4 (x a0 a1 a2 a3 : Int) (h : x = ((a0 * 256 + a1) * 256 + a2) * 256 + a3) (b0 : 0 ≤ a0 ∧ a0 ≤ 255) (b1 : 0 ≤ a1 ∧ a1 ≤ 255) (b2 : 0 ≤ a2 ∧ a2 ≤ 255) (b3 : 0 ≤ a3 ∧ a3 ≤ 255) :
    x / 256 ^ 3 % 256 = a0 ∧ x / 256 ^ 2 % 256 = a1 ∧ x / 256 ^ 1 % 256 = a2 ∧ x / 256 ^ 0 % 256 = a3 := by
  simp only [show (256 : Int) ^ 3 = 16777216 from rfl, show (256 : Int) ^ 2 = 65536 from rfl, show (256 : Int) ^ 1 = 256 from rfl, show (256 : Int) ^ 0 = 1 from rfl]
  omega
theorem lay8 (x h l a0 a1 a2 a3 a4 a5 a6 a7 : Int) (hx : x = h * 4294967296 + l) (hh : h = ((a0 * 256 + a1) * 256 + a2) * 256 + a3) (hl : l = ((a4 * 256 + a5) * 256 + a6) * 256 + a7) (b0 : 0 ≤ a0 ∧ a0 ≤ 255) (b1 : 0 ≤ a1 ∧ a1 ≤ 255) (b2 : 0 ≤ a2 ∧ a2 ≤ 255) (b3 : 0 ≤ a3 ∧ a3 ≤ 255) (b4 : 0 ≤ a4 ∧ a4 ≤ 255) (b5 : 0 ≤ a5 ∧ a5 ≤ 255) (b6 : 0 ≤ a6 ∧ a6 ≤ 255) (b7 : 0 ≤ a7 ∧ a7 ≤ 255) :
    (x / 256 ^ 7 % 256 = a0 ∧ x / 256 ^ 6 % 256 = a1 ∧ x / 256 ^ 5 % 256 = a2 ∧ x / 256 ^ 4 % 256 = a3) ∧ (x / 256 ^ 3 % 256 = a4 ∧ x / 256 ^ 2 % 256 = a5 ∧ x / 256 ^ 1 % 256 = a6 ∧ x / 256 ^ 0 % 256 = a7) := by
  have e1 := lay4 h a0 a1 a2 a3 hh b0 b1 b2 b3
  have e2 := lay4 l a4 a5 a6 a7 hl b4 b5 b6 b7
  have hl0 : 0 ≤ l ∧ l < 4294967296 := by omega
  have q : x / 4294967296 = h := by omega
  have d : ∀ p : Int, 0 < p → x / (4294967296 * p) = h / p := fun p hp => by rw [← Int.ediv_ediv_of_nonneg (by omega), q]
  refine ⟨?_, ?_⟩
  · rw [show (256 : Int) ^ 7 = 4294967296 * 256 ^ 3 from rfl, show (256 : Int) ^ 6 = 4294967296 * 256 ^ 2 from rfl, show (256 : Int) ^ 5 = 4294967296 * 256 ^ 1 from rfl, show (256 : Int) ^ 4 = 4294967296 * 256 ^ 0 from rfl]
    rw [d _ (by decide), d _ (by decide), d _ (by decide), d _ (by decide)]
    exact e1
  · simp only [show (256 : Int) ^ 3 = 16777216 from rfl, show (256 : Int) ^ 2 = 65536 from rfl, show (256 : Int) ^ 1 = 256 from rfl, show (256 : Int) ^ 0 = 1 from rfl] at e2 ⊢
    clear d e1 hh
    omega
theorem num8_split (g : Nat → Int) : numK g 8 = (((g 0 * 256 + g 1) * 256 + g 2) * 256 + g 3) * 4294967296 + (((g 4 * 256 + g 5) * 256 + g 6) * 256 + g 7) := by
  show (((((((0 * 256 + g 0) * 256 + g 1) * 256 + g 2) * 256 + g 3) * 256 + g 4) * 256 + g 5) * 256 + g 6) * 256 + g 7 = _
  omega
theorem num4_split (g : Nat → Int) : numK g 4 = ((g 0 * 256 + g 1) * 256 + g 2) * 256 + g 3 := by
  show (((0 * 256 + g 0) * 256 + g 1) * 256 + g 2) * 256 + g 3 = _
  omega
theorem decOk_rK (f : Nat → Int) (hb : ∀ j, j < 48 → 0 ≤ f j ∧ f j ≤ 255) : decOk f = rK f 12 := by
  have b0 := hb 0 (by omega)
  have a7 := and7 (f 0) b0.1 b0.2
  have a56 := and56 (f 0) b0.1 b0.2
  have nD : 0 ≤ dD f ∧ dD f < 4294967296 := numK_bd _ 4 (fun j hj => hb (4 + j) (by omega))
  have nR : 0 ≤ dR f ∧ dR f < 4294967296 := numK_bd _ 4 (fun j hj => hb (8 + j) (by omega))
  rw [Bool.eq_iff_iff]
  constructor
  · intro h
    unfold decOk at h
    simp only [Bool.and_eq_true] at h
    obtain ⟨h1, h2⟩ := h
    have b := isP_bd h1
    simp only [eqB, Bool.and_eq_true, eqK_iff] at h2
    have he := h2.2
    have e0 : dL f * 64 + 32 + dM f = f 0 := he 0 (by omega)
    have e2 : (0 : Int) = f 2 := he 2 (by omega)
    have e3 : (0 : Int) = f 3 := he 3 (by omega)
    have ez : zK f 12 = true := (zK_iff f 12).2 (fun j hj => by
      rcases (show j = 0 ∨ j = 1 ∨ j = 2 ∨ j = 3 ∨ j = 4 ∨ j = 5 ∨ j = 6 ∨ j = 7 ∨ j = 8 ∨ j = 9 ∨ j = 10 ∨ j = 11 from by omega) with rfl | rfl | rfl | rfl | rfl | rfl | rfl | rfl | rfl | rfl | rfl | rfl
      · exact (he 12 (by omega)).symm
      · exact (he 13 (by omega)).symm
      · exact (he 14 (by omega)).symm
      · exact (he 15 (by omega)).symm
      · exact (he 16 (by omega)).symm
      · exact (he 17 (by omega)).symm
      · exact (he 18 (by omega)).symm
      · exact (he 19 (by omega)).symm
      · exact (he 20 (by omega)).symm
      · exact (he 21 (by omega)).symm
      · exact (he 22 (by omega)).symm
      · exact (he 23 (by omega)).symm)
    unfold rK rB
    rw [ez, a7, a56]
    have hm : dM f = f 0 % 8 := rfl
    have hl : dL f = f 0 / 64 := rfl
    simp only [Bool.and_eq_true, Bool.or_eq_true, beq_iff_eq, and_true]
    refine ⟨by omega, by omega, by omega, by omega⟩
  · intro h
    unfold rK rB at h
    rw [a7, a56] at h
    simp only [Bool.and_eq_true, Bool.or_eq_true, beq_iff_eq, zK_iff] at h
    obtain ⟨⟨h2, h3, h4, h5⟩, hz⟩ := h
    have hm : dM f = f 0 % 8 := rfl
    have hl : dL f = f 0 / 64 := rfl
    have b1 := hb 1 (by omega)
    have hp : isP (dL f) (dM f) (f 1) (dD f) (dR f) = true := by
      simp only [isP, inN, Bool.and_eq_true, decide_eq_true_eq]
      omega
    have e0 : dL f * 64 + 32 + dM f = f 0 := by omega
    obtain ⟨p0, p1, p2, p3⟩ := lay4 (dD f) (f 4) (f 5) (f 6) (f 7) (num4_split _) (hb 4 (by omega)) (hb 5 (by omega)) (hb 6 (by omega)) (hb 7 (by omega))
    obtain ⟨q0, q1, q2, q3⟩ := lay4 (dR f) (f 8) (f 9) (f 10) (f 11) (num4_split _) (hb 8 (by omega)) (hb 9 (by omega)) (hb 10 (by omega)) (hb 11 (by omega))
    obtain ⟨⟨r0, r1, r2, r3⟩, ⟨r4, r5, r6, r7⟩⟩ := lay8 (dO f) _ _ (f 24) (f 25) (f 26) (f 27) (f 28) (f 29) (f 30) (f 31) (num8_split _) rfl rfl (hb 24 (by omega)) (hb 25 (by omega)) (hb 26 (by omega)) (hb 27 (by omega)) (hb 28 (by omega)) (hb 29 (by omega)) (hb 30 (by omega)) (hb 31 (by omega))
    obtain ⟨⟨s0, s1, s2, s3⟩, ⟨s4, s5, s6, s7⟩⟩ := lay8 (dV f) _ _ (f 32) (f 33) (f 34) (f 35) (f 36) (f 37) (f 38) (f 39) (num8_split _) rfl rfl (hb 32 (by omega)) (hb 33 (by omega)) (hb 34 (by omega)) (hb 35 (by omega)) (hb 36 (by omega)) (hb 37 (by omega)) (hb 38 (by omega)) (hb 39 (by omega))
    obtain ⟨⟨t0, t1, t2, t3⟩, ⟨t4, t5, t6, t7⟩⟩ := lay8 (dT f) _ _ (f 40) (f 41) (f 42) (f 43) (f 44) (f 45) (f 46) (f 47) (num8_split _) rfl rfl (hb 40 (by omega)) (hb 41 (by omega)) (hb 42 (by omega)) (hb 43 (by omega)) (hb 44 (by omega)) (hb 45 (by omega)) (hb 46 (by omega)) (hb 47 (by omega))
    unfold decOk
    rw [hp]
    simp only [Bool.true_and, eqB, decide_true, eqK_iff]
    intro j hj
    match j, hj with
    | 0, _ => exact e0
    | 1, _ => rfl
    | 2, _ => exact h2.symm
    | 3, _ => exact h3.symm
    | 4, _ => exact p0
    | 5, _ => exact p1
    | 6, _ => exact p2
    | 7, _ => exact p3
    | 8, _ => exact q0
    | 9, _ => exact q1
    | 10, _ => exact q2
    | 11, _ => exact q3
    | 12, _ => exact (hz 0 (by omega)).symm
    | 13, _ => exact (hz 1 (by omega)).symm
    | 14, _ => exact (hz 2 (by omega)).symm
    | 15, _ => exact (hz 3 (by omega)).symm
    | 16, _ => exact (hz 4 (by omega)).symm
    | 17, _ => exact (hz 5 (by omega)).symm
    | 18, _ => exact (hz 6 (by omega)).symm
    | 19, _ => exact (hz 7 (by omega)).symm
    | 20, _ => exact (hz 8 (by omega)).symm
    | 21, _ => exact (hz 9 (by omega)).symm
    | 22, _ => exact (hz 10 (by omega)).symm
    | 23, _ => exact (hz 11 (by omega)).symm
    | 24, _ => exact r0
    | 25, _ => exact r1
    | 26, _ => exact r2
    | 27, _ => exact r3
    | 28, _ => exact r4
    | 29, _ => exact r5
    | 30, _ => exact r6
    | 31, _ => exact r7
    | 32, _ => exact s0
    | 33, _ => exact s1
    | 34, _ => exact s2
    | 35, _ => exact s3
    | 36, _ => exact s4
    | 37, _ => exact s5
    | 38, _ => exact s6
    | 39, _ => exact s7
    | 40, _ => exact t0
    | 41, _ => exact t1
    | 42, _ => exact t2
    | 43, _ => exact t3
    | 44, _ => exact t4
    | 45, _ => exact t5
    | 46, _ => exact t6
    | 47, _ => exact t7
    | (k + 48), hk => exact absurd hk (by omega)
theorem wf_u8 {x : Int} (h : (Lit.int .u8 x).wf = true) : 0 ≤ x ∧ x ≤ 255 := by
  simp [Lit.wf, IntKind.min, IntKind.max, IntKind.signed, IntKind.bits] at h
  exact ⟨by omega, by omega⟩
theorem cell_lt8 {w : World} {b o : Nat} {v : Value} (h : w.cell? ⟨b, o, none⟩ = some v) : b < w.heap.size := by
  rcases (show b < w.heap.size ∨ w.heap.size ≤ b from by omega) with hb | hb
  · exact hb
  · exfalso
    have e : w.heap[b]? = none := Array.getElem?_eq_none hb
    simp [World.cell?, e] at h
theorem u8_cells : Try.prog.cellsOf 5 = 1 := by kernel_rfl
theorem open_u8_slice {H : Type} {enc : TypeId × Value → H} {w : World} {r : Reach} {b0 base : Nat} {sp : Nat → Bool} {v : Value} {d : DataW H} {p : List MemPlace}
    (hv : Value.okWide Try.prog w r b0 25 v) (h : DataW.Trod enc Try.prog w base sp true 25 v d p) :
    ∃ (A : Option Addr) (n c : Nat) (f : Nat → Int), v = .slice A n c ∧ n ≤ c ∧ n ≤ maxLen ∧ BytesAt w A n f ∧ (∀ j, j < n → 0 ≤ f j ∧ f j ≤ 255) ∧ (A = none → n = 0 ∧ c = 0) := by
  obtain ⟨a0, len, cap, rfl⟩ := okWide_slice Try.underlying25 hv
  obtain ⟨fuel, hf⟩ := h
  rcases open_ints Try.underlying25 Try.underlying5 u8_cells hf with ⟨hcs, hx⟩ | ⟨a, len', cap', zs, hcs, _, hl, hm, hz, hx, hcell, hwz⟩
  · simp [Value.cells] at hcs
    obtain ⟨rfl, rfl, rfl⟩ := hcs
    exact ⟨none, 0, 0, fun _ => 0, rfl, by omega, by unfold maxLen; omega, BytesAt.zero _ _ _, fun j hj => absurd hj (by omega), fun _ => ⟨rfl, rfl⟩⟩
  · simp [Value.cells] at hcs
    obtain ⟨rfl, rfl, rfl⟩ := hcs
    have hlz : len ≤ zs.length := by rw [hz]; split <;> omega
    refine ⟨some a, len, cap, fun j => zs.getD j 0, rfl, hl, by omega, fun h0 => ?_, fun j hj => ?_, fun e => by cases e⟩
    · obtain ⟨B, O, spot⟩ := a
      have hspot : spot = none := by simpa [Addr.add] using World.cell?_spot (hcell 0 (by omega))
      subst hspot
      have hc : ∀ j, j < len → w.cell? ⟨B, O + j, none⟩ = some (.int .u8 (zs.getD j 0)) := fun j hj => by rw [← add_plain]; exact hcell j (by omega)
      exact ⟨B, O, rfl, cell_lt8 (hc 0 h0), hc⟩
    · have hj' : j < zs.length := by omega
      refine wf_u8 (hwz _ ?_)
      show zs.getD j 0 ∈ zs
      rw [List.getD_eq_getElem?_getD, List.getElem?_eq_getElem hj']
      exact List.getElem_mem hj'
end Go.Proofs.Ytfllemmmgmdliaa
