/- Rows of bytes that are read; same; what is known of stage 6. -/
import Derived.Test.YtfllemmmgmdliaaPkEnc
set_option linter.unusedSimpArgs false
set_option linter.unusedVariables false
namespace Go.Proofs.Ytfllemmmgmdliaa
open Go.RowKit

/-- n bytes at a slice's head. -/
def BytesAt (W : World) (A : Option Addr) (n : Nat) (f : Nat → Int) : Prop := 0 < n → ∃ B O, A = some ⟨B, O, none⟩ ∧ B < W.heap.size ∧ ∀ j, j < n → W.cell? ⟨B, O + j, none⟩ = some (.int .u8 (f j))
theorem BytesAt.below {W W' : World} {A : Option Addr} {n : Nat} {f : Nat → Int} (h : BytesAt W A n f) (k : Below W.heap.size W W') : BytesAt W' A n f := by
  intro h0
  obtain ⟨B, O, rfl, hB, hc⟩ := h h0
  exact ⟨B, O, rfl, Nat.lt_of_lt_of_le hB k.size, fun j hj => (k.cell (p := ⟨B, O + j, none⟩) hB).trans (hc j hj)⟩
theorem BytesAt.drewN {W : World} {A : Option Addr} {n : Nat} {f : Nat → Int} (h : BytesAt W A n f) (q : Nat) : BytesAt (W.drewN q) A n f := h
theorem U8At.bytes {W : World} {g n : Nat} {f : Nat → Int} (h : U8At W g n f) : BytesAt W (some ⟨g, 0, none⟩) n f := fun _ => ⟨g, 0, rfl, h.lt, fun j hj => by rw [Nat.zero_add]; exact h.c j hj⟩
theorem BytesAt.zero (W : World) (A : Option Addr) (f : Nat → Int) : BytesAt W A 0 f := fun h => absurd h (by omega)
/-- Are the first k the same? -/
def eqK (f f' : Nat → Int) : Nat → Bool
  | 0 => true
  | k + 1 => eqK f f' k && f k == f' k
theorem eqK_iff (f f' : Nat → Int) (n : Nat) : eqK f f' n = true ↔ ∀ j, j < n → f j = f' j := by
  induction n with
  | zero => simp [eqK]
  | succ n ih =>
    simp only [eqK, Bool.and_eq_true, ih, beq_iff_eq]
    constructor
    · rintro ⟨h1, h2⟩ j hj
      rcases (show j < n ∨ j = n from by omega) with q | rfl
      · exact h1 j q
      · exact h2
    · intro h
      exact ⟨fun j hj => h j (by omega), h n (by omega)⟩
def eqB (n : Nat) (f : Nat → Int) (n' : Nat) (f' : Nat → Int) : Bool := decide (n = n') && eqK f f' n
set_option maxHeartbeats 1000000 in
theorem same6 (A : Option Addr) (n c : Nat) (f : Nat → Int) (A' : Option Addr) (n' c' : Nat) (f' : Nat → Int) (w : World) (hn : n ≤ 1000000) (hn' : n' ≤ 1000000) (h : BytesAt w A n f) (h' : BytesAt w A' n' f') :
    Calls Try.prog 9 #[.slice A n c, .slice A' n' c'] w fun e w' => e = .returned (.bool (eqB n f n' f')) ∧ ∃ q, w' = w.drewN q := by
  by_cases hne : n = n'
  · subst hne
    have t0 : (n != n) = false := by simp
    have HA := Lib.hid h
    have HA' := Lib.hid h'
    have HEB : Hid (eqB n f n f' = eqK f f' n) := Lib.hid (by simp [eqB])
    clear h h'
    have hni : (n : Int) ≤ 1000000 := by omega
    go_enter Try.func9, Try.ntmps9
    go_wp2
    go_loopw [5] (fun i wr => ∃ k : Nat, k ≤ n ∧ i = .int .i64 k ∧ eqK f f' k = true ∧ ∃ q, wr = w.drewN q) (fun i _ => n - (intOf i).toNat)
    case atStart => exact ⟨0, Nat.zero_le _, rfl, rfl, 0, rfl⟩
    case round =>
      obtain ⟨k, hk, rfl, hE, q, hW⟩ := hrel
      by_cases hlt : k < n
      · obtain ⟨B, O, rfl, hB, hc⟩ := HA.out (by omega)
        obtain ⟨B', O', rfl, hB', hc'⟩ := HA'.out (by omega)
        have x0 : wr.cell? ⟨B, O + k, none⟩ = some (.int .u8 (f k)) := by rw [hW]; exact hc k hlt
        have x1 : wr.cell? ⟨B', O' + k, none⟩ = some (.int .u8 (f' k)) := by rw [hW]; exact hc' k hlt
        have lk : (k : Int) < (n : Int) := by omega
        have HS : Hid (eqK f f' (k + 1) = (eqK f f' k && f k == f' k)) := Lib.hid rfl
        have HN : Hid (f k ≠ f' k → eqK f f' n = false) := Lib.hid (fun hne => by
          cases hq : eqK f f' n
          · rfl
          · exact absurd ((eqK_iff f f' n).1 hq k hlt) hne)
        have HW := Lib.hid hW
        have HE := Lib.hid hE
        clear hc hc' hW hE
        generalize f k = a at *
        generalize f' k = b at *
        by_cases hab : a = b
        · have t1 : (a != b) = false := by simp [hab]
          clear hab
          have hab' : (a == b) = true := by simpa using t1
          have HS2 : Hid (eqK f f' (k + 1) = true) := Lib.hid (by rw [HS.out, HE.out, hab']; rfl)
          clear hab' HS
          go_wp2
          go_quiet (fail)
          go_wp2
          go_roundw
          case rel => exact ⟨k + 1, by omega, by go_num, HS2.out, q + nq, by rw [HW.out]; simp [World.drewN, Nat.add_assoc]⟩
          case measure => simp [intOf]; omega
        · have t1 : (a != b) = true := by simpa using hab
          have HN2 := Lib.hid (HN.out hab)
          clear hab HN HS
          go_wp2
          go_quiet (fail)
          go_wp2
          go_ret
          exact ⟨by rw [HEB.out, HN2.out]; rfl, q + nq, by rw [HW.out]; simp [World.drewN, Nat.add_assoc]⟩
      · obtain rfl : k = n := by omega
        have HE := Lib.hid hE
        clear hE
        have HW := Lib.hid hW
        clear hW
        go_wp2
        go_ret
        exact ⟨by rw [HEB.out, HE.out]; rfl, q, HW.out⟩
  · have t0 : ((n : Int) != (n' : Int)) = true := by simp; omega
    have t0' : (n != n') = true := by simpa using hne
    have HEB : Hid (eqB n f n' f' = false) := Lib.hid (by simp [eqB, hne])
    clear hne
    go_enter Try.func9, Try.ntmps9
    go_wp2
    go_ret
    exact ⟨by rw [HEB.out]; rfl, 0, rfl⟩
theorem known_enc : encF 3 4 0 0 0 0 0 258 0 = 228 ∧ encF 3 4 0 0 0 0 0 258 46 = 1 ∧ encF 3 4 0 0 0 0 0 258 47 = 2 := by decide
set_option maxHeartbeats 1000000 in
theorem known6 (w : World) : Calls Try.prog 10 #[] w fun e w' => e = .returned (.bool true) ∧ Below w.heap.size w w' := by
  go_enter Try.func10, Try.ntmps10
  go_wp2_with fail
  refine (pk_enc_yes 3 4 0 0 0 0 0 258 _ (by decide) (by decide) (by decide) (by decide) (by decide) (by decide) (by decide)).mono ?_; rintro e w1 ⟨g, rfl, hg, hU, hb⟩
  have c0 := hU.c 0 (by omega)
  have c1 := hU.c 46 (by omega)
  have c2 := hU.c 47 (by omega)
  rw [known_enc.1] at c0
  rw [known_enc.2.1] at c1
  rw [known_enc.2.2] at c2
  clear hU
  go_wp2
  go_ret
  exact ⟨rfl, hb⟩
end Go.Proofs.Ytfllemmmgmdliaa
