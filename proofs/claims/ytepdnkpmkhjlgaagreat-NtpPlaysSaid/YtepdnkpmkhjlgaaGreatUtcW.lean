/- scale.UTC of a moment that is not far (written by gen/utc.py). -/
import Derived.Test.YtepdnkpmkhjlgaaGreatUtcDaysW
import Derived.Test.YtepdnkpmkhjlgaaGreatInts2
import Derived.BigGuard
import Derived.BigGuardPart
import Derived.BigCall
set_option linter.unusedSimpArgs false
set_option linter.unusedVariables false
namespace Go.Proofs.YtepdnkpmkhjlgaaGreat
open Go.RowKit

theorem xor_ones (B : Int) (h0 : -9223372036854775808 ≤ B) (h1 : B ≤ 9223372036854775807) : bits .xor .i64 (if IntKind.i64.signed = true then -1 else 9223372036854775807) B = -B - 1 := by
  show IntKind.i64.wrap ((BitVec.ofInt 64 (-1) ^^^ BitVec.ofInt 64 B).toNat : Int) = _
  rw [show BitVec.ofInt 64 (-1) = BitVec.allOnes 64 from by decide, BitVec.allOnes_xor, BitVec.toNat_not, BitVec.toNat_ofInt, IntKind.wrap_i64]
  have e : (2 : Nat) ^ 64 = 18446744073709551616 := by decide
  rw [e]
  omega
/-- Four numbers. -/
theorem scale_add4 (a b d e4 : Int) (B : Nat) (w : World) (ha : -9223372036854775808 ≤ a ∧ a ≤ 9223372036854775807) (hb : -9223372036854775808 ≤ b ∧ b ≤ 9223372036854775807) (hd : -9223372036854775808 ≤ d ∧ d ≤ 9223372036854775807) (he : -9223372036854775808 ≤ e4 ∧ e4 ≤ 9223372036854775807) (h0 : w.cell? ⟨B, 0, none⟩ = some (.int .i64 a)) (h1 : w.cell? ⟨B, 1, none⟩ = some (.int .i64 b)) (h2 : w.cell? ⟨B, 2, none⟩ = some (.int .i64 d)) (h3 : w.cell? ⟨B, 3, none⟩ = some (.int .i64 e4)) :
    Calls Tryz.prog 52 #[.slice (some ⟨B, 0, none⟩) 4 4] w fun e w' => e = .returned (.int .i64 (addS (addS (addS a b) d) e4)) ∧ w = w' := by
  have h := scale_add (fun j => if j = 0 then a else if j = 1 then b else if j = 2 then d else e4) B 0 4 4 w (by omega) (by intro j hj; rcases (show j = 0 ∨ j = 1 ∨ j = 2 ∨ j = 3 from by omega) with rfl | rfl | rfl | rfl <;> simp [ha, hb, hd, he]) (by
    intro j hj
    rcases (show j = 0 ∨ j = 1 ∨ j = 2 ∨ j = 3 from by omega) with rfl | rfl | rfl | rfl
    · simpa using h0
    · simpa using h1
    · simpa using h2
    · simpa using h3)
  have e : sumS (fun j => if j = 0 then a else if j = 1 then b else if j = 2 then d else e4) 4 = addS (addS (addS a b) d) e4 := by
    show addS (addS (addS (addS 0 a) b) d) e4 = _
    rw [addS_in (a := 0) (b := a) (by omega) (by omega), Int.zero_add]
  rwa [e] at h
/-- While the days are gone through: the table's box, the answer's block, the days. -/
structure UR (w wr : World) (G : Nat) (A : Option Addr) (n c : Nat) (x D : Int) : Prop where
  b0 : wr.cell? ⟨w.heap.size, 0, none⟩ = some (.slice A n c)
  b1 : wr.cell? ⟨w.heap.size, 1, none⟩ = some (.int .i64 x)
  ans : Ints2 wr (w.heap.size + 1) 0 0
  days : Ints2 wr G D (D - 1)
  bel : Below w.heap.size w wr
theorem UR.below {w wr wa : World} {G : Nat} {A : Option Addr} {n c : Nat} {x D : Int} (h : UR w wr G A n c x D) (k : Below wr.heap.size wr wa) : UR w wa G A n c x D :=
  have l := h.ans.lt
  ⟨(k.cell (p := ⟨w.heap.size, 0, none⟩) (by show w.heap.size < _; omega)).trans h.b0, (k.cell (p := ⟨w.heap.size, 1, none⟩) (by show w.heap.size < _; omega)).trans h.b1, h.ans.below k h.ans.lt, h.days.below k h.days.lt, h.bel.trans (k.mono h.bel.size)⟩
theorem UR.drew {w wr : World} {G : Nat} {A : Option Addr} {n c : Nat} {x D : Int} (h : UR w wr G A n c x D) : UR w wr.drew G A n c x D := h.below (wa := wr.drew) ((Below.refl _ _).drew)
theorem UR.only {w wr wa : World} {G P : Nat} {A : Option Addr} {n c : Nat} {x D : Int} (h : UR w wr G A n c x D) (k : Only P wr wa) (h1 : w.heap.size ≠ P) (h2 : w.heap.size + 1 ≠ P) (h3 : G ≠ P) (h4 : w.heap.size ≤ P) : UR w wa G A n c x D :=
  have l := h.ans.lt
  ⟨(k.cell w.heap.size 0 (by omega) h1).trans h.b0, (k.cell w.heap.size 1 (by omega) h1).trans h.b1, h.ans.only k h2, h.days.only k h3, h.bel.trans (k.below h4 h.bel.size)⟩
set_option maxRecDepth 100000 in
set_option maxHeartbeats 16000000 in
theorem scale_utc (A : Option Addr) (n c : Nat) (x a : Int) (z : Nat → Int) (w : World) (hz : FlatAt w A 2 n z) (hT : IsTab z n x) (h0 : -4611686018427387905 ≤ a) (h1 : a ≤ 9223372036854775806) :
    Calls Tryz.prog 67 #[.agg #[.slice A n c, .int .i64 x], .int .i64 a] w fun e w' => (∃ d m, e = .returned (.tuple #[.agg #[.int .i64 d, .int .i64 m], .int .i64 0]) ∧ IsUtc z n a d m ∧ -60000 ≤ d ∧ d ≤ 110000) ∧ Below w.heap.size w w' := by
  obtain ⟨D, hD⟩ : ∃ D, a / 86400000000000 = D := ⟨_, rfl⟩
  have hDb : -53376 ≤ D ∧ D ≤ 106751 := by omega
  have hDa : 0 ≤ a - D * 86400000000000 ∧ a - D * 86400000000000 < 86400000000000 := by omega
  have HU0 : Hid (0 ≤ a - begS z n D * 1000000000 → IsUtc z n a D (a - begS z n D * 1000000000)) := Lib.hid (fun h => by have := utc_here hT a (by rw [hD]; exact h); rwa [hD] at this)
  have HU1 : Hid (a - begS z n D * 1000000000 < 0 → IsUtc z n a (D - 1) (a - begS z n (D - 1) * 1000000000)) := Lib.hid (fun h => by have := utc_ahead hT a (by rw [hD]; exact h); rwa [hD] at this)
  have HDY := Lib.hid (fun W => scale_days A n c x a D W hD h0 h1)
  have HOB := Lib.hid (fun day => offK_bd hT day n (Nat.le_refl _))
  have HB0 : Hid (Below w.heap.size w ((w.alloc (.cells #[.slice A n c, .int .i64 x] 24)).alloc (.cells #[.int .i64 0, .int .i64 0] 105))) := Lib.hid (by (repeat' (first | (with_reducible exact Below.refl _ _) | (with_reducible assumption) | (with_reducible refine Below.trans ?_ (Below.mono (by with_reducible assumption) ?_)) | (with_reducible refine Below.alloc ?_ ?_ _) | (with_reducible refine Below.setCell ?_ ?_ _) | (with_reducible refine below_drewN ?_ _) | (with_reducible refine Below.drew ?_) | go_size)))
  have HZ := Lib.hid (fun (W : World) (k : Below w.heap.size w W) => hz.below k)
  have HT := Lib.hid hT
  have HIS := Lib.hid (leap_is_yes A n c x z _ (HZ.out _ HB0.out) hT)
  have c0 : ((w.alloc (.cells #[.slice A n c, .int .i64 x] 24)).alloc (.cells #[.int .i64 0, .int .i64 0] 105)).cell? ⟨w.heap.size, 0, none⟩ = some (.slice A n c) := by simp
  have c1 : ((w.alloc (.cells #[.slice A n c, .int .i64 x] 24)).alloc (.cells #[.int .i64 0, .int .i64 0] 105)).cell? ⟨w.heap.size, 1, none⟩ = some (.int .i64 x) := by simp
  have I0 : Ints2 ((w.alloc (.cells #[.slice A n c, .int .i64 x] 24)).alloc (.cells #[.int .i64 0, .int .i64 0] 105)) (w.heap.size + 1) 0 0 := by
    have := Ints2.new (w.alloc (.cells #[.slice A n c, .int .i64 x] 24)) 0 0 105
    rwa [World.size_alloc] at this
  have HC := Lib.hid (And.intro c0 (And.intro c1 I0))
  have u1 : (a == -9223372036854775808) = false := by rw [beq_eq_false_iff_ne]; omega
  have u2 : (a == 9223372036854775807) = false := by rw [beq_eq_false_iff_ne]; omega
  clear hz hT hD c0 c1 I0
  go_enter Tryz.func67, Tryz.ntmps67
  go_wp2_with fail
  refine HIS.out.mono ?_; rintro e w1 ⟨rfl, k1⟩
  have HB1 := Lib.hid (HB0.out.trans (k1.mono HB0.out.size))
  have J1 := HC.out.2.2.below k1 HC.out.2.2.lt
  have jl := HC.out.2.2.lt
  have x0 := (k1.cell (p := ⟨w.heap.size, 0, none⟩) (by show w.heap.size < _; omega)).trans HC.out.1
  have x1 := (k1.cell (p := ⟨w.heap.size, 1, none⟩) (by show w.heap.size < _; omega)).trans HC.out.2.1
  have HJ1 := Lib.hid (And.intro x0 (And.intro x1 J1))
  have jl1 := J1.lt
  clear k1 J1 jl HIS HC HB0
  go_wp2_with fail
  refine (HDY.out w1).mono ?_; rintro e w2 ⟨rfl, rfl⟩
  have kk : Below w1.heap.size w1 ((w1.alloc (.cells #[.slice A n c, .int .i64 x] 24)).alloc (.cells #[.int .i64 D, .int .i64 (D - 1)] 3)) := by (repeat' (first | (with_reducible exact Below.refl _ _) | (with_reducible assumption) | (with_reducible refine Below.trans ?_ (Below.mono (by with_reducible assumption) ?_)) | (with_reducible refine Below.alloc ?_ ?_ _) | (with_reducible refine Below.setCell ?_ ?_ _) | (with_reducible refine below_drewN ?_ _) | (with_reducible refine Below.drew ?_) | go_size))
  have HUR : Hid (UR w ((w1.alloc (.cells #[.slice A n c, .int .i64 x] 24)).alloc (.cells #[.int .i64 D, .int .i64 (D - 1)] 3)) (w1.heap.size + 1) A n c x D) := Lib.hid
    ⟨(kk.cell (p := ⟨w.heap.size, 0, none⟩) (by show w.heap.size < _; omega)).trans HJ1.out.1, (kk.cell (p := ⟨w.heap.size, 1, none⟩) (by show w.heap.size < _; omega)).trans HJ1.out.2.1, HJ1.out.2.2.below kk jl1, by
      have := Ints2.new (w1.alloc (.cells #[.slice A n c, .int .i64 x] 24)) D (D - 1) 3
      rwa [World.size_alloc] at this, HB1.out.trans (kk.mono HB1.out.size)⟩
  clear kk x0 x1 HJ1 HB1 HDY jl1
  generalize (w1.alloc (.cells #[.slice A n c, .int .i64 x] 24)).alloc (.cells #[.int .i64 D, .int .i64 (D - 1)] 3) = W2 at *
  generalize w1.heap.size + 1 = G at *
  go_wp2
  go_loopw [26] (fun i wr => ∃ k : Nat, k ≤ 1 ∧ i = .int .i64 k ∧ UR w wr G A n c x D ∧ (k = 1 → a - begS z n D * 1000000000 < 0)) (fun i _ => 2 - (intOf i).toNat)
  case atStart => exact ⟨0, by omega, rfl, HUR.out, fun h => by omega⟩
  case round =>
    obtain ⟨k, hk, rfl, hU, hng⟩ := hrel
    clear HUR
    have hdk : wr.cell? ⟨G, k, none⟩ = some (.int .i64 (D - k)) := by
      rcases (show k = 0 ∨ k = 1 from by omega) with rfl | rfl
      · have := hU.days.c0; simpa using this
      · exact hU.days.c1
    have lk : (k : Int) < 2 := by omega
    obtain ⟨day, hday⟩ : ∃ day : Int, D - k = day := ⟨_, rfl⟩
    rw [hday] at hdk
    have hdb : -53377 ≤ day ∧ day ≤ 106751 := by omega
    have hob := HOB.out day
    obtain ⟨o, ho⟩ : ∃ o, offK z day n = o := ⟨_, rfl⟩
    rw [ho] at hob
    have hBv : mulS day 86400000000000 = day * 86400000000000 := by unfold mulS; rw [if_neg (by omega), if_neg (by omega)]
    have hOv : mulS o 1000000000 = o * 1000000000 := by unfold mulS; rw [if_neg (by omega), if_neg (by omega)]
    obtain ⟨m, hm⟩ : ∃ m, a - begS z n day * 1000000000 = m := ⟨_, rfl⟩
    have hme : a - day * 86400000000000 - o * 1000000000 = m := by rw [← hm]; unfold begS; rw [ho]; omega
    have HME := Lib.hid (And.intro hm (And.intro hday hng))
    have HBG := Lib.hid (fun W => scale_begins day W (by omega) (by omega))
    have HOF := Lib.hid (fun (W : World) (kW : Below w.heap.size w W) => scale_offset_yes A n c x day z W (HZ.out W kW) HT.out)
    rw [ho, hOv] at HOF
    rw [hBv] at HBG
    have HU := Lib.hid hU
    have hx1 : IntKind.i64.wrap (-(o * 1000000000)) = -(o * 1000000000) := IntWalk.i64_in _ (by omega)
    clear hng hday hm ho hU HOB hBv hOv
    go_wp2_with fail
    obtain ⟨nb, hnb⟩ : ∃ nb : Int, -(day * 86400000000000) - 1 = nb := ⟨_, rfl⟩
    have hnx : IntKind.i64.wrap (-(day * 86400000000000) - 1) = nb := by rw [hnb]; exact IntWalk.i64_in _ (by omega)
    have hxo : bits .xor .i64 (if IntKind.i64.signed = true then -1 else 9223372036854775807) (day * 86400000000000) = nb := by rw [xor_ones _ (by omega) (by omega)]; exact hnb
    have hdk2 := HME.out.2.1
    have HADD : Hid (∀ (W : World) (B : Nat), W.cell? ⟨B, 0, none⟩ = some (.int .i64 a) → W.cell? ⟨B, 1, none⟩ = some (.int .i64 nb) → W.cell? ⟨B, 2, none⟩ = some (.int .i64 1) → W.cell? ⟨B, 3, none⟩ = some (.int .i64 (-(o * 1000000000))) → Calls Tryz.prog 52 #[.slice (some ⟨B, 0, none⟩) 4 4] W fun e w' => e = .returned (.int .i64 m) ∧ W = w') := Lib.hid (fun W B q0 q1 q2 q3 => by
      have q := scale_add4 a nb 1 (-(o * 1000000000)) B W (by omega) (by omega) (by omega) (by omega) q0 q1 q2 q3
      rwa [addS_in (a := a) (b := nb) (by omega) (by omega), addS_in (a := a + nb) (b := 1) (by omega) (by omega), addS_in (a := a + nb + 1) (b := -(o * 1000000000)) (by omega) (by omega), show a + nb + 1 + -(o * 1000000000) = m from by omega] at q)
    clear hnb hme hdk2 hDa
    refine wp_region_held_drew (S := fun w' => w'.cell? ⟨w.heap.size, 0, none⟩ = some (.slice A n c) ∧ w'.cell? ⟨w.heap.size, 1, none⟩ = some (.int .i64 x)) (by kernel_rfl) ?_ (fun hHeld => ?_)
    · exact ⟨HU.out.b0, HU.out.b1⟩
    have UV := Lib.hid HU.out.drew
    have sV : wr.heap.size ≤ wr.drew.heap.size := Nat.le_refl _
    generalize wr.drew = V at *
    refine wpAnyH_take (i := 0) (v := ?_) rfl (by kernel_rfl) (by kernel_rfl) (by kernel_rfl) (fun _ _ _ h => h) (Or.inl ⟨by rfl, ?_⟩) (by assumption) ?_
    rotate_left
    · intro w' hSw; (try dsimp only at hSw); go_simp; (try with_reducible rfl)
    (try simp only [Act.put, List.setIfInBounds_toArray, List.set_cons_zero, List.set_cons_succ, List.getElem_toArray, List.getElem_cons_succ, List.getElem_cons_zero])
    refine wpAnyH_take (i := 1) (v := ?_) rfl (by kernel_rfl) (by kernel_rfl) (by kernel_rfl) (fun _ _ _ h => h) (Or.inl ⟨by rfl, ?_⟩) (by assumption) ?_
    rotate_left
    · intro w' hSw; (try dsimp only at hSw); go_simp; (try with_reducible rfl)
    (try simp only [Act.put, List.setIfInBounds_toArray, List.set_cons_zero, List.set_cons_succ, List.getElem_toArray, List.getElem_cons_succ, List.getElem_cons_zero])
    refine wpAnyH_take (i := 2) (v := ?_) rfl (by kernel_rfl) (by kernel_rfl) (by kernel_rfl) (fun _ _ _ h => h) (Or.inl ⟨by rfl, ?_⟩) (by assumption) ?_
    rotate_left
    · intro w' hSw; (try dsimp only at hSw); go_simp; (try with_reducible rfl)
    (try simp only [Act.put, List.setIfInBounds_toArray, List.set_cons_zero, List.set_cons_succ, List.getElem_toArray, List.getElem_cons_succ, List.getElem_cons_zero])
    refine wpAnyH_take (i := 5) (v := ?_) rfl (by kernel_rfl) (by kernel_rfl) (by kernel_rfl) (fun _ _ _ h => h) (Or.inl ⟨by rfl, ?_⟩) (by assumption) ?_
    rotate_left
    · intro w' hSw; (try dsimp only at hSw); go_simp; (try with_reducible rfl)
    (try simp only [Act.put, List.setIfInBounds_toArray, List.set_cons_zero, List.set_cons_succ, List.getElem_toArray, List.getElem_cons_succ, List.getElem_cons_zero])
    refine wpAnyH_take (i := 6) (v := ?_) rfl (by kernel_rfl) (by kernel_rfl) (by kernel_rfl) (fun _ _ _ h => h) (Or.inl ⟨by rfl, ?_⟩) (by assumption) ?_
    rotate_left
    · intro w' hSw; (try dsimp only at hSw); go_simp; (try with_reducible rfl)
    (try simp only [Act.put, List.setIfInBounds_toArray, List.set_cons_zero, List.set_cons_succ, List.getElem_toArray, List.getElem_cons_succ, List.getElem_cons_zero])
    refine wpAnyH_ready (rs := [3, 12]) (by kernel_rfl) (by simp) ?_
    refine AllReadyH.cons rfl (fun K hK => ?_) (AllReadyH.cons rfl (fun K hK => ?_) (AllReadyH.nil))
    · go_simp
      (go_at_call 84; refine (HBG.out _).mono ?_; rintro e w' ⟨rfl, rfl⟩)
      (try dsimp only)
      refine hK.out _ _ ?_ (fun hHeld => ?_)
      · exact ⟨UV.out.b0, UV.out.b1⟩
      clear hK K
      (try simp only [Act.put, List.setIfInBounds_toArray, List.set_cons_zero, List.set_cons_succ, List.getElem_toArray, List.getElem_cons_succ, List.getElem_cons_zero])
      refine wpAnyH_take (i := 4) (v := ?_) rfl (by kernel_rfl) (by kernel_rfl) (by kernel_rfl) (fun _ _ _ h => h) (Or.inl ⟨by rfl, ?_⟩) (by assumption) ?_
      rotate_left
      · intro w' hSw; (try dsimp only at hSw); go_simp; (try with_reducible rfl)
      (try simp only [Act.put, List.setIfInBounds_toArray, List.set_cons_zero, List.set_cons_succ, List.getElem_toArray, List.getElem_cons_succ, List.getElem_cons_zero])
      refine wpAnyH_ready (rs := [7, 12]) (by kernel_rfl) (by simp) ?_
      refine AllReadyH.cons rfl (fun K hK => ?_) (AllReadyH.cons rfl (fun K hK => ?_) (AllReadyH.nil))
      · go_simp
        (go_at_call 85; refine (HOF.out V UV.out.bel).mono ?_; rintro e V2 ⟨rfl, k2⟩)
        have U2 := Lib.hid (UV.out.below k2)
        have s2 : wr.heap.size ≤ V2.heap.size := Nat.le_trans sV k2.size
        clear k2
        (try dsimp only)
        refine hK.out _ _ ?_ (fun hHeld => ?_)
        · exact ⟨U2.out.b0, U2.out.b1⟩
        clear hK K
        (try simp only [Act.put, List.setIfInBounds_toArray, List.set_cons_zero, List.set_cons_succ, List.getElem_toArray, List.getElem_cons_succ, List.getElem_cons_zero])
        refine wpAnyH_take (i := 8) (v := ?_) rfl (by kernel_rfl) (by kernel_rfl) (by kernel_rfl) (fun _ _ _ h => h) (Or.inl ⟨by rfl, ?_⟩) (by assumption) ?_
        rotate_left
        · intro w' hSw; (try dsimp only at hSw); go_simp; (try with_reducible rfl)
        (try simp only [Act.put, List.setIfInBounds_toArray, List.set_cons_zero, List.set_cons_succ, List.getElem_toArray, List.getElem_cons_succ, List.getElem_cons_zero])
        refine wpAnyH_ready (rs := [9, 12]) (by kernel_rfl) (by simp) ?_
        refine AllReadyH.cons rfl (fun K hK => ?_) (AllReadyH.cons rfl (fun K hK => ?_) (AllReadyH.nil))
        · go_simp
          have k3 : Below V2.heap.size V2 (V2.alloc (.cells #[.int .i64 a, .int .i64 nb, .int .i64 1, .int .i64 (-(o * 1000000000))] 3)) := (Below.refl _ _).alloc (Nat.le_refl _) _
          have U3 := Lib.hid (U2.out.below k3)
          have s3 : wr.heap.size ≤ (V2.alloc (.cells #[.int .i64 a, .int .i64 nb, .int .i64 1, .int .i64 (-(o * 1000000000))] 3)).heap.size := Nat.le_trans s2 k3.size
          have F3 : Hid ((V2.alloc (.cells #[.int .i64 a, .int .i64 nb, .int .i64 1, .int .i64 (-(o * 1000000000))] 3)).cell? ⟨V2.heap.size, 0, none⟩ = some (.int .i64 a) ∧ (V2.alloc (.cells #[.int .i64 a, .int .i64 nb, .int .i64 1, .int .i64 (-(o * 1000000000))] 3)).cell? ⟨V2.heap.size, 1, none⟩ = some (.int .i64 nb) ∧ (V2.alloc (.cells #[.int .i64 a, .int .i64 nb, .int .i64 1, .int .i64 (-(o * 1000000000))] 3)).cell? ⟨V2.heap.size, 2, none⟩ = some (.int .i64 1) ∧ (V2.alloc (.cells #[.int .i64 a, .int .i64 nb, .int .i64 1, .int .i64 (-(o * 1000000000))] 3)).cell? ⟨V2.heap.size, 3, none⟩ = some (.int .i64 (-(o * 1000000000))) ∧ V2.heap.size < (V2.alloc (.cells #[.int .i64 a, .int .i64 nb, .int .i64 1, .int .i64 (-(o * 1000000000))] 3)).heap.size) := Lib.hid (by simp [go_sem])
          clear k3
          (try dsimp only)
          refine hK.out _ _ ?_ (fun hHeld => ?_)
          · exact ⟨U3.out.b0, U3.out.b1⟩
          clear hK K
          (try simp only [Act.put, List.setIfInBounds_toArray, List.set_cons_zero, List.set_cons_succ, List.getElem_toArray, List.getElem_cons_succ, List.getElem_cons_zero])
          generalize V2.alloc (.cells #[.int .i64 a, .int .i64 nb, .int .i64 1, .int .i64 (-(o * 1000000000))] 3) = V3 at *
          generalize V2.heap.size = G3 at *
          refine wpAnyH_ready (rs := [10, 12]) (by kernel_rfl) (by simp) ?_
          refine AllReadyH.cons rfl (fun K hK => ?_) (AllReadyH.cons rfl (fun K hK => ?_) (AllReadyH.nil))
          · go_simp
            (go_at_call 52; refine (HADD.out V3 G3 F3.out.1 F3.out.2.1 F3.out.2.2.1 F3.out.2.2.2.1).mono ?_; rintro e w' ⟨rfl, rfl⟩)
            (try dsimp only)
            refine hK.out _ _ ?_ (fun hHeld => ?_)
            · exact ⟨U3.out.b0, U3.out.b1⟩
            clear hK K
            (try simp only [Act.put, List.setIfInBounds_toArray, List.set_cons_zero, List.set_cons_succ, List.getElem_toArray, List.getElem_cons_succ, List.getElem_cons_zero])
            refine wpAnyH_take (i := 11) (v := ?_) rfl (by kernel_rfl) (by kernel_rfl) (by kernel_rfl) (fun _ _ _ h => h) (Or.inl ⟨by rfl, ?_⟩) (by assumption) ?_
            rotate_left
            · intro w' hSw; (try dsimp only at hSw); go_simp; (try with_reducible rfl)
            (try simp only [Act.put, List.setIfInBounds_toArray, List.set_cons_zero, List.set_cons_succ, List.getElem_toArray, List.getElem_cons_succ, List.getElem_cons_zero])
            refine wpAnyH_ready (rs := [12]) (by kernel_rfl) (by simp) ?_
            refine AllReadyH.cons rfl (fun K hK => ?_) (AllReadyH.nil)
            · go_simp
              have k5 : Below V3.heap.size V3 (V3.alloc (.cells #[.int .i64 0, .int .i64 0] 105)) := (Below.refl _ _).alloc (Nat.le_refl _) _
              have U5 := Lib.hid (U3.out.below k5)
              have s5 : wr.heap.size ≤ (V3.alloc (.cells #[.int .i64 0, .int .i64 0] 105)).heap.size := Nat.le_trans s3 k5.size
              have J5 : Hid (Ints2 (V3.alloc (.cells #[.int .i64 0, .int .i64 0] 105)) V3.heap.size 0 0) := Lib.hid (Ints2.new V3 0 0 105)
              have p5 : wr.heap.size ≤ V3.heap.size := s3
              have F5 : Hid ((V3.alloc (.cells #[.int .i64 0, .int .i64 0] 105)).cell? ⟨G3, 0, none⟩ = some (.int .i64 a) ∧ (V3.alloc (.cells #[.int .i64 0, .int .i64 0] 105)).cell? ⟨G3, 1, none⟩ = some (.int .i64 nb) ∧ (V3.alloc (.cells #[.int .i64 0, .int .i64 0] 105)).cell? ⟨G3, 2, none⟩ = some (.int .i64 1) ∧ (V3.alloc (.cells #[.int .i64 0, .int .i64 0] 105)).cell? ⟨G3, 3, none⟩ = some (.int .i64 (-(o * 1000000000))) ∧ G3 < (V3.alloc (.cells #[.int .i64 0, .int .i64 0] 105)).heap.size) := Lib.hid ⟨(k5.cell (p := ⟨G3, 0, none⟩) F3.out.2.2.2.2).trans F3.out.1, (k5.cell (p := ⟨G3, 1, none⟩) F3.out.2.2.2.2).trans F3.out.2.1, (k5.cell (p := ⟨G3, 2, none⟩) F3.out.2.2.2.2).trans F3.out.2.2.1, (k5.cell (p := ⟨G3, 3, none⟩) F3.out.2.2.2.2).trans F3.out.2.2.2.1, Nat.lt_of_lt_of_le F3.out.2.2.2.2 k5.size⟩
              clear k5
              (try dsimp only)
              refine hK.out _ _ ?_ (fun hHeld => ?_)
              · exact ⟨U5.out.b0, U5.out.b1⟩
              clear hK K
              (try simp only [Act.put, List.setIfInBounds_toArray, List.set_cons_zero, List.set_cons_succ, List.getElem_toArray, List.getElem_cons_succ, List.getElem_cons_zero])
              generalize V3.alloc (.cells #[.int .i64 0, .int .i64 0] 105) = V5 at *
              generalize V3.heap.size = P5 at *
              obtain ⟨j0, j1, jf0, jf1, jl⟩ := J5.out
              refine wpAnyH_ready (rs := [13]) (by kernel_rfl) (by simp) ?_
              refine AllReadyH.cons rfl (fun K hK => ?_) (AllReadyH.nil)
              go_simp
              (try dsimp only)
              refine hK.out _ _ ?_ (fun hHeld => ?_)
              · exact ⟨(World.cell?_setCell_other _ _ _ _ (fun e => by injection e with e1 e2; have := HU.out.ans.lt; omega)).trans ((World.cell?_setCell_other _ _ _ _ (fun e => by injection e with e1 e2; have := HU.out.ans.lt; omega)).trans U5.out.b0), (World.cell?_setCell_other _ _ _ _ (fun e => by injection e with e1 e2; have := HU.out.ans.lt; omega)).trans ((World.cell?_setCell_other _ _ _ _ (fun e => by injection e with e1 e2; have := HU.out.ans.lt; omega)).trans U5.out.b1)⟩
              clear hK K
              (try simp only [Act.put, List.setIfInBounds_toArray, List.set_cons_zero, List.set_cons_succ, List.getElem_toArray, List.getElem_cons_succ, List.getElem_cons_zero])
              refine wpAnyH_done (by kernel_rfl) ?_ _
              have kO : Only P5 V5 ((V5.setCell ⟨P5, 0, none⟩ (.int .i64 day)).setCell ⟨P5, 1, none⟩ (.int .i64 m)) := ((Only.refl _ V5).setB _).setB _
              have U9 := Lib.hid (U5.out.only kO (by have := HU.out.ans.lt; omega) (by have := HU.out.ans.lt; omega) (by have := HU.out.days.lt; omega) (by have := HU.out.bel.size; omega))
              have J9 := Lib.hid ((J5.out.set0 day).set1 m)
              have hp9 : wr.heap.size ≤ P5 := p5
              clear kO j0 j1 jf0 jf1 jl
              generalize (V5.setCell ⟨P5, 0, none⟩ (.int .i64 day)).setCell ⟨P5, 1, none⟩ (.int .i64 m) = W9 at *
              have b0 := U9.out.b0
              have b1 := U9.out.b1
              obtain ⟨i0, i1, if0, if1, il⟩ := J9.out
              by_cases hneg : m < 0
              · have hk0 : k = 0 := by
                  rcases (show k = 0 ∨ k = 1 from by omega) with h | h
                  · exact h
                  · exfalso
                    have hu := HU1.out (HME.out.2.2 h)
                    have e1 := HME.out.1
                    have e2 := HME.out.2.1
                    rw [h] at e2
                    rw [show D - ((1 : Nat) : Int) = D - 1 from rfl] at e2
                    rw [← e2] at e1
                    have := hu.lo
                    omega
                subst hk0
                have HTN := Lib.hid (scale_tai_neg A n c x day m z W9 (HZ.out W9 U9.out.bel) HT.out (by omega) (by omega) hneg)
                have HNG : Hid (a - begS z n D * 1000000000 < 0) := Lib.hid (by
                  have e1 := HME.out.1
                  have e2 := HME.out.2.1
                  rw [show D - ((0 : Nat) : Int) = D from by simp] at e2
                  rw [← e2] at e1
                  omega)
                clear hneg
                go_wp2_with fail
                refine HTN.out.mono ?_; rintro e W10 ⟨rfl, k10⟩
                have HU10 := Lib.hid (U9.out.below k10)
                clear k10 b0 b1 i0 i1 if0 if1 il HTN U9 J9
                go_wp2
                go_roundw
                case rel => exact ⟨1, by omega, by go_num, HU10.out, fun _ => HNG.out⟩
                case measure => simp [intOf]
              · have HUT : Hid (IsUtc z n a day m) := Lib.hid (by
                  have e1 := HME.out.1
                  have e2 := HME.out.2.1
                  rcases (show k = 0 ∨ k = 1 from by omega) with h | h
                  · subst h
                    rw [show D - ((0 : Nat) : Int) = D from by simp] at e2
                    subst e2
                    have := HU0.out (by omega)
                    rwa [e1] at this
                  · have hu := HU1.out (HME.out.2.2 h)
                    rw [h] at e2
                    rw [show D - ((1 : Nat) : Int) = D - 1 from rfl] at e2
                    subst e2
                    rwa [e1] at hu)
                have HTO := Lib.hid (scale_tai_ok A n c x day m z W9 (HZ.out W9 U9.out.bel) HT.out (by omega) (by omega) (by omega) HUT.out.hi)
                clear hneg
                go_wp2_with fail
                refine HTO.out.mono ?_; rintro e W10 ⟨rfl, k10⟩
                have HU10 := Lib.hid (U9.out.below k10)
                have J10 := J9.out.below k10 J9.out.lt
                obtain ⟨q0, q1, qf0, qf1, ql⟩ := HU10.out.ans
                have A10 := (HU10.out.ans.set0 day).set1 m
                have HF : Hid (Below w.heap.size w ((W10.setCell ⟨w.heap.size + 1, 0, none⟩ (.int .i64 day)).setCell ⟨w.heap.size + 1, 1, none⟩ (.int .i64 m))) := Lib.hid ((HU10.out.bel.setCell (p := ⟨w.heap.size + 1, 0, none⟩) (Nat.le_succ _) _).setCell (p := ⟨w.heap.size + 1, 1, none⟩) (Nat.le_succ _) _)
                obtain ⟨i0', i1', _, _, il'⟩ := J10
                have z0 := A10.c0
                have z1 := A10.c1
                clear k10 b0 b1 i0 i1 if0 if1 il HTO U9 J9 A10
                go_wp2
                refine bodyPost_ret (v := .tuple #[.agg #[.int .i64 day, .int .i64 m], .int .i64 0]) (by simp [results, Tryz.results67, go_sem, z0, z1]) rfl ⟨⟨day, m, rfl, HUT.out, by omega, by omega⟩, HF.out⟩
          · go_simp
            have k6 : Below V3.heap.size V3 (V3.alloc (.cells #[.int .i64 0, .int .i64 0] 105)) := (Below.refl _ _).alloc (Nat.le_refl _) _
            have U6 := Lib.hid (U3.out.below k6)
            have s6 : wr.heap.size ≤ (V3.alloc (.cells #[.int .i64 0, .int .i64 0] 105)).heap.size := Nat.le_trans s3 k6.size
            have J6 : Hid (Ints2 (V3.alloc (.cells #[.int .i64 0, .int .i64 0] 105)) V3.heap.size 0 0) := Lib.hid (Ints2.new V3 0 0 105)
            have p6 : wr.heap.size ≤ V3.heap.size := s3
            have F6 : Hid ((V3.alloc (.cells #[.int .i64 0, .int .i64 0] 105)).cell? ⟨G3, 0, none⟩ = some (.int .i64 a) ∧ (V3.alloc (.cells #[.int .i64 0, .int .i64 0] 105)).cell? ⟨G3, 1, none⟩ = some (.int .i64 nb) ∧ (V3.alloc (.cells #[.int .i64 0, .int .i64 0] 105)).cell? ⟨G3, 2, none⟩ = some (.int .i64 1) ∧ (V3.alloc (.cells #[.int .i64 0, .int .i64 0] 105)).cell? ⟨G3, 3, none⟩ = some (.int .i64 (-(o * 1000000000))) ∧ G3 < (V3.alloc (.cells #[.int .i64 0, .int .i64 0] 105)).heap.size) := Lib.hid ⟨(k6.cell (p := ⟨G3, 0, none⟩) F3.out.2.2.2.2).trans F3.out.1, (k6.cell (p := ⟨G3, 1, none⟩) F3.out.2.2.2.2).trans F3.out.2.1, (k6.cell (p := ⟨G3, 2, none⟩) F3.out.2.2.2.2).trans F3.out.2.2.1, (k6.cell (p := ⟨G3, 3, none⟩) F3.out.2.2.2.2).trans F3.out.2.2.2.1, Nat.lt_of_lt_of_le F3.out.2.2.2.2 k6.size⟩
            clear k6
            (try dsimp only)
            refine hK.out _ _ ?_ (fun hHeld => ?_)
            · exact ⟨U6.out.b0, U6.out.b1⟩
            clear hK K
            (try simp only [Act.put, List.setIfInBounds_toArray, List.set_cons_zero, List.set_cons_succ, List.getElem_toArray, List.getElem_cons_succ, List.getElem_cons_zero])
            generalize V3.alloc (.cells #[.int .i64 0, .int .i64 0] 105) = V6 at *
            generalize V3.heap.size = P6 at *
            refine wpAnyH_ready (rs := [10]) (by kernel_rfl) (by simp) ?_
            refine AllReadyH.cons rfl (fun K hK => ?_) (AllReadyH.nil)
            · go_simp
              (go_at_call 52; refine (HADD.out V6 G3 F6.out.1 F6.out.2.1 F6.out.2.2.1 F6.out.2.2.2.1).mono ?_; rintro e w' ⟨rfl, rfl⟩)
              (try dsimp only)
              refine hK.out _ _ ?_ (fun hHeld => ?_)
              · exact ⟨U6.out.b0, U6.out.b1⟩
              clear hK K
              (try simp only [Act.put, List.setIfInBounds_toArray, List.set_cons_zero, List.set_cons_succ, List.getElem_toArray, List.getElem_cons_succ, List.getElem_cons_zero])
              refine wpAnyH_take (i := 11) (v := ?_) rfl (by kernel_rfl) (by kernel_rfl) (by kernel_rfl) (fun _ _ _ h => h) (Or.inl ⟨by rfl, ?_⟩) (by assumption) ?_
              rotate_left
              · intro w' hSw; (try dsimp only at hSw); go_simp; (try with_reducible rfl)
              (try simp only [Act.put, List.setIfInBounds_toArray, List.set_cons_zero, List.set_cons_succ, List.getElem_toArray, List.getElem_cons_succ, List.getElem_cons_zero])
              obtain ⟨j0, j1, jf0, jf1, jl⟩ := J6.out
              refine wpAnyH_ready (rs := [13]) (by kernel_rfl) (by simp) ?_
              refine AllReadyH.cons rfl (fun K hK => ?_) (AllReadyH.nil)
              go_simp
              (try dsimp only)
              refine hK.out _ _ ?_ (fun hHeld => ?_)
              · exact ⟨(World.cell?_setCell_other _ _ _ _ (fun e => by injection e with e1 e2; have := HU.out.ans.lt; omega)).trans ((World.cell?_setCell_other _ _ _ _ (fun e => by injection e with e1 e2; have := HU.out.ans.lt; omega)).trans U6.out.b0), (World.cell?_setCell_other _ _ _ _ (fun e => by injection e with e1 e2; have := HU.out.ans.lt; omega)).trans ((World.cell?_setCell_other _ _ _ _ (fun e => by injection e with e1 e2; have := HU.out.ans.lt; omega)).trans U6.out.b1)⟩
              clear hK K
              (try simp only [Act.put, List.setIfInBounds_toArray, List.set_cons_zero, List.set_cons_succ, List.getElem_toArray, List.getElem_cons_succ, List.getElem_cons_zero])
              refine wpAnyH_done (by kernel_rfl) ?_ _
              have kO : Only P6 V6 ((V6.setCell ⟨P6, 0, none⟩ (.int .i64 day)).setCell ⟨P6, 1, none⟩ (.int .i64 m)) := ((Only.refl _ V6).setB _).setB _
              have U9 := Lib.hid (U6.out.only kO (by have := HU.out.ans.lt; omega) (by have := HU.out.ans.lt; omega) (by have := HU.out.days.lt; omega) (by have := HU.out.bel.size; omega))
              have J9 := Lib.hid ((J6.out.set0 day).set1 m)
              have hp9 : wr.heap.size ≤ P6 := p6
              clear kO j0 j1 jf0 jf1 jl
              generalize (V6.setCell ⟨P6, 0, none⟩ (.int .i64 day)).setCell ⟨P6, 1, none⟩ (.int .i64 m) = W9 at *
              have b0 := U9.out.b0
              have b1 := U9.out.b1
              obtain ⟨i0, i1, if0, if1, il⟩ := J9.out
              by_cases hneg : m < 0
              · have hk0 : k = 0 := by
                  rcases (show k = 0 ∨ k = 1 from by omega) with h | h
                  · exact h
                  · exfalso
                    have hu := HU1.out (HME.out.2.2 h)
                    have e1 := HME.out.1
                    have e2 := HME.out.2.1
                    rw [h] at e2
                    rw [show D - ((1 : Nat) : Int) = D - 1 from rfl] at e2
                    rw [← e2] at e1
                    have := hu.lo
                    omega
                subst hk0
                have HTN := Lib.hid (scale_tai_neg A n c x day m z W9 (HZ.out W9 U9.out.bel) HT.out (by omega) (by omega) hneg)
                have HNG : Hid (a - begS z n D * 1000000000 < 0) := Lib.hid (by
                  have e1 := HME.out.1
                  have e2 := HME.out.2.1
                  rw [show D - ((0 : Nat) : Int) = D from by simp] at e2
                  rw [← e2] at e1
                  omega)
                clear hneg
                go_wp2_with fail
                refine HTN.out.mono ?_; rintro e W10 ⟨rfl, k10⟩
                have HU10 := Lib.hid (U9.out.below k10)
                clear k10 b0 b1 i0 i1 if0 if1 il HTN U9 J9
                go_wp2
                go_roundw
                case rel => exact ⟨1, by omega, by go_num, HU10.out, fun _ => HNG.out⟩
                case measure => simp [intOf]
              · have HUT : Hid (IsUtc z n a day m) := Lib.hid (by
                  have e1 := HME.out.1
                  have e2 := HME.out.2.1
                  rcases (show k = 0 ∨ k = 1 from by omega) with h | h
                  · subst h
                    rw [show D - ((0 : Nat) : Int) = D from by simp] at e2
                    subst e2
                    have := HU0.out (by omega)
                    rwa [e1] at this
                  · have hu := HU1.out (HME.out.2.2 h)
                    rw [h] at e2
                    rw [show D - ((1 : Nat) : Int) = D - 1 from rfl] at e2
                    subst e2
                    rwa [e1] at hu)
                have HTO := Lib.hid (scale_tai_ok A n c x day m z W9 (HZ.out W9 U9.out.bel) HT.out (by omega) (by omega) (by omega) HUT.out.hi)
                clear hneg
                go_wp2_with fail
                refine HTO.out.mono ?_; rintro e W10 ⟨rfl, k10⟩
                have HU10 := Lib.hid (U9.out.below k10)
                have J10 := J9.out.below k10 J9.out.lt
                obtain ⟨q0, q1, qf0, qf1, ql⟩ := HU10.out.ans
                have A10 := (HU10.out.ans.set0 day).set1 m
                have HF : Hid (Below w.heap.size w ((W10.setCell ⟨w.heap.size + 1, 0, none⟩ (.int .i64 day)).setCell ⟨w.heap.size + 1, 1, none⟩ (.int .i64 m))) := Lib.hid ((HU10.out.bel.setCell (p := ⟨w.heap.size + 1, 0, none⟩) (Nat.le_succ _) _).setCell (p := ⟨w.heap.size + 1, 1, none⟩) (Nat.le_succ _) _)
                obtain ⟨i0', i1', _, _, il'⟩ := J10
                have z0 := A10.c0
                have z1 := A10.c1
                clear k10 b0 b1 i0 i1 if0 if1 il HTO U9 J9 A10
                go_wp2
                refine bodyPost_ret (v := .tuple #[.agg #[.int .i64 day, .int .i64 m], .int .i64 0]) (by simp [results, Tryz.results67, go_sem, z0, z1]) rfl ⟨⟨day, m, rfl, HUT.out, by omega, by omega⟩, HF.out⟩
        · go_simp
          have k8 : Below V2.heap.size V2 (V2.alloc (.cells #[.int .i64 0, .int .i64 0] 105)) := (Below.refl _ _).alloc (Nat.le_refl _) _
          have U8 := Lib.hid (U2.out.below k8)
          have s8 : wr.heap.size ≤ (V2.alloc (.cells #[.int .i64 0, .int .i64 0] 105)).heap.size := Nat.le_trans s2 k8.size
          have J8 : Hid (Ints2 (V2.alloc (.cells #[.int .i64 0, .int .i64 0] 105)) V2.heap.size 0 0) := Lib.hid (Ints2.new V2 0 0 105)
          have p8 : wr.heap.size ≤ V2.heap.size := s2
          clear k8
          (try dsimp only)
          refine hK.out _ _ ?_ (fun hHeld => ?_)
          · exact ⟨U8.out.b0, U8.out.b1⟩
          clear hK K
          (try simp only [Act.put, List.setIfInBounds_toArray, List.set_cons_zero, List.set_cons_succ, List.getElem_toArray, List.getElem_cons_succ, List.getElem_cons_zero])
          generalize V2.alloc (.cells #[.int .i64 0, .int .i64 0] 105) = V8 at *
          generalize V2.heap.size = P8 at *
          refine wpAnyH_ready (rs := [9]) (by kernel_rfl) (by simp) ?_
          refine AllReadyH.cons rfl (fun K hK => ?_) (AllReadyH.nil)
          · go_simp
            have k9 : Below V8.heap.size V8 (V8.alloc (.cells #[.int .i64 a, .int .i64 nb, .int .i64 1, .int .i64 (-(o * 1000000000))] 3)) := (Below.refl _ _).alloc (Nat.le_refl _) _
            have U9 := Lib.hid (U8.out.below k9)
            have s9 : wr.heap.size ≤ (V8.alloc (.cells #[.int .i64 a, .int .i64 nb, .int .i64 1, .int .i64 (-(o * 1000000000))] 3)).heap.size := Nat.le_trans s8 k9.size
            have F9 : Hid ((V8.alloc (.cells #[.int .i64 a, .int .i64 nb, .int .i64 1, .int .i64 (-(o * 1000000000))] 3)).cell? ⟨V8.heap.size, 0, none⟩ = some (.int .i64 a) ∧ (V8.alloc (.cells #[.int .i64 a, .int .i64 nb, .int .i64 1, .int .i64 (-(o * 1000000000))] 3)).cell? ⟨V8.heap.size, 1, none⟩ = some (.int .i64 nb) ∧ (V8.alloc (.cells #[.int .i64 a, .int .i64 nb, .int .i64 1, .int .i64 (-(o * 1000000000))] 3)).cell? ⟨V8.heap.size, 2, none⟩ = some (.int .i64 1) ∧ (V8.alloc (.cells #[.int .i64 a, .int .i64 nb, .int .i64 1, .int .i64 (-(o * 1000000000))] 3)).cell? ⟨V8.heap.size, 3, none⟩ = some (.int .i64 (-(o * 1000000000))) ∧ V8.heap.size < (V8.alloc (.cells #[.int .i64 a, .int .i64 nb, .int .i64 1, .int .i64 (-(o * 1000000000))] 3)).heap.size) := Lib.hid (by simp [go_sem])
            have J9 := Lib.hid (J8.out.below k9 J8.out.lt)
            clear k9
            (try dsimp only)
            refine hK.out _ _ ?_ (fun hHeld => ?_)
            · exact ⟨U9.out.b0, U9.out.b1⟩
            clear hK K
            (try simp only [Act.put, List.setIfInBounds_toArray, List.set_cons_zero, List.set_cons_succ, List.getElem_toArray, List.getElem_cons_succ, List.getElem_cons_zero])
            generalize V8.alloc (.cells #[.int .i64 a, .int .i64 nb, .int .i64 1, .int .i64 (-(o * 1000000000))] 3) = V9 at *
            generalize V8.heap.size = G9 at *
            refine wpAnyH_ready (rs := [10]) (by kernel_rfl) (by simp) ?_
            refine AllReadyH.cons rfl (fun K hK => ?_) (AllReadyH.nil)
            · go_simp
              (go_at_call 52; refine (HADD.out V9 G9 F9.out.1 F9.out.2.1 F9.out.2.2.1 F9.out.2.2.2.1).mono ?_; rintro e w' ⟨rfl, rfl⟩)
              (try dsimp only)
              refine hK.out _ _ ?_ (fun hHeld => ?_)
              · exact ⟨U9.out.b0, U9.out.b1⟩
              clear hK K
              (try simp only [Act.put, List.setIfInBounds_toArray, List.set_cons_zero, List.set_cons_succ, List.getElem_toArray, List.getElem_cons_succ, List.getElem_cons_zero])
              refine wpAnyH_take (i := 11) (v := ?_) rfl (by kernel_rfl) (by kernel_rfl) (by kernel_rfl) (fun _ _ _ h => h) (Or.inl ⟨by rfl, ?_⟩) (by assumption) ?_
              rotate_left
              · intro w' hSw; (try dsimp only at hSw); go_simp; (try with_reducible rfl)
              (try simp only [Act.put, List.setIfInBounds_toArray, List.set_cons_zero, List.set_cons_succ, List.getElem_toArray, List.getElem_cons_succ, List.getElem_cons_zero])
              obtain ⟨j0, j1, jf0, jf1, jl⟩ := J9.out
              refine wpAnyH_ready (rs := [13]) (by kernel_rfl) (by simp) ?_
              refine AllReadyH.cons rfl (fun K hK => ?_) (AllReadyH.nil)
              go_simp
              (try dsimp only)
              refine hK.out _ _ ?_ (fun hHeld => ?_)
              · exact ⟨(World.cell?_setCell_other _ _ _ _ (fun e => by injection e with e1 e2; have := HU.out.ans.lt; omega)).trans ((World.cell?_setCell_other _ _ _ _ (fun e => by injection e with e1 e2; have := HU.out.ans.lt; omega)).trans U9.out.b0), (World.cell?_setCell_other _ _ _ _ (fun e => by injection e with e1 e2; have := HU.out.ans.lt; omega)).trans ((World.cell?_setCell_other _ _ _ _ (fun e => by injection e with e1 e2; have := HU.out.ans.lt; omega)).trans U9.out.b1)⟩
              clear hK K
              (try simp only [Act.put, List.setIfInBounds_toArray, List.set_cons_zero, List.set_cons_succ, List.getElem_toArray, List.getElem_cons_succ, List.getElem_cons_zero])
              refine wpAnyH_done (by kernel_rfl) ?_ _
              have kO : Only P8 V9 ((V9.setCell ⟨P8, 0, none⟩ (.int .i64 day)).setCell ⟨P8, 1, none⟩ (.int .i64 m)) := ((Only.refl _ V9).setB _).setB _
              have U9 := Lib.hid (U9.out.only kO (by have := HU.out.ans.lt; omega) (by have := HU.out.ans.lt; omega) (by have := HU.out.days.lt; omega) (by have := HU.out.bel.size; omega))
              have J9 := Lib.hid ((J9.out.set0 day).set1 m)
              have hp9 : wr.heap.size ≤ P8 := p8
              clear kO j0 j1 jf0 jf1 jl
              generalize (V9.setCell ⟨P8, 0, none⟩ (.int .i64 day)).setCell ⟨P8, 1, none⟩ (.int .i64 m) = W9 at *
              have b0 := U9.out.b0
              have b1 := U9.out.b1
              obtain ⟨i0, i1, if0, if1, il⟩ := J9.out
              by_cases hneg : m < 0
              · have hk0 : k = 0 := by
                  rcases (show k = 0 ∨ k = 1 from by omega) with h | h
                  · exact h
                  · exfalso
                    have hu := HU1.out (HME.out.2.2 h)
                    have e1 := HME.out.1
                    have e2 := HME.out.2.1
                    rw [h] at e2
                    rw [show D - ((1 : Nat) : Int) = D - 1 from rfl] at e2
                    rw [← e2] at e1
                    have := hu.lo
                    omega
                subst hk0
                have HTN := Lib.hid (scale_tai_neg A n c x day m z W9 (HZ.out W9 U9.out.bel) HT.out (by omega) (by omega) hneg)
                have HNG : Hid (a - begS z n D * 1000000000 < 0) := Lib.hid (by
                  have e1 := HME.out.1
                  have e2 := HME.out.2.1
                  rw [show D - ((0 : Nat) : Int) = D from by simp] at e2
                  rw [← e2] at e1
                  omega)
                clear hneg
                go_wp2_with fail
                refine HTN.out.mono ?_; rintro e W10 ⟨rfl, k10⟩
                have HU10 := Lib.hid (U9.out.below k10)
                clear k10 b0 b1 i0 i1 if0 if1 il HTN U9 J9
                go_wp2
                go_roundw
                case rel => exact ⟨1, by omega, by go_num, HU10.out, fun _ => HNG.out⟩
                case measure => simp [intOf]
              · have HUT : Hid (IsUtc z n a day m) := Lib.hid (by
                  have e1 := HME.out.1
                  have e2 := HME.out.2.1
                  rcases (show k = 0 ∨ k = 1 from by omega) with h | h
                  · subst h
                    rw [show D - ((0 : Nat) : Int) = D from by simp] at e2
                    subst e2
                    have := HU0.out (by omega)
                    rwa [e1] at this
                  · have hu := HU1.out (HME.out.2.2 h)
                    rw [h] at e2
                    rw [show D - ((1 : Nat) : Int) = D - 1 from rfl] at e2
                    subst e2
                    rwa [e1] at hu)
                have HTO := Lib.hid (scale_tai_ok A n c x day m z W9 (HZ.out W9 U9.out.bel) HT.out (by omega) (by omega) (by omega) HUT.out.hi)
                clear hneg
                go_wp2_with fail
                refine HTO.out.mono ?_; rintro e W10 ⟨rfl, k10⟩
                have HU10 := Lib.hid (U9.out.below k10)
                have J10 := J9.out.below k10 J9.out.lt
                obtain ⟨q0, q1, qf0, qf1, ql⟩ := HU10.out.ans
                have A10 := (HU10.out.ans.set0 day).set1 m
                have HF : Hid (Below w.heap.size w ((W10.setCell ⟨w.heap.size + 1, 0, none⟩ (.int .i64 day)).setCell ⟨w.heap.size + 1, 1, none⟩ (.int .i64 m))) := Lib.hid ((HU10.out.bel.setCell (p := ⟨w.heap.size + 1, 0, none⟩) (Nat.le_succ _) _).setCell (p := ⟨w.heap.size + 1, 1, none⟩) (Nat.le_succ _) _)
                obtain ⟨i0', i1', _, _, il'⟩ := J10
                have z0 := A10.c0
                have z1 := A10.c1
                clear k10 b0 b1 i0 i1 if0 if1 il HTO U9 J9 A10
                go_wp2
                refine bodyPost_ret (v := .tuple #[.agg #[.int .i64 day, .int .i64 m], .int .i64 0]) (by simp [results, Tryz.results67, go_sem, z0, z1]) rfl ⟨⟨day, m, rfl, HUT.out, by omega, by omega⟩, HF.out⟩
      · go_simp
        have k11 : Below V.heap.size V (V.alloc (.cells #[.int .i64 0, .int .i64 0] 105)) := (Below.refl _ _).alloc (Nat.le_refl _) _
        have U11 := Lib.hid (UV.out.below k11)
        have s11 : wr.heap.size ≤ (V.alloc (.cells #[.int .i64 0, .int .i64 0] 105)).heap.size := Nat.le_trans sV k11.size
        have J11 : Hid (Ints2 (V.alloc (.cells #[.int .i64 0, .int .i64 0] 105)) V.heap.size 0 0) := Lib.hid (Ints2.new V 0 0 105)
        have p11 : wr.heap.size ≤ V.heap.size := sV
        clear k11
        (try dsimp only)
        refine hK.out _ _ ?_ (fun hHeld => ?_)
        · exact ⟨U11.out.b0, U11.out.b1⟩
        clear hK K
        (try simp only [Act.put, List.setIfInBounds_toArray, List.set_cons_zero, List.set_cons_succ, List.getElem_toArray, List.getElem_cons_succ, List.getElem_cons_zero])
        generalize V.alloc (.cells #[.int .i64 0, .int .i64 0] 105) = V11 at *
        generalize V.heap.size = P11 at *
        refine wpAnyH_ready (rs := [7]) (by kernel_rfl) (by simp) ?_
        refine AllReadyH.cons rfl (fun K hK => ?_) (AllReadyH.nil)
        · go_simp
          (go_at_call 85; refine (HOF.out V11 U11.out.bel).mono ?_; rintro e V12 ⟨rfl, k12⟩)
          have U12 := Lib.hid (U11.out.below k12)
          have s12 : wr.heap.size ≤ V12.heap.size := Nat.le_trans s11 k12.size
          have J12 := Lib.hid (J11.out.below k12 J11.out.lt)
          clear k12
          (try dsimp only)
          refine hK.out _ _ ?_ (fun hHeld => ?_)
          · exact ⟨U12.out.b0, U12.out.b1⟩
          clear hK K
          (try simp only [Act.put, List.setIfInBounds_toArray, List.set_cons_zero, List.set_cons_succ, List.getElem_toArray, List.getElem_cons_succ, List.getElem_cons_zero])
          refine wpAnyH_take (i := 8) (v := ?_) rfl (by kernel_rfl) (by kernel_rfl) (by kernel_rfl) (fun _ _ _ h => h) (Or.inl ⟨by rfl, ?_⟩) (by assumption) ?_
          rotate_left
          · intro w' hSw; (try dsimp only at hSw); go_simp; (try with_reducible rfl)
          (try simp only [Act.put, List.setIfInBounds_toArray, List.set_cons_zero, List.set_cons_succ, List.getElem_toArray, List.getElem_cons_succ, List.getElem_cons_zero])
          refine wpAnyH_ready (rs := [9]) (by kernel_rfl) (by simp) ?_
          refine AllReadyH.cons rfl (fun K hK => ?_) (AllReadyH.nil)
          · go_simp
            have k13 : Below V12.heap.size V12 (V12.alloc (.cells #[.int .i64 a, .int .i64 nb, .int .i64 1, .int .i64 (-(o * 1000000000))] 3)) := (Below.refl _ _).alloc (Nat.le_refl _) _
            have U13 := Lib.hid (U12.out.below k13)
            have s13 : wr.heap.size ≤ (V12.alloc (.cells #[.int .i64 a, .int .i64 nb, .int .i64 1, .int .i64 (-(o * 1000000000))] 3)).heap.size := Nat.le_trans s12 k13.size
            have F13 : Hid ((V12.alloc (.cells #[.int .i64 a, .int .i64 nb, .int .i64 1, .int .i64 (-(o * 1000000000))] 3)).cell? ⟨V12.heap.size, 0, none⟩ = some (.int .i64 a) ∧ (V12.alloc (.cells #[.int .i64 a, .int .i64 nb, .int .i64 1, .int .i64 (-(o * 1000000000))] 3)).cell? ⟨V12.heap.size, 1, none⟩ = some (.int .i64 nb) ∧ (V12.alloc (.cells #[.int .i64 a, .int .i64 nb, .int .i64 1, .int .i64 (-(o * 1000000000))] 3)).cell? ⟨V12.heap.size, 2, none⟩ = some (.int .i64 1) ∧ (V12.alloc (.cells #[.int .i64 a, .int .i64 nb, .int .i64 1, .int .i64 (-(o * 1000000000))] 3)).cell? ⟨V12.heap.size, 3, none⟩ = some (.int .i64 (-(o * 1000000000))) ∧ V12.heap.size < (V12.alloc (.cells #[.int .i64 a, .int .i64 nb, .int .i64 1, .int .i64 (-(o * 1000000000))] 3)).heap.size) := Lib.hid (by simp [go_sem])
            have J13 := Lib.hid (J12.out.below k13 J12.out.lt)
            clear k13
            (try dsimp only)
            refine hK.out _ _ ?_ (fun hHeld => ?_)
            · exact ⟨U13.out.b0, U13.out.b1⟩
            clear hK K
            (try simp only [Act.put, List.setIfInBounds_toArray, List.set_cons_zero, List.set_cons_succ, List.getElem_toArray, List.getElem_cons_succ, List.getElem_cons_zero])
            generalize V12.alloc (.cells #[.int .i64 a, .int .i64 nb, .int .i64 1, .int .i64 (-(o * 1000000000))] 3) = V13 at *
            generalize V12.heap.size = G13 at *
            refine wpAnyH_ready (rs := [10]) (by kernel_rfl) (by simp) ?_
            refine AllReadyH.cons rfl (fun K hK => ?_) (AllReadyH.nil)
            · go_simp
              (go_at_call 52; refine (HADD.out V13 G13 F13.out.1 F13.out.2.1 F13.out.2.2.1 F13.out.2.2.2.1).mono ?_; rintro e w' ⟨rfl, rfl⟩)
              (try dsimp only)
              refine hK.out _ _ ?_ (fun hHeld => ?_)
              · exact ⟨U13.out.b0, U13.out.b1⟩
              clear hK K
              (try simp only [Act.put, List.setIfInBounds_toArray, List.set_cons_zero, List.set_cons_succ, List.getElem_toArray, List.getElem_cons_succ, List.getElem_cons_zero])
              refine wpAnyH_take (i := 11) (v := ?_) rfl (by kernel_rfl) (by kernel_rfl) (by kernel_rfl) (fun _ _ _ h => h) (Or.inl ⟨by rfl, ?_⟩) (by assumption) ?_
              rotate_left
              · intro w' hSw; (try dsimp only at hSw); go_simp; (try with_reducible rfl)
              (try simp only [Act.put, List.setIfInBounds_toArray, List.set_cons_zero, List.set_cons_succ, List.getElem_toArray, List.getElem_cons_succ, List.getElem_cons_zero])
              obtain ⟨j0, j1, jf0, jf1, jl⟩ := J13.out
              refine wpAnyH_ready (rs := [13]) (by kernel_rfl) (by simp) ?_
              refine AllReadyH.cons rfl (fun K hK => ?_) (AllReadyH.nil)
              go_simp
              (try dsimp only)
              refine hK.out _ _ ?_ (fun hHeld => ?_)
              · exact ⟨(World.cell?_setCell_other _ _ _ _ (fun e => by injection e with e1 e2; have := HU.out.ans.lt; omega)).trans ((World.cell?_setCell_other _ _ _ _ (fun e => by injection e with e1 e2; have := HU.out.ans.lt; omega)).trans U13.out.b0), (World.cell?_setCell_other _ _ _ _ (fun e => by injection e with e1 e2; have := HU.out.ans.lt; omega)).trans ((World.cell?_setCell_other _ _ _ _ (fun e => by injection e with e1 e2; have := HU.out.ans.lt; omega)).trans U13.out.b1)⟩
              clear hK K
              (try simp only [Act.put, List.setIfInBounds_toArray, List.set_cons_zero, List.set_cons_succ, List.getElem_toArray, List.getElem_cons_succ, List.getElem_cons_zero])
              refine wpAnyH_done (by kernel_rfl) ?_ _
              have kO : Only P11 V13 ((V13.setCell ⟨P11, 0, none⟩ (.int .i64 day)).setCell ⟨P11, 1, none⟩ (.int .i64 m)) := ((Only.refl _ V13).setB _).setB _
              have U9 := Lib.hid (U13.out.only kO (by have := HU.out.ans.lt; omega) (by have := HU.out.ans.lt; omega) (by have := HU.out.days.lt; omega) (by have := HU.out.bel.size; omega))
              have J9 := Lib.hid ((J13.out.set0 day).set1 m)
              have hp9 : wr.heap.size ≤ P11 := p11
              clear kO j0 j1 jf0 jf1 jl
              generalize (V13.setCell ⟨P11, 0, none⟩ (.int .i64 day)).setCell ⟨P11, 1, none⟩ (.int .i64 m) = W9 at *
              have b0 := U9.out.b0
              have b1 := U9.out.b1
              obtain ⟨i0, i1, if0, if1, il⟩ := J9.out
              by_cases hneg : m < 0
              · have hk0 : k = 0 := by
                  rcases (show k = 0 ∨ k = 1 from by omega) with h | h
                  · exact h
                  · exfalso
                    have hu := HU1.out (HME.out.2.2 h)
                    have e1 := HME.out.1
                    have e2 := HME.out.2.1
                    rw [h] at e2
                    rw [show D - ((1 : Nat) : Int) = D - 1 from rfl] at e2
                    rw [← e2] at e1
                    have := hu.lo
                    omega
                subst hk0
                have HTN := Lib.hid (scale_tai_neg A n c x day m z W9 (HZ.out W9 U9.out.bel) HT.out (by omega) (by omega) hneg)
                have HNG : Hid (a - begS z n D * 1000000000 < 0) := Lib.hid (by
                  have e1 := HME.out.1
                  have e2 := HME.out.2.1
                  rw [show D - ((0 : Nat) : Int) = D from by simp] at e2
                  rw [← e2] at e1
                  omega)
                clear hneg
                go_wp2_with fail
                refine HTN.out.mono ?_; rintro e W10 ⟨rfl, k10⟩
                have HU10 := Lib.hid (U9.out.below k10)
                clear k10 b0 b1 i0 i1 if0 if1 il HTN U9 J9
                go_wp2
                go_roundw
                case rel => exact ⟨1, by omega, by go_num, HU10.out, fun _ => HNG.out⟩
                case measure => simp [intOf]
              · have HUT : Hid (IsUtc z n a day m) := Lib.hid (by
                  have e1 := HME.out.1
                  have e2 := HME.out.2.1
                  rcases (show k = 0 ∨ k = 1 from by omega) with h | h
                  · subst h
                    rw [show D - ((0 : Nat) : Int) = D from by simp] at e2
                    subst e2
                    have := HU0.out (by omega)
                    rwa [e1] at this
                  · have hu := HU1.out (HME.out.2.2 h)
                    rw [h] at e2
                    rw [show D - ((1 : Nat) : Int) = D - 1 from rfl] at e2
                    subst e2
                    rwa [e1] at hu)
                have HTO := Lib.hid (scale_tai_ok A n c x day m z W9 (HZ.out W9 U9.out.bel) HT.out (by omega) (by omega) (by omega) HUT.out.hi)
                clear hneg
                go_wp2_with fail
                refine HTO.out.mono ?_; rintro e W10 ⟨rfl, k10⟩
                have HU10 := Lib.hid (U9.out.below k10)
                have J10 := J9.out.below k10 J9.out.lt
                obtain ⟨q0, q1, qf0, qf1, ql⟩ := HU10.out.ans
                have A10 := (HU10.out.ans.set0 day).set1 m
                have HF : Hid (Below w.heap.size w ((W10.setCell ⟨w.heap.size + 1, 0, none⟩ (.int .i64 day)).setCell ⟨w.heap.size + 1, 1, none⟩ (.int .i64 m))) := Lib.hid ((HU10.out.bel.setCell (p := ⟨w.heap.size + 1, 0, none⟩) (Nat.le_succ _) _).setCell (p := ⟨w.heap.size + 1, 1, none⟩) (Nat.le_succ _) _)
                obtain ⟨i0', i1', _, _, il'⟩ := J10
                have z0 := A10.c0
                have z1 := A10.c1
                clear k10 b0 b1 i0 i1 if0 if1 il HTO U9 J9 A10
                go_wp2
                refine bodyPost_ret (v := .tuple #[.agg #[.int .i64 day, .int .i64 m], .int .i64 0]) (by simp [results, Tryz.results67, go_sem, z0, z1]) rfl ⟨⟨day, m, rfl, HUT.out, by omega, by omega⟩, HF.out⟩
    · go_simp
      have k15 : Below V.heap.size V (V.alloc (.cells #[.int .i64 0, .int .i64 0] 105)) := (Below.refl _ _).alloc (Nat.le_refl _) _
      have U15 := Lib.hid (UV.out.below k15)
      have s15 : wr.heap.size ≤ (V.alloc (.cells #[.int .i64 0, .int .i64 0] 105)).heap.size := Nat.le_trans sV k15.size
      have J15 : Hid (Ints2 (V.alloc (.cells #[.int .i64 0, .int .i64 0] 105)) V.heap.size 0 0) := Lib.hid (Ints2.new V 0 0 105)
      have p15 : wr.heap.size ≤ V.heap.size := sV
      clear k15
      (try dsimp only)
      refine hK.out _ _ ?_ (fun hHeld => ?_)
      · exact ⟨U15.out.b0, U15.out.b1⟩
      clear hK K
      (try simp only [Act.put, List.setIfInBounds_toArray, List.set_cons_zero, List.set_cons_succ, List.getElem_toArray, List.getElem_cons_succ, List.getElem_cons_zero])
      generalize V.alloc (.cells #[.int .i64 0, .int .i64 0] 105) = V15 at *
      generalize V.heap.size = P15 at *
      refine wpAnyH_ready (rs := [3]) (by kernel_rfl) (by simp) ?_
      refine AllReadyH.cons rfl (fun K hK => ?_) (AllReadyH.nil)
      · go_simp
        (go_at_call 84; refine (HBG.out _).mono ?_; rintro e w' ⟨rfl, rfl⟩)
        (try dsimp only)
        refine hK.out _ _ ?_ (fun hHeld => ?_)
        · exact ⟨U15.out.b0, U15.out.b1⟩
        clear hK K
        (try simp only [Act.put, List.setIfInBounds_toArray, List.set_cons_zero, List.set_cons_succ, List.getElem_toArray, List.getElem_cons_succ, List.getElem_cons_zero])
        refine wpAnyH_take (i := 4) (v := ?_) rfl (by kernel_rfl) (by kernel_rfl) (by kernel_rfl) (fun _ _ _ h => h) (Or.inl ⟨by rfl, ?_⟩) (by assumption) ?_
        rotate_left
        · intro w' hSw; (try dsimp only at hSw); go_simp; (try with_reducible rfl)
        (try simp only [Act.put, List.setIfInBounds_toArray, List.set_cons_zero, List.set_cons_succ, List.getElem_toArray, List.getElem_cons_succ, List.getElem_cons_zero])
        refine wpAnyH_ready (rs := [7]) (by kernel_rfl) (by simp) ?_
        refine AllReadyH.cons rfl (fun K hK => ?_) (AllReadyH.nil)
        · go_simp
          (go_at_call 85; refine (HOF.out V15 U15.out.bel).mono ?_; rintro e V17 ⟨rfl, k17⟩)
          have U17 := Lib.hid (U15.out.below k17)
          have s17 : wr.heap.size ≤ V17.heap.size := Nat.le_trans s15 k17.size
          have J17 := Lib.hid (J15.out.below k17 J15.out.lt)
          clear k17
          (try dsimp only)
          refine hK.out _ _ ?_ (fun hHeld => ?_)
          · exact ⟨U17.out.b0, U17.out.b1⟩
          clear hK K
          (try simp only [Act.put, List.setIfInBounds_toArray, List.set_cons_zero, List.set_cons_succ, List.getElem_toArray, List.getElem_cons_succ, List.getElem_cons_zero])
          refine wpAnyH_take (i := 8) (v := ?_) rfl (by kernel_rfl) (by kernel_rfl) (by kernel_rfl) (fun _ _ _ h => h) (Or.inl ⟨by rfl, ?_⟩) (by assumption) ?_
          rotate_left
          · intro w' hSw; (try dsimp only at hSw); go_simp; (try with_reducible rfl)
          (try simp only [Act.put, List.setIfInBounds_toArray, List.set_cons_zero, List.set_cons_succ, List.getElem_toArray, List.getElem_cons_succ, List.getElem_cons_zero])
          refine wpAnyH_ready (rs := [9]) (by kernel_rfl) (by simp) ?_
          refine AllReadyH.cons rfl (fun K hK => ?_) (AllReadyH.nil)
          · go_simp
            have k18 : Below V17.heap.size V17 (V17.alloc (.cells #[.int .i64 a, .int .i64 nb, .int .i64 1, .int .i64 (-(o * 1000000000))] 3)) := (Below.refl _ _).alloc (Nat.le_refl _) _
            have U18 := Lib.hid (U17.out.below k18)
            have s18 : wr.heap.size ≤ (V17.alloc (.cells #[.int .i64 a, .int .i64 nb, .int .i64 1, .int .i64 (-(o * 1000000000))] 3)).heap.size := Nat.le_trans s17 k18.size
            have F18 : Hid ((V17.alloc (.cells #[.int .i64 a, .int .i64 nb, .int .i64 1, .int .i64 (-(o * 1000000000))] 3)).cell? ⟨V17.heap.size, 0, none⟩ = some (.int .i64 a) ∧ (V17.alloc (.cells #[.int .i64 a, .int .i64 nb, .int .i64 1, .int .i64 (-(o * 1000000000))] 3)).cell? ⟨V17.heap.size, 1, none⟩ = some (.int .i64 nb) ∧ (V17.alloc (.cells #[.int .i64 a, .int .i64 nb, .int .i64 1, .int .i64 (-(o * 1000000000))] 3)).cell? ⟨V17.heap.size, 2, none⟩ = some (.int .i64 1) ∧ (V17.alloc (.cells #[.int .i64 a, .int .i64 nb, .int .i64 1, .int .i64 (-(o * 1000000000))] 3)).cell? ⟨V17.heap.size, 3, none⟩ = some (.int .i64 (-(o * 1000000000))) ∧ V17.heap.size < (V17.alloc (.cells #[.int .i64 a, .int .i64 nb, .int .i64 1, .int .i64 (-(o * 1000000000))] 3)).heap.size) := Lib.hid (by simp [go_sem])
            have J18 := Lib.hid (J17.out.below k18 J17.out.lt)
            clear k18
            (try dsimp only)
            refine hK.out _ _ ?_ (fun hHeld => ?_)
            · exact ⟨U18.out.b0, U18.out.b1⟩
            clear hK K
            (try simp only [Act.put, List.setIfInBounds_toArray, List.set_cons_zero, List.set_cons_succ, List.getElem_toArray, List.getElem_cons_succ, List.getElem_cons_zero])
            generalize V17.alloc (.cells #[.int .i64 a, .int .i64 nb, .int .i64 1, .int .i64 (-(o * 1000000000))] 3) = V18 at *
            generalize V17.heap.size = G18 at *
            refine wpAnyH_ready (rs := [10]) (by kernel_rfl) (by simp) ?_
            refine AllReadyH.cons rfl (fun K hK => ?_) (AllReadyH.nil)
            · go_simp
              (go_at_call 52; refine (HADD.out V18 G18 F18.out.1 F18.out.2.1 F18.out.2.2.1 F18.out.2.2.2.1).mono ?_; rintro e w' ⟨rfl, rfl⟩)
              (try dsimp only)
              refine hK.out _ _ ?_ (fun hHeld => ?_)
              · exact ⟨U18.out.b0, U18.out.b1⟩
              clear hK K
              (try simp only [Act.put, List.setIfInBounds_toArray, List.set_cons_zero, List.set_cons_succ, List.getElem_toArray, List.getElem_cons_succ, List.getElem_cons_zero])
              refine wpAnyH_take (i := 11) (v := ?_) rfl (by kernel_rfl) (by kernel_rfl) (by kernel_rfl) (fun _ _ _ h => h) (Or.inl ⟨by rfl, ?_⟩) (by assumption) ?_
              rotate_left
              · intro w' hSw; (try dsimp only at hSw); go_simp; (try with_reducible rfl)
              (try simp only [Act.put, List.setIfInBounds_toArray, List.set_cons_zero, List.set_cons_succ, List.getElem_toArray, List.getElem_cons_succ, List.getElem_cons_zero])
              obtain ⟨j0, j1, jf0, jf1, jl⟩ := J18.out
              refine wpAnyH_ready (rs := [13]) (by kernel_rfl) (by simp) ?_
              refine AllReadyH.cons rfl (fun K hK => ?_) (AllReadyH.nil)
              go_simp
              (try dsimp only)
              refine hK.out _ _ ?_ (fun hHeld => ?_)
              · exact ⟨(World.cell?_setCell_other _ _ _ _ (fun e => by injection e with e1 e2; have := HU.out.ans.lt; omega)).trans ((World.cell?_setCell_other _ _ _ _ (fun e => by injection e with e1 e2; have := HU.out.ans.lt; omega)).trans U18.out.b0), (World.cell?_setCell_other _ _ _ _ (fun e => by injection e with e1 e2; have := HU.out.ans.lt; omega)).trans ((World.cell?_setCell_other _ _ _ _ (fun e => by injection e with e1 e2; have := HU.out.ans.lt; omega)).trans U18.out.b1)⟩
              clear hK K
              (try simp only [Act.put, List.setIfInBounds_toArray, List.set_cons_zero, List.set_cons_succ, List.getElem_toArray, List.getElem_cons_succ, List.getElem_cons_zero])
              refine wpAnyH_done (by kernel_rfl) ?_ _
              have kO : Only P15 V18 ((V18.setCell ⟨P15, 0, none⟩ (.int .i64 day)).setCell ⟨P15, 1, none⟩ (.int .i64 m)) := ((Only.refl _ V18).setB _).setB _
              have U9 := Lib.hid (U18.out.only kO (by have := HU.out.ans.lt; omega) (by have := HU.out.ans.lt; omega) (by have := HU.out.days.lt; omega) (by have := HU.out.bel.size; omega))
              have J9 := Lib.hid ((J18.out.set0 day).set1 m)
              have hp9 : wr.heap.size ≤ P15 := p15
              clear kO j0 j1 jf0 jf1 jl
              generalize (V18.setCell ⟨P15, 0, none⟩ (.int .i64 day)).setCell ⟨P15, 1, none⟩ (.int .i64 m) = W9 at *
              have b0 := U9.out.b0
              have b1 := U9.out.b1
              obtain ⟨i0, i1, if0, if1, il⟩ := J9.out
              by_cases hneg : m < 0
              · have hk0 : k = 0 := by
                  rcases (show k = 0 ∨ k = 1 from by omega) with h | h
                  · exact h
                  · exfalso
                    have hu := HU1.out (HME.out.2.2 h)
                    have e1 := HME.out.1
                    have e2 := HME.out.2.1
                    rw [h] at e2
                    rw [show D - ((1 : Nat) : Int) = D - 1 from rfl] at e2
                    rw [← e2] at e1
                    have := hu.lo
                    omega
                subst hk0
                have HTN := Lib.hid (scale_tai_neg A n c x day m z W9 (HZ.out W9 U9.out.bel) HT.out (by omega) (by omega) hneg)
                have HNG : Hid (a - begS z n D * 1000000000 < 0) := Lib.hid (by
                  have e1 := HME.out.1
                  have e2 := HME.out.2.1
                  rw [show D - ((0 : Nat) : Int) = D from by simp] at e2
                  rw [← e2] at e1
                  omega)
                clear hneg
                go_wp2_with fail
                refine HTN.out.mono ?_; rintro e W10 ⟨rfl, k10⟩
                have HU10 := Lib.hid (U9.out.below k10)
                clear k10 b0 b1 i0 i1 if0 if1 il HTN U9 J9
                go_wp2
                go_roundw
                case rel => exact ⟨1, by omega, by go_num, HU10.out, fun _ => HNG.out⟩
                case measure => simp [intOf]
              · have HUT : Hid (IsUtc z n a day m) := Lib.hid (by
                  have e1 := HME.out.1
                  have e2 := HME.out.2.1
                  rcases (show k = 0 ∨ k = 1 from by omega) with h | h
                  · subst h
                    rw [show D - ((0 : Nat) : Int) = D from by simp] at e2
                    subst e2
                    have := HU0.out (by omega)
                    rwa [e1] at this
                  · have hu := HU1.out (HME.out.2.2 h)
                    rw [h] at e2
                    rw [show D - ((1 : Nat) : Int) = D - 1 from rfl] at e2
                    subst e2
                    rwa [e1] at hu)
                have HTO := Lib.hid (scale_tai_ok A n c x day m z W9 (HZ.out W9 U9.out.bel) HT.out (by omega) (by omega) (by omega) HUT.out.hi)
                clear hneg
                go_wp2_with fail
                refine HTO.out.mono ?_; rintro e W10 ⟨rfl, k10⟩
                have HU10 := Lib.hid (U9.out.below k10)
                have J10 := J9.out.below k10 J9.out.lt
                obtain ⟨q0, q1, qf0, qf1, ql⟩ := HU10.out.ans
                have A10 := (HU10.out.ans.set0 day).set1 m
                have HF : Hid (Below w.heap.size w ((W10.setCell ⟨w.heap.size + 1, 0, none⟩ (.int .i64 day)).setCell ⟨w.heap.size + 1, 1, none⟩ (.int .i64 m))) := Lib.hid ((HU10.out.bel.setCell (p := ⟨w.heap.size + 1, 0, none⟩) (Nat.le_succ _) _).setCell (p := ⟨w.heap.size + 1, 1, none⟩) (Nat.le_succ _) _)
                obtain ⟨i0', i1', _, _, il'⟩ := J10
                have z0 := A10.c0
                have z1 := A10.c1
                clear k10 b0 b1 i0 i1 if0 if1 il HTO U9 J9 A10
                go_wp2
                refine bodyPost_ret (v := .tuple #[.agg #[.int .i64 day, .int .i64 m], .int .i64 0]) (by simp [results, Tryz.results67, go_sem, z0, z1]) rfl ⟨⟨day, m, rfl, HUT.out, by omega, by omega⟩, HF.out⟩
end Go.Proofs.YtepdnkpmkhjlgaaGreat
