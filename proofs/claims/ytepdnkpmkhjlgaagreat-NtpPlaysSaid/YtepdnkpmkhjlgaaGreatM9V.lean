/- The reference's UTC of a moment that is not ahead of 1970 (written by gen/ref4utc.py). -/
import Derived.Test.YtepdnkpmkhjlgaaGreatRef4Tai
import Derived.Test.YtepdnkpmkhjlgaaGreatUtcMath
import Derived.Test.YtepdnkpmkhjlgaaGreatM9G
import Derived.Test.YtepdnkpmkhjlgaaGreatM9K
/- The reference's first moment of a day; its Floor of a number that is not below 0 (written by gen/ref4utc.py). -/
set_option linter.unusedSimpArgs false
set_option linter.unusedVariables false
namespace Go.Proofs.YtepdnkpmkhjlgaaGreat
open Go.RowKit

theorem ref4_floor_pos (a b : Int) (w : World) (h0 : 1 ≤ b) (h1 : b ≤ 9223372036854775807) (a0 : 0 ≤ a) (a1 : a ≤ 9223372036854775807) : Calls Tryz.prog 49 #[.int .i64 a, .int .i64 b] w fun e w' => e = .returned (.int .i64 (a / b)) ∧ w = w' := by
  have hb0 : (b == 0) = false := by simp; omega
  have HQ := Lib.hid (Int.tdiv_eq_ediv_of_nonneg (b := b) a0)
  have m0 := Int.emod_nonneg a (show b ≠ 0 by omega)
  have hr : decide (a.tmod b < 0) = false := by rw [Int.tmod_eq_emod_of_nonneg a0]; simp; omega
  have bd1 := Int.ediv_nonneg a0 (show 0 ≤ b by omega)
  have bd2 := Int.ediv_le_self b a0
  have b1 : -9223372036854775808 ≤ a.tdiv b ∧ a.tdiv b ≤ 9223372036854775807 := by rw [HQ.out]; omega
  have hr2 : decide (a % b < 0) = false := by simp; omega
  clear bd1 bd2
  go_enter Tryz.func49, Tryz.ntmps49
  go_wp2
  go_ret
  exact ⟨ret_int HQ.out, rfl⟩
set_option maxRecDepth 100000 in
set_option maxHeartbeats 4000000 in
theorem ref4_first (A : Option Addr) (n c : Nat) (x day : Int) (z : Nat → Int) (w : World) (hz : FlatAt w A 2 n z) (ht : IsTab z n x) (d0 : -1000000 ≤ day) (d1 : day ≤ 1000000) :
    Calls Tryz.prog 72 #[.agg #[.slice A n c, .int .i64 x], .int .i64 day] w fun e w' => e = .returned (.int .i64 (addS (mulS day 86400000000000) (mulS (offK z day n) 1000000000))) ∧ Below w.heap.size w w' := by
  have HB0 : Below w.heap.size w (w.alloc (.cells #[.slice A n c, .int .i64 x] 24)) := by (repeat' (first | (with_reducible exact Below.refl _ _) | (with_reducible assumption) | (with_reducible refine Below.trans ?_ (Below.mono (by with_reducible assumption) ?_)) | (with_reducible refine Below.alloc ?_ ?_ _) | (with_reducible refine Below.setCell ?_ ?_ _) | (with_reducible refine below_drewN ?_ _) | (with_reducible refine Below.drew ?_) | go_size))
  have q0 : (w.alloc (.cells #[.slice A n c, .int .i64 x] 24)).cell? ⟨w.heap.size, 0, none⟩ = some (.slice A n c) := by simp
  have q1 : (w.alloc (.cells #[.slice A n c, .int .i64 x] 24)).cell? ⟨w.heap.size, 1, none⟩ = some (.int .i64 x) := by simp
  have l0 : w.heap.size < (w.alloc (.cells #[.slice A n c, .int .i64 x] 24)).heap.size := by simp
  have HZ := Lib.hid (fun (W : World) (k : Below w.heap.size w W) => hz.below k)
  have HM1 := Lib.hid fun W : World => ref4_mul day 86400000000000 W (by omega) (by omega) (by decide) (by decide)
  have HO := Lib.hid fun (W : World) (hw : FlatAt W A 2 n z) => ref3_offset_yes A n c x day z W hw ht
  have bo := offK_bd ht day n (Nat.le_refl _)
  have HM2 := Lib.hid fun W : World => ref4_mul (offK z day n) 1000000000 W (by omega) (by omega) (by decide) (by decide)
  have hmd := mulS_bd day 86400000000000
  have hmo := mulS_bd (offK z day n) 1000000000
  have HA2 := Lib.hid fun (B : Nat) (W : World) q0 q1 => ref4_add2 (mulS day 86400000000000) (mulS (offK z day n) 1000000000) B W hmd hmo q0 q1
  generalize mulS day 86400000000000 = md at *
  generalize mulS (offK z day n) 1000000000 = mo at *
  generalize offK z day n = of at *
  clear hz ht bo
  go_enter Tryz.func72, Tryz.ntmps72
  go_wp2_with fail
  refine wp_region_held_drew (S := fun w' => w'.cell? ⟨w.heap.size, 0, none⟩ = some (.slice A n c) ∧ w'.cell? ⟨w.heap.size, 1, none⟩ = some (.int .i64 x)) (by kernel_rfl) ?_ (fun hHeld => ?_)
  · exact ⟨q0, q1⟩
  have HBd := HB0.drew
  have q0 : (w.alloc (.cells #[.slice A n c, .int .i64 x] 24)).drew.cell? ⟨w.heap.size, 0, none⟩ = some (.slice A n c) := q0
  have q1 : (w.alloc (.cells #[.slice A n c, .int .i64 x] 24)).drew.cell? ⟨w.heap.size, 1, none⟩ = some (.int .i64 x) := q1
  have l0 : w.heap.size < (w.alloc (.cells #[.slice A n c, .int .i64 x] 24)).drew.heap.size := l0
  generalize (w.alloc (.cells #[.slice A n c, .int .i64 x] 24)).drew = V at *
  refine wpAnyH_take (i := 0) (v := ?_) rfl (by kernel_rfl) (by kernel_rfl) (by kernel_rfl) (fun _ _ _ h => h) (Or.inl ⟨by rfl, ?_⟩) (by assumption) ?_
  rotate_left
  · intro w' hSw; (try dsimp only at hSw); go_simp; (try with_reducible rfl)
  (try simp only [Act.put, List.setIfInBounds_toArray, List.set_cons_zero, List.set_cons_succ, List.getElem_toArray, List.getElem_cons_succ, List.getElem_cons_zero])
  refine wpAnyH_take (i := 2) (v := ?_) rfl (by kernel_rfl) (by kernel_rfl) (by kernel_rfl) (fun _ _ _ h => h) (Or.inl ⟨by rfl, ?_⟩) (by assumption) ?_
  rotate_left
  · intro w' hSw; (try dsimp only at hSw); go_simp; (try with_reducible rfl)
  (try simp only [Act.put, List.setIfInBounds_toArray, List.set_cons_zero, List.set_cons_succ, List.getElem_toArray, List.getElem_cons_succ, List.getElem_cons_zero])
  refine wpAnyH_take (i := 3) (v := ?_) rfl (by kernel_rfl) (by kernel_rfl) (by kernel_rfl) (fun _ _ _ h => h) (Or.inl ⟨by rfl, ?_⟩) (by assumption) ?_
  rotate_left
  · intro w' hSw; (try dsimp only at hSw); go_simp; (try with_reducible rfl)
  (try simp only [Act.put, List.setIfInBounds_toArray, List.set_cons_zero, List.set_cons_succ, List.getElem_toArray, List.getElem_cons_succ, List.getElem_cons_zero])
  refine wpAnyH_ready (rs := [1]) (by kernel_rfl) (by simp) ?_
  refine AllReadyH.cons rfl (fun K hK => ?_) (AllReadyH.nil)
  go_simp
  (go_at_call 89; refine (HM1.out _).mono ?_; rintro e w' ⟨rfl, rfl⟩)
  (try dsimp only)
  refine hK.out _ _ ?_ (fun hHeld => ?_)
  · exact ⟨q0, q1⟩
  clear hK K
  (try simp only [Act.put, List.setIfInBounds_toArray, List.set_cons_zero, List.set_cons_succ, List.getElem_toArray, List.getElem_cons_succ, List.getElem_cons_zero])
  refine wpAnyH_ready (rs := [4]) (by kernel_rfl) (by simp) ?_
  refine AllReadyH.cons rfl (fun K hK => ?_) (AllReadyH.nil)
  go_simp
  (go_at_call 90; refine (HO.out V (HZ.out V HBd)).mono ?_; rintro e V2 ⟨rfl, k2⟩)
  have HB2 := HBd.trans (k2.mono HBd.size)
  have p0 := (k2.cell (p := ⟨w.heap.size, 0, none⟩) l0).trans q0
  have p1 := (k2.cell (p := ⟨w.heap.size, 1, none⟩) l0).trans q1
  have l2 := Nat.lt_of_lt_of_le l0 k2.size
  clear k2
  (try dsimp only)
  refine hK.out _ _ ?_ (fun hHeld => ?_)
  · exact ⟨p0, p1⟩
  clear hK K
  (try simp only [Act.put, List.setIfInBounds_toArray, List.set_cons_zero, List.set_cons_succ, List.getElem_toArray, List.getElem_cons_succ, List.getElem_cons_zero])
  refine wpAnyH_ready (rs := [5]) (by kernel_rfl) (by simp) ?_
  refine AllReadyH.cons rfl (fun K hK => ?_) (AllReadyH.nil)
  go_simp
  (go_at_call 89; refine (HM2.out _).mono ?_; rintro e w' ⟨rfl, rfl⟩)
  (try dsimp only)
  refine hK.out _ _ ?_ (fun hHeld => ?_)
  · exact ⟨p0, p1⟩
  clear hK K
  (try simp only [Act.put, List.setIfInBounds_toArray, List.set_cons_zero, List.set_cons_succ, List.getElem_toArray, List.getElem_cons_succ, List.getElem_cons_zero])
  refine wpAnyH_ready (rs := [6]) (by kernel_rfl) (by simp) ?_
  refine AllReadyH.cons rfl (fun K hK => ?_) (AllReadyH.nil)
  go_simp
  have k3 : Below V2.heap.size V2 (V2.alloc (.cells #[.int .i64 md, .int .i64 mo] 3)) := (Below.refl _ _).alloc (Nat.le_refl _) _
  have HB3 := HB2.trans (k3.mono HB2.size)
  have r0 := (k3.cell (p := ⟨w.heap.size, 0, none⟩) l2).trans p0
  have r1 := (k3.cell (p := ⟨w.heap.size, 1, none⟩) l2).trans p1
  have F0 : (V2.alloc (.cells #[.int .i64 md, .int .i64 mo] 3)).cell? ⟨V2.heap.size, 0, none⟩ = some (.int .i64 md) := by simp
  have F1 : (V2.alloc (.cells #[.int .i64 md, .int .i64 mo] 3)).cell? ⟨V2.heap.size, 1, none⟩ = some (.int .i64 mo) := by simp
  clear k3
  (try dsimp only)
  refine hK.out _ _ ?_ (fun hHeld => ?_)
  · exact ⟨r0, r1⟩
  clear hK K
  (try simp only [Act.put, List.setIfInBounds_toArray, List.set_cons_zero, List.set_cons_succ, List.getElem_toArray, List.getElem_cons_succ, List.getElem_cons_zero])
  generalize (V2.alloc (.cells #[.int .i64 md, .int .i64 mo] 3)) = V3 at *
  generalize V2.heap.size = G3 at *
  refine wpAnyH_ready (rs := [7]) (by kernel_rfl) (by simp) ?_
  refine AllReadyH.cons rfl (fun K hK => ?_) (AllReadyH.nil)
  go_simp
  (go_at_call 37; refine (HA2.out G3 V3 F0 F1).mono ?_; rintro e w' ⟨rfl, rfl⟩)
  (try dsimp only)
  refine hK.out _ _ ?_ (fun hHeld => ?_)
  · exact ⟨r0, r1⟩
  clear hK K
  (try simp only [Act.put, List.setIfInBounds_toArray, List.set_cons_zero, List.set_cons_succ, List.getElem_toArray, List.getElem_cons_succ, List.getElem_cons_zero])
  refine wpAnyH_take (i := 8) (v := ?_) rfl (by kernel_rfl) (by kernel_rfl) (by kernel_rfl) (fun _ _ _ h => h) (Or.inl ⟨by rfl, ?_⟩) (by assumption) ?_
  rotate_left
  · intro w' hSw; (try dsimp only at hSw); go_simp; (try with_reducible rfl)
  (try simp only [Act.put, List.setIfInBounds_toArray, List.set_cons_zero, List.set_cons_succ, List.getElem_toArray, List.getElem_cons_succ, List.getElem_cons_zero])
  refine wpAnyH_done (by kernel_rfl) ?_ _
  go_wp2_with fail
  (try go_ret)
  exact ⟨rfl, HB3⟩
end Go.Proofs.YtepdnkpmkhjlgaaGreat

/- The reference's UTC of a moment that is not ahead of 1970 (written by gen/ref4utc.py). -/
namespace Go.Proofs.YtepdnkpmkhjlgaaGreat
open Go.RowKit

/-- What the loop keeps. -/
structure UQ (w wr : World) (A : Option Addr) (n c : Nat) (x : Int) : Prop where
  b0 : wr.cell? ⟨w.heap.size, 0, none⟩ = some (.slice A n c)
  b1 : wr.cell? ⟨w.heap.size, 1, none⟩ = some (.int .i64 x)
  ans : Ints2 wr (w.heap.size + 1) 0 0
  bel : Below w.heap.size w wr
theorem UQ.below {w wr wa : World} {A : Option Addr} {n c : Nat} {x : Int} (h : UQ w wr A n c x) (k : Below wr.heap.size wr wa) : UQ w wa A n c x :=
  have l := h.ans.lt
  ⟨(k.cell (p := ⟨w.heap.size, 0, none⟩) (by show w.heap.size < _; omega)).trans h.b0, (k.cell (p := ⟨w.heap.size, 1, none⟩) (by show w.heap.size < _; omega)).trans h.b1, h.ans.below k l, h.bel.trans (k.mono h.bel.size)⟩
theorem fst_ahead {z : Nat → Int} {n : Nat} {x : Int} (hT : IsTab z n x) (a : Int) (h0 : 0 ≤ a) (h1 : a ≤ 9223372036854775806) : a < addS (mulS (a / 86400000000000 + 1) 86400000000000) (mulS (offK z (a / 86400000000000 + 1) n) 1000000000) := by
  have o := offK_bd hT (a / 86400000000000 + 1) n (Nat.le_refl _)
  generalize offK z (a / 86400000000000 + 1) n = k at *
  have hk : mulS k 1000000000 = k * 1000000000 := by unfold mulS; rw [if_neg (by omega), if_neg (by omega)]
  rw [hk]
  have hd : a < mulS (a / 86400000000000 + 1) 86400000000000 ∧ mulS (a / 86400000000000 + 1) 86400000000000 ≤ 9223372036854775807 := by
    unfold mulS
    split
    · omega
    · rw [if_neg (by omega)]; omega
  unfold addS
  split
  · omega
  · rw [if_neg (by omega)]; omega
theorem fst_in {z : Nat → Int} {n : Nat} {x : Int} (hT : IsTab z n x) (d : Int) (h0 : -1 ≤ d) (h1 : d ≤ 106751) : addS (mulS d 86400000000000) (mulS (offK z d n) 1000000000) = begS z n d * 1000000000 := by
  have o := offK_bd hT d n (Nat.le_refl _)
  have e : begS z n d = d * 86400 + offK z d n := rfl
  rw [e]
  generalize offK z d n = k at *
  have hk : mulS k 1000000000 = k * 1000000000 := by unfold mulS; rw [if_neg (by omega), if_neg (by omega)]
  have hd : mulS d 86400000000000 = d * 86400000000000 := by unfold mulS; rw [if_neg (by omega), if_neg (by omega)]
  rw [hk, hd, addS_in (by omega) (by omega)]
  omega
theorem tai_back {z : Nat → Int} {n : Nat} {x : Int} (hT : IsTab z n x) (a : Int) (h0 : 0 ≤ a) (h1 : a ≤ 9223372036854775806) : addS (addS (mulS (utcD z n a) 86400000000000) (utcM z n a)) (mulS (offK z (utcD z n a) n) 1000000000) = a := by
  have hu := utc_is hT a
  have bd := utcD_bd (z := z) (n := n) a h0 (by omega)
  have e := hu.eq
  have m0 := hu.lo
  have o := offK_bd hT (utcD z n a) n (Nat.le_refl _)
  have e2 : begS z n (utcD z n a) = utcD z n a * 86400 + offK z (utcD z n a) n := rfl
  rw [e2] at e
  generalize offK z (utcD z n a) n = k at *
  generalize utcM z n a = m at *
  generalize utcD z n a = d at *
  have hk : mulS k 1000000000 = k * 1000000000 := by unfold mulS; rw [if_neg (by omega), if_neg (by omega)]
  have hd : mulS d 86400000000000 = d * 86400000000000 := by unfold mulS; rw [if_neg (by omega), if_neg (by omega)]
  rw [hk, hd, addS_in (a := d * 86400000000000) (by omega) (by omega), addS_in (by omega) (by omega)]
  omega
set_option maxRecDepth 100000 in
set_option maxHeartbeats 16000000 in
theorem ref4_utc (A : Option Addr) (n c : Nat) (x a : Int) (z : Nat → Int) (w : World) (hz : FlatAt w A 2 n z) (hT : IsTab z n x) (h0 : 0 ≤ a) (h1 : a ≤ 9223372036854775806) :
    Calls Tryz.prog 43 #[.agg #[.slice A n c, .int .i64 x], .int .i64 a] w fun e w' => e = .returned (.tuple #[.agg #[.int .i64 (utcD z n a), .int .i64 (utcM z n a)], .int .i64 0]) ∧ Below w.heap.size w w' := by
  have hn : n ≤ maxLen := by have := hT.2.1; unfold maxLen; omega
  have HOB := Lib.hid (fun d => offK_bd hT d n (Nat.le_refl _))
  have HAH := Lib.hid (fst_ahead hT a h0 h1)
  have HIN := Lib.hid (fun d p q => fst_in hT d p q)
  have HTB := Lib.hid (tai_back hT a h0 h1)
  have HUI := Lib.hid (utc_is hT a)
  have HUD := Lib.hid (show utcD z n a = if 0 ≤ a - begS z n (a / 86400000000000) * 1000000000 then a / 86400000000000 else a / 86400000000000 - 1 from rfl)
  have HUM := Lib.hid (show utcM z n a = a - begS z n (utcD z n a) * 1000000000 from rfl)
  have HFL := Lib.hid fun W : World => ref4_floor_pos a 86400000000000 W (by decide) (by decide) h0 (by omega)
  have HZ := Lib.hid (fun (W : World) (k : Below w.heap.size w W) => hz.below k)
  have HFD := Lib.hid fun (d : Int) (W : World) (k : Below w.heap.size w W) p q => ref4_first A n c x d z W (hz.below k) hT p q
  have HIS := Lib.hid fun (W : World) (k : Below w.heap.size w W) => ref3_is A n c x z W true (hz.below k) hn ⟨fun _ => hT, fun _ => rfl⟩
  have HTA := Lib.hid fun (W : World) (k : Below w.heap.size w W) (d m : Int) p q r s => ref4_tai_ok A n c x d m z W (hz.below k) hn hT p q r s
  obtain ⟨D, hD⟩ : ∃ D, a / 86400000000000 = D := ⟨_, rfl⟩
  rw [hD] at HAH HFL HUD
  have hDb : 0 ≤ D ∧ D ≤ 106751 := by omega
  have HU0 : Hid (UQ w ((w.alloc (.cells #[.slice A n c, .int .i64 x] 24)).alloc (.cells #[.int .i64 0, .int .i64 0] 105)) A n c x) := Lib.hid ⟨by simp, by simp, by
      have := Ints2.new (w.alloc (.cells #[.slice A n c, .int .i64 x] 24)) 0 0 105
      rwa [World.size_alloc] at this, by (repeat' (first | (with_reducible exact Below.refl _ _) | (with_reducible assumption) | (with_reducible refine Below.trans ?_ (Below.mono (by with_reducible assumption) ?_)) | (with_reducible refine Below.alloc ?_ ?_ _) | (with_reducible refine Below.setCell ?_ ?_ _) | (with_reducible refine below_drewN ?_ _) | (with_reducible refine Below.drew ?_) | go_size))⟩
  have u1 : (a == 9223372036854775807) = false := by rw [beq_eq_false_iff_ne]; omega
  have u2 : (a == -9223372036854775808) = false := by rw [beq_eq_false_iff_ne]; omega
  have wD : IntKind.i64.wrap (D + 1) = D + 1 := IntWalk.i64_in _ (by omega)
  have wD2 : IntKind.i64.wrap (D - 2) = D - 2 := IntWalk.i64_in _ (by omega)
  have hbw : Hid (-1 ≤ utcD z n a ∧ utcD z n a ≤ 106752) := Lib.hid (utcD_bd a h0 (by omega))
  clear hz hT hD hn
  go_enter Tryz.func43, Tryz.ntmps43
  go_wp2_with fail
  refine (HIS.out _ HU0.out.bel).mono ?_; rintro e w1 ⟨rfl, k1⟩
  have HU1 := Lib.hid (HU0.out.below k1)
  clear k1 HU0 HIS
  go_wp2_with fail
  refine (HFL.out _).mono ?_; rintro e w2 ⟨rfl, rfl⟩
  go_wp2_with fail
  go_loopw [6] (fun i wr => ∃ k : Nat, k ≤ 2 ∧ i = .int .i64 (D + 1 - k) ∧ UQ w wr A n c x ∧ (k = 2 → a < begS z n D * 1000000000)) (fun i _ => (intOf i - (D - 5)).toNat)
  case atStart => exact ⟨0, by omega, by simp, HU1.out, fun h => by omega⟩
  case round =>
    obtain ⟨k, hk, rfl, hU, hng⟩ := hrel
    clear HU1
    obtain ⟨day, hday⟩ : ∃ day : Int, D + 1 - k = day := ⟨_, rfl⟩
    have hdb : -1 ≤ day ∧ day ≤ 106752 := by omega
    have hge : decide (day ≥ D - 2) = true := by simp; omega
    have hge2 : decide (D - 2 ≤ day) = true := by simp; omega
    have HNG := Lib.hid hng
    have HDAY := Lib.hid hday
    have HU := Lib.hid hU
    obtain ⟨b0, b1, hans, hbel⟩ := hU
    rw [hday]
    have wd1 : IntKind.i64.wrap (day - 1) = day - 1 := IntWalk.i64_in _ (by omega)
    have HF := Lib.hid fun (W : World) (kW : Below w.heap.size w W) => HFD.out day W kW (by omega) (by omega)
    obtain ⟨F, hF⟩ : ∃ F, addS (mulS day 86400000000000) (mulS (offK z day n) 1000000000) = F := ⟨_, rfl⟩
    have HFV := Lib.hid hF
    rw [hF] at HF
    have hFb := addS_bd (mulS day 86400000000000) (mulS (offK z day n) 1000000000)
    rw [hF] at hFb
    clear hng hday hF hans hbel
    by_cases hgt : a < F
    · have tg : decide (F > a) = true := by simpa using hgt
      have tg2 : decide (a < F) = true := by simpa using hgt
      go_wp2_with fail
      refine (HFL.out _).mono ?_; rintro e w' ⟨rfl, rfl⟩
      go_wp2_with fail
      refine (HF.out wr HU.out.bel).mono ?_; rintro e w3 ⟨rfl, k3⟩
      have HU3 := Lib.hid (HU.out.below k3)
      clear k3
      go_wp2_with fail
      go_roundw
      case rel =>
        have hk1 : k ≤ 1 := by
          rcases (show k ≤ 1 ∨ k = 2 from by omega) with q | q
          · exact q
          · exfalso
            subst q
            have e1 := HDAY.out
            have e2 := HFV.out
            have e4 : D - 1 = day := by omega
            have h2 := HIN.out day (by omega) (by omega)
            rw [h2] at e2
            have h3 := HNG.out rfl
            have hu := HUI.out
            have hud := HUD.out
            rw [if_neg (by omega)] at hud
            have e3 := hu.eq
            have e5 := hu.lo
            rw [hud, e4] at e3
            omega
        refine ⟨k + 1, by omega, by rw [← HDAY.out]; congr 1; omega, HU3.out, fun h => ?_⟩
        have hk2 : k = 1 := by omega
        subst hk2
        have e1 := HDAY.out
        have e2 : D = day := by omega
        rw [e2, ← HIN.out day (by omega) (by omega), HFV.out]
        exact hgt
      all_goals (have e1 := HDAY.out; (try simp only [intOf]); omega)
    · have tg : decide (F > a) = false := by simpa using hgt
      have tg2 : decide (a < F) = false := by simpa using hgt
      have hk1 : 1 ≤ k := by
        rcases (show 1 ≤ k ∨ k = 0 from by omega) with q | q
        · exact q
        · exfalso
          subst q
          have e1 := HDAY.out
          have e2 : D + 1 = day := by omega
          have e3 := HAH.out
          rw [e2, HFV.out] at e3
          exact hgt e3
      have hFin : F = begS z n day * 1000000000 := by rw [← HFV.out]; exact HIN.out day (by omega) (by have := HDAY.out; omega)
      have hdu : utcD z n a = day := by
        have hud := HUD.out
        have e1 := HDAY.out
        rcases (show k = 1 ∨ k = 2 from by omega) with q | q
        · subst q
          have e2 : D = day := by omega
          rw [hud, e2, if_pos (by omega)]
        · have h3 := HNG.out q
          subst q
          rw [hud, if_neg (by omega)]
          omega
      have hum : utcM z n a = a - F := by rw [HUM.out, hdu, hFin]
      have hui := HUI.out
      rw [hdu, hum] at hui
      have HDU := Lib.hid hdu
      have HDM := Lib.hid hum
      have HTB2 := HTB.out
      rw [hdu, hum] at HTB2
      have mlo := hui.lo
      have mhi := hui.hi
      have HTA2 := Lib.hid fun (W : World) (kW : Below w.heap.size w W) => HTA.out W kW day (a - F) (by omega) (by omega) mlo (by unfold lenS; exact mhi)
      rw [HTB2] at HTA2
      have ob1 := HOB.out day
      have ob2 := HOB.out (day + 1)
      have wF : IntKind.i64.wrap (a - F) = a - F := IntWalk.i64_in _ (by omega)
      clear ob1 ob2
      have taa : (a == a) = true := by simp
      clear hFin hdu hum hui HTB2 mhi HTB HUI HUD HUM HTA HAH HIN HNG HFD
      go_wp2_with fail
      refine (HFL.out _).mono ?_; rintro e w' ⟨rfl, rfl⟩
      go_wp2_with fail
      refine (HF.out wr HU.out.bel).mono ?_; rintro e w3 ⟨rfl, k3⟩
      have HU3 := Lib.hid (HU.out.below k3)
      have b0 := HU3.out.b0
      have b1 := HU3.out.b1
      clear k3 HU
      go_wp2_with fail
      refine (HF.out w3 HU3.out.bel).mono ?_; rintro e w4 ⟨rfl, k4⟩
      have HU4 := Lib.hid (HU3.out.below k4)
      have b0 := HU4.out.b0
      have b1 := HU4.out.b1
      clear k4 HU3
      have EC : (w4.alloc (.cells #[.int .i64 day, .int .i64 (a - F)] 105)).cell? ⟨w4.heap.size, 0, none⟩ = some (.int .i64 day) ∧ (w4.alloc (.cells #[.int .i64 day, .int .i64 (a - F)] 105)).cell? ⟨w4.heap.size, 1, none⟩ = some (.int .i64 (a - F)) := ⟨by simp, by simp⟩
      have kk : Below w4.heap.size w4 (w4.alloc (.cells #[.int .i64 day, .int .i64 (a - F)] 105)) := (Below.refl _ _).alloc (Nat.le_refl _) _
      have HU5 := Lib.hid (HU4.out.below kk)
      have b0 := HU5.out.b0
      have b1 := HU5.out.b1
      have hs4 := HU4.out.ans.lt
      have EL : w4.heap.size < (w4.alloc (.cells #[.int .i64 day, .int .i64 (a - F)] 105)).heap.size := by simp
      have EE := Lib.hid (And.intro EC (And.intro EL hs4))
      clear EC kk EL hs4 HU4
      go_wp2_with fail
      refine (HTA2.out _ HU5.out.bel).mono ?_; rintro e w6 ⟨rfl, k6⟩
      have HU6 := Lib.hid (HU5.out.below k6)
      have x0 := (k6.cell (p := ⟨w4.heap.size, 0, none⟩) EE.out.2.1).trans EE.out.1.1
      have x1 := (k6.cell (p := ⟨w4.heap.size, 1, none⟩) EE.out.2.1).trans EE.out.1.2
      obtain ⟨i0, i1, if0, if1, il⟩ := HU6.out.ans
      have J := Lib.hid ((HU6.out.ans.set0 day).set1 (a - F))
      have HB6 := Lib.hid ((HU6.out.bel.setCell (p := ⟨w.heap.size + 1, 0, none⟩) (Nat.le_succ _) (.int .i64 day)).setCell (p := ⟨w.heap.size + 1, 1, none⟩) (Nat.le_succ _) (.int .i64 (a - F)))
      clear k6 HU5 EE
      go_wp2_with fail
      have j0 := J.out.c0
      have j1 := J.out.c1
      refine bodyPost_ret (v := .tuple #[.agg #[.int .i64 day, .int .i64 (a - F)], .int .i64 0]) (by simp [results, Tryz.results43, go_sem, j0, j1]) rfl ⟨by rw [HDU.out, HDM.out], HB6.out⟩
end Go.Proofs.YtepdnkpmkhjlgaaGreat

