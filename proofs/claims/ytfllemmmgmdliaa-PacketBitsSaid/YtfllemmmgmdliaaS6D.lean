/- Stage 6: PacketBits. -/
import Derived.Test.YtfllemmmgmdliaaPkOk
import Derived.Test.YtfllemmmgmdliaaLow8
set_option linter.unusedSimpArgs false
set_option linter.unusedVariables false
namespace Go.Proofs.Ytfllemmmgmdliaa
open Go.ChangeShapes Go.WideShapes Go.ChangeAt Go.RowKit Go.Joins

theorem rK_step (f : Nat → Int) (j : Nat) (h : 12 ≤ j) : rK f (j + 1 - 12) = (rK f (j - 12) && (f j == 0)) := by
  obtain ⟨i, rfl⟩ : ∃ i, j = 12 + i := ⟨j - 12, by omega⟩
  rw [show 12 + i + 1 - 12 = i + 1 from by omega, show 12 + i - 12 = i from by omega]
  unfold rK
  rw [show zK f (i + 1) = (zK f i && (f (12 + i) == 0)) from rfl, Bool.and_assoc]
theorem xor8_bd (a b : Int) : 0 ≤ bits .xor .u8 a b ∧ bits .xor .u8 a b ≤ 255 := by
  have e : bits .xor .u8 a b = IntKind.u8.wrap ((BitVec.ofInt 8 a ^^^ BitVec.ofInt 8 b).toNat : Int) := rfl
  rw [e, u8_wrap]
  omega
/-- The row while the first loop runs. -/
def Pw (W0 wr : World) (g : Nat) : Prop := ∃ F, U8At wr g 48 F ∧ (∀ j, j < 48 → 0 ≤ F j ∧ F j ≤ 255) ∧ Only g W0 wr
theorem Pw.set {W0 wr : World} {g : Nat} (h : Pw W0 wr g) {k : Nat} (hk : k < 48) {x : Int} (h0 : 0 ≤ x) (h1 : x ≤ 255) : Pw W0 (wr.setCell ⟨g, k, none⟩ (.int .u8 x)) g := by
  obtain ⟨F, hU, hb, hO⟩ := h
  refine ⟨upd8 F k x, hU.set hk x, fun j hj => ?_, hO.setB _⟩
  unfold upd8
  split
  · exact ⟨h0, h1⟩
  · exact hb j hj
set_option maxRecDepth 100000 in
set_option maxHeartbeats 8000000 in
theorem bits_law (A : Option Addr) (n c : Nat) (f : Nat → Int) (at' by' : Int) (w : World) (hn : n ≤ maxLen) (hB : BytesAt w A n f) (hf : ∀ j, j < n → 0 ≤ f j ∧ f j ≤ 255) :
    Calls Try.prog 5 #[.slice A n c, .int .i64 at', .int .u8 by'] w fun e w' => e = .returned (.bool true) ∧ Below w.heap.size w w' := by
  unfold maxLen at hn
  have hni : (n : Int) ≤ 9223372036854775807 := by omega
  have hmk := make48
  have HBB := Lib.hid hB
  have HFF := Lib.hid hf
  have P0 : Hid (Pw (w.alloc (.cells z48 5)) (w.alloc (.cells z48 5)) w.heap.size) := Lib.hid ⟨_, u8_new w, fun j _ => ⟨Int.le_refl _, by omega⟩, Only.refl _ _⟩
  have HW0 : Hid (Below w.heap.size w (w.alloc (.cells z48 5))) := Lib.hid (by (repeat' (first | (with_reducible exact Below.refl _ _) | (with_reducible assumption) | (with_reducible refine Below.trans ?_ (Below.mono (by with_reducible assumption) ?_)) | (with_reducible refine Below.alloc ?_ ?_ _) | (with_reducible refine Below.setCell ?_ ?_ _) | (with_reducible refine below_drewN ?_ _) | (with_reducible refine Below.drew ?_) | go_size)))
  have hb255 : 0 ≤ bits .and .i64 at' 255 ∧ bits .and .i64 at' 255 ≤ 255 := bits_and_le at' 255 (by omega)
  obtain ⟨b, hbb⟩ : ∃ b : Nat, bits .and .i64 at' 255 = (b : Int) := ⟨(bits .and .i64 at' 255).toNat, by rw [Int.toNat_of_nonneg hb255.1]⟩
  have hb1 : (b : Int) ≤ 255 := by rw [← hbb]; exact hb255.2
  have hq0 : b % 48 < 48 := Nat.mod_lt _ (by omega)
  have hqi : (b : Int) % 48 = ((b % 48 : Nat) : Int) := by omega
  generalize hqq : b % 48 = q at *
  have HBQ := Lib.hid hbb
  have HQ := Lib.hid hqi
  clear hb255 hB hf hqq hbb hqi
  go_enter Try.func5, Try.ntmps5
  go_wp2
  generalize hW : w.alloc (.cells z48 5) = W0 at *
  generalize hg : w.heap.size = g at *
  have HG := Lib.hid hg
  clear hW hg hmk
  go_loopw [8] (fun i wr => ∃ k : Nat, k ≤ n ∧ k ≤ 48 ∧ i = .int .i64 k ∧ Pw W0 wr g) (fun i _ => 48 - (intOf i).toNat)
  case atStart => exact ⟨0, Nat.zero_le _, by omega, rfl, P0.out⟩
  case round =>
    obtain ⟨k, hk, hk48, rfl, hP⟩ := hrel
    have HP := Lib.hid hP
    by_cases hlt : k < n ∧ k < 48
    · obtain ⟨hkn, hk8⟩ := hlt
      obtain ⟨B, O, rfl, hB, hcells⟩ := HBB.out (by omega)
      obtain ⟨F, hU, hFb, hO⟩ := hP
      have hBg : B ≠ g := by have := HG.out; omega
      have hBw : B < W0.heap.size := by have h1 := HW0.out.size; have h2 := HG.out; omega
      have x0 : wr.cell? ⟨B, O + k, none⟩ = some (.int .u8 (f k)) := (hO.cell B (O + k) hBw hBg).trans ((HW0.out.cell (p := ⟨B, O + k, none⟩) (by have := HG.out; show B < g; omega)).trans (hcells k hkn))
      have hfk := HFF.out k hkn
      have cc := hU.c k hk8
      have ff := hU.fz k
      have l1 : (k : Int) < (n : Int) := by omega
      have l2 : (k : Int) < 48 := by omega
      have HS := Lib.hid (HP.out.set hk8 hfk.1 hfk.2)
      have y0 := hfk.1
      clear hU hFb hO hcells hfk
      generalize f k = y at *
      rcases (show k = 1 ∨ (k ≠ 1 ∧ 4 ≤ k ∧ k < 12) ∨ (k ≠ 1 ∧ 24 ≤ k) ∨ (k ≠ 1 ∧ k < 4) ∨ (k ≠ 1 ∧ 12 ≤ k ∧ k < 24) from by omega) with p | ⟨p, p1, p2⟩ | ⟨p, p1⟩ | ⟨p, p1⟩ | ⟨p, p1, p2⟩
      · have t1 : ((k : Int) == 1) = true := by simp [p]
        clear p
        go_wp2
        go_roundw
        case rel => exact ⟨k + 1, by omega, by omega, by go_num, HS.out⟩
        case measure => simp [intOf]; omega
      · have t1 : ((k : Int) == 1) = false := by simp; omega
        have t2 : decide ((4 : Int) ≤ (k : Int)) = true := by simp; omega
        have t3 : decide ((k : Int) < 12) = true := by simp; omega
        go_wp2
        go_roundw
        case rel => exact ⟨k + 1, by omega, by omega, by go_num, HS.out⟩
        case measure => simp [intOf]; omega
      · have t1 : ((k : Int) == 1) = false := by simp; omega
        have t2 : decide ((4 : Int) ≤ (k : Int)) = true := by simp; omega
        have t3 : decide ((k : Int) < 12) = false := by simp; omega
        have t4 : decide ((24 : Int) ≤ (k : Int)) = true := by simp; omega
        go_wp2
        go_roundw
        case rel => exact ⟨k + 1, by omega, by omega, by go_num, HS.out⟩
        case measure => simp [intOf]; omega
      · have t1 : ((k : Int) == 1) = false := by simp; omega
        have t2 : decide ((4 : Int) ≤ (k : Int)) = false := by simp; omega
        have t4 : decide ((24 : Int) ≤ (k : Int)) = false := by simp; omega
        go_wp2
        go_roundw
        case rel => exact ⟨k + 1, by omega, by omega, by go_num, HP.out⟩
        case measure => simp [intOf]; omega
      · have t1 : ((k : Int) == 1) = false := by simp; omega
        have t2 : decide ((4 : Int) ≤ (k : Int)) = true := by simp; omega
        have t3 : decide ((k : Int) < 12) = false := by simp; omega
        have t4 : decide ((24 : Int) ≤ (k : Int)) = false := by simp; omega
        go_wp2
        go_roundw
        case rel => exact ⟨k + 1, by omega, by omega, by go_num, HP.out⟩
        case measure => simp [intOf]; omega
    · obtain ⟨F, hU, hFb, hO⟩ := hP
      have tl : decide ((k : Int) < (n : Int)) = decide (k < n) := by simp
      have cc0 := hU.c 0 (by omega)
      have ff0 := hU.fz 0
      have U1 := hU.set (i := 0) (by omega) 35
      have hF1 : ∀ j, j < 48 → 0 ≤ upd8 F 0 35 j ∧ upd8 F 0 35 j ≤ 255 := fun j hj => by
        unfold upd8
        split
        · omega
        · exact hFb j hj
      have O1 := hO.setB (o := 0) (.int .u8 35)
      have cq := U1.c q hq0
      have fq := U1.fz q
      have U2 := U1.set (i := q) hq0 (bits .xor .u8 (upd8 F 0 35 q) by')
      have hF2 : ∀ j, j < 48 → 0 ≤ upd8 (upd8 F 0 35) q (bits .xor .u8 (upd8 F 0 35 q) by') j ∧ upd8 (upd8 F 0 35) q (bits .xor .u8 (upd8 F 0 35 q) by') j ≤ 255 := fun j hj => by
        have h1 := hF1 j hj
        have h2 := xor8_bd (upd8 F 0 35 q) by'
        generalize bits .xor .u8 (upd8 F 0 35 q) by' = yy at *
        generalize upd8 F 0 35 = G at *
        unfold upd8
        split
        · exact h2
        · exact h1
      have O2 := O1.setB (o := q) (.int .u8 (bits .xor .u8 (upd8 F 0 35 q) by'))
      have hbb := HBQ.out
      have hqi := HQ.out
      have lq : (q : Int) < 48 := by omega
      have HU2 := Lib.hid U2
      have HF2 := Lib.hid hF2
      have HO2 := Lib.hid O2
      clear hU hFb hO U1 hF1 O1 U2 hF2 O2
      generalize upd8 F 0 35 q = y at *
      generalize (upd8 (upd8 F 0 35) q (bits .xor .u8 y by')) = FF at *
      have hend : (k < n ∧ k = 48) ∨ (¬ k < n) := by omega
      rcases hend with ⟨hkn, rfl⟩ | hkn
      · have t0 : decide ((48 : Int) < (n : Int)) = true := by simp; omega
        go_upto_region 10 with (fail)
        generalize (wr.setCell ⟨g, 0, none⟩ (.int .u8 35)).setCell ⟨g, q, none⟩ (.int .u8 (bits .xor .u8 y by')) = W2 at *
        clear cc0 ff0 cq fq hbb hqi lq HQ HBQ HP tl t0 hkn hlt
        have k0 := HU2.out.c 0 (by omega)
        have k2 := HU2.out.c 2 (by omega)
        have k3 := HU2.out.c 3 (by omega)
        have HD := Lib.hid (decOk_rK FF HF2.out)
        have HE0 := Lib.hid (show rK FF 0 = rB FF from by simp [rK, zK])
        have HRB : Hid (rB FF = ((FF 2 == 0) && ((FF 3 == 0) && ((bits .and .u8 (FF 0) 56 == 32) && ((bits .and .u8 (FF 0) 7 == 3) || (bits .and .u8 (FF 0) 7 == 4)))))) := Lib.hid rfl
        have hbnd := HF2.out 0 (by omega)
        have HBL : Hid (Below w.heap.size w W2) := Lib.hid (by have h1 := HW0.out; have h2 := HO2.out; rw [← HG.out] at h1 h2; exact h1.trans (h2.below (Nat.le_refl _) h1.size))
        have hgl := HU2.out.lt
        clear hbnd HO2 P0 HW0
        cases e2 : (FF 2 == 0)
        case' true => cases e3 : (FF 3 == 0)
        case' true.true => cases e4 : (bits .and .u8 (FF 0) 56 == 32)
        case' true.true.true => cases e5 : (bits .and .u8 (FF 0) 7 == 3)
        case' true.true.true.false => cases e6 : (bits .and .u8 (FF 0) 7 == 4)
        all_goals
          have HRX := HRB.out
          simp only [*, Bool.true_and, Bool.false_and, Bool.and_true, Bool.or_true, Bool.true_or, Bool.false_or] at HRX
          have HR := Lib.hid (HE0.out.trans HRX)
          clear HRX HRB HE0
          go_wp2
          clear e2 k0 k2 k3
          (try clear e3)
          (try clear e4)
          (try clear e5)
          (try clear e6)
          go_loop [10, 11] (fun r i => ∃ j : Nat, 12 ≤ j ∧ j ≤ 24 ∧ i = .int .i64 j ∧ r = .bool (rK FF (j - 12))) (fun _ i => 24 - (intOf i).toNat)
          case atStart => exact ⟨12, by omega, by omega, rfl, by rw [show 12 - 12 = 0 from rfl, HR.out]⟩
          case round =>
            obtain ⟨j, hj1, hj2, rfl, rfl⟩ := hrel
            by_cases hj : j < 24
            · have lj : (j : Int) < 24 := by omega
              have lj2 : (j : Int) < 48 := by omega
              have cj := HU2.out.c j (by omega)
              have HS := Lib.hid (rK_step FF j hj1)
              generalize rK FF (j - 12) = rr at *
              generalize FF j = fj at *
              cases rr
              · go_wp2
                go_round
                case rel => exact ⟨j + 1, by omega, by omega, by go_num, by rw [HS.out]; rfl⟩
                case measure => simp [intOf]; omega
              · cases hz : (fj == 0)
                · have HZ := Lib.hid hz
                  go_wp2
                  go_round
                  case rel => exact ⟨j + 1, by omega, by omega, by go_num, by rw [HS.out, HZ.out]; rfl⟩
                  case measure => simp [intOf]; omega
                · have HZ := Lib.hid hz
                  go_wp2
                  go_round
                  case rel => exact ⟨j + 1, by omega, by omega, by go_num, by rw [HS.out, HZ.out]; rfl⟩
                  case measure => simp [intOf]; omega
            · obtain rfl : j = 24 := by omega
              have CD := Lib.hid (pk_dec g 0 48 FF W2 hgl (fun j hj => by rw [Nat.zero_add]; exact HU2.out.c j hj) HF2.out (by omega))
              have HDD : Hid (decOk FF = rK FF (24 - 12)) := HD
              have HOK : Hid (decOk FF = true → isP (dL FF) (dM FF) (FF 1) (dD FF) (dR FF) = true ∧ eqB 48 (encF (dL FF) (dM FF) (FF 1) (dD FF) (dR FF) (dO FF) (dV FF) (dT FF)) 48 FF = true) := Lib.hid (fun h => by unfold decOk at h; simpa using h)
              have nO : Hid (0 ≤ dO FF ∧ dO FF < 18446744073709551616) := Lib.hid (numK_bd _ 8 (fun j hj => HF2.out (24 + j) (by omega)))
              have nV : Hid (0 ≤ dV FF ∧ dV FF < 18446744073709551616) := Lib.hid (numK_bd _ 8 (fun j hj => HF2.out (32 + j) (by omega)))
              have nT : Hid (0 ≤ dT FF ∧ dT FF < 18446744073709551616) := Lib.hid (numK_bd _ 8 (fun j hj => HF2.out (40 + j) (by omega)))
              have zb := HBL.out.size
              clear hj hj1 hj2
              cases hrr : rK FF (24 - 12)
              · rw [hrr] at HDD
                clear hrr HR HD
                go_wp2_with fail
                refine CD.out.mono ?_; rintro e w3 ⟨_, he, hb3⟩
                have he' := he HDD.out
                subst he'
                have HB3 := HBL.out.trans (hb3.mono zb)
                have z3 := HB3.size
                have X := Box8.new w3 0 0 0 0 0 0 0 0
                obtain ⟨c0, c1, c2, c3, c4, c5, c6, c7, _⟩ := X
                clear he hb3 HOK nO nV nT CD HDD
                go_wp2_with (go_at_call 10; refine (known6 _).mono ?_; rintro e w9 ⟨rfl, hb9⟩; obtain ⟨hc9, hf9⟩ := bcell hb9; have hz9 := hb9.size; (try simp only [World.size_alloc, World.size_setCell, World.heap_drewN] at hb9 hc9 hf9 hz9); (try have ha09 : w.heap.size < w9.heap.size := by omega); (try have ha19 : w.heap.size + 1 < w9.heap.size := by omega); (try have ha29 : w.heap.size + 2 < w9.heap.size := by omega); (try have hal9 : w.heap.size ≤ w9.heap.size := by omega); (try have ham9 : w.heap.size < w9.heap.size + 2 := by omega))
                go_ret
                go_light
                exact ⟨rfl, by (repeat' (first | (with_reducible exact Below.refl _ _) | (with_reducible assumption) | (with_reducible refine Below.trans ?_ (Below.mono (by with_reducible assumption) ?_)) | (with_reducible refine Below.alloc ?_ ?_ _) | (with_reducible refine Below.setCell ?_ ?_ _) | (with_reducible refine below_drewN ?_ _) | (with_reducible refine Below.drew ?_) | go_size))⟩
              · rw [hrr] at HDD
                obtain ⟨hP, hEQ⟩ := HOK.out HDD.out
                have CE := Lib.hid (fun w => pk_enc_yes (dL FF) (dM FF) (FF 1) (dD FF) (dR FF) (dO FF) (dV FF) (dT FF) w hP nO.out.1 nO.out.2 nV.out.1 nV.out.2 nT.out.1 nT.out.2)
                have HEQ := Lib.hid hEQ
                clear hrr HR HD hP hEQ HOK nO nV nT
                go_wp2_with fail
                refine CD.out.mono ?_; rintro e w3 ⟨he, _, hb3⟩
                have he' := he HDD.out
                subst he'
                have HB3 := HBL.out.trans (hb3.mono zb)
                have z3 := HB3.size
                have U3 := Lib.hid ((HU2.out.below hb3 hgl).alloc (pkO (dL FF) (dM FF) (FF 1) (dD FF) (dR FF) (dO FF) (dV FF) (dT FF)))
                have X := Box8.new w3 (dL FF) (dM FF) (FF 1) (dD FF) (dR FF) (dO FF) (dV FF) (dT FF)
                have HB4 := Lib.hid (HB3.alloc z3 (pkO (dL FF) (dM FF) (FF 1) (dD FF) (dR FF) (dO FF) (dV FF) (dT FF)))
                obtain ⟨c0, c1, c2, c3, c4, c5, c6, c7, _⟩ := X
                clear he hb3 CD HDD HB3
                go_wp2_with fail
                refine (CE.out _).mono ?_; rintro e w4 ⟨g2, rfl, _, hU4, hb4⟩
                have HB5 := HB4.out.trans (hb4.mono HB4.out.size)
                have U5 := U3.out.below hb4 U3.out.lt
                have CS := Lib.hid (same6 (some ⟨g2, 0, none⟩) 48 48 (encF (dL FF) (dM FF) (FF 1) (dD FF) (dR FF) (dO FF) (dV FF) (dT FF)) (some ⟨g, 0, none⟩) 48 48 FF w4 (by omega) (by omega) hU4.bytes U5.bytes)
                rw [HEQ.out] at CS
                have z5 := HB5.size
                clear hb4 hU4 U5 U3 HB4 c0 c1 c2 c3 c4 c5 c6 c7 CE HEQ
                go_wp2_with fail
                refine CS.out.mono ?_; rintro e w5 ⟨rfl, nq, rfl⟩
                have HB6 := below_drewN HB5 nq
                have z6 := HB6.size
                generalize w4.drewN nq = w6 at *
                clear CS HB5
                go_wp2_with (go_at_call 10; refine (known6 _).mono ?_; rintro e w9 ⟨rfl, hb9⟩; obtain ⟨hc9, hf9⟩ := bcell hb9; have hz9 := hb9.size; (try simp only [World.size_alloc, World.size_setCell, World.heap_drewN] at hb9 hc9 hf9 hz9); (try have ha09 : w.heap.size < w9.heap.size := by omega); (try have ha19 : w.heap.size + 1 < w9.heap.size := by omega); (try have ha29 : w.heap.size + 2 < w9.heap.size := by omega); (try have hal9 : w.heap.size ≤ w9.heap.size := by omega); (try have ham9 : w.heap.size < w9.heap.size + 2 := by omega))
                go_ret
                go_light
                exact ⟨rfl, by (repeat' (first | (with_reducible exact Below.refl _ _) | (with_reducible assumption) | (with_reducible refine Below.trans ?_ (Below.mono (by with_reducible assumption) ?_)) | (with_reducible refine Below.alloc ?_ ?_ _) | (with_reducible refine Below.setCell ?_ ?_ _) | (with_reducible refine below_drewN ?_ _) | (with_reducible refine Below.drew ?_) | go_size))⟩
      · have t0 : decide ((k : Int) < (n : Int)) = false := by simp; omega
        go_upto_region 10 with (fail)
        generalize (wr.setCell ⟨g, 0, none⟩ (.int .u8 35)).setCell ⟨g, q, none⟩ (.int .u8 (bits .xor .u8 y by')) = W2 at *
        clear cc0 ff0 cq fq hbb hqi lq HQ HBQ HP tl t0 hkn hlt
        have k0 := HU2.out.c 0 (by omega)
        have k2 := HU2.out.c 2 (by omega)
        have k3 := HU2.out.c 3 (by omega)
        have HD := Lib.hid (decOk_rK FF HF2.out)
        have HE0 := Lib.hid (show rK FF 0 = rB FF from by simp [rK, zK])
        have HRB : Hid (rB FF = ((FF 2 == 0) && ((FF 3 == 0) && ((bits .and .u8 (FF 0) 56 == 32) && ((bits .and .u8 (FF 0) 7 == 3) || (bits .and .u8 (FF 0) 7 == 4)))))) := Lib.hid rfl
        have hbnd := HF2.out 0 (by omega)
        have HBL : Hid (Below w.heap.size w W2) := Lib.hid (by have h1 := HW0.out; have h2 := HO2.out; rw [← HG.out] at h1 h2; exact h1.trans (h2.below (Nat.le_refl _) h1.size))
        have hgl := HU2.out.lt
        clear hbnd HO2 P0 HW0
        cases e2 : (FF 2 == 0)
        case' true => cases e3 : (FF 3 == 0)
        case' true.true => cases e4 : (bits .and .u8 (FF 0) 56 == 32)
        case' true.true.true => cases e5 : (bits .and .u8 (FF 0) 7 == 3)
        case' true.true.true.false => cases e6 : (bits .and .u8 (FF 0) 7 == 4)
        all_goals
          have HRX := HRB.out
          simp only [*, Bool.true_and, Bool.false_and, Bool.and_true, Bool.or_true, Bool.true_or, Bool.false_or] at HRX
          have HR := Lib.hid (HE0.out.trans HRX)
          clear HRX HRB HE0
          go_wp2
          clear e2 k0 k2 k3
          (try clear e3)
          (try clear e4)
          (try clear e5)
          (try clear e6)
          go_loop [10, 11] (fun r i => ∃ j : Nat, 12 ≤ j ∧ j ≤ 24 ∧ i = .int .i64 j ∧ r = .bool (rK FF (j - 12))) (fun _ i => 24 - (intOf i).toNat)
          case atStart => exact ⟨12, by omega, by omega, rfl, by rw [show 12 - 12 = 0 from rfl, HR.out]⟩
          case round =>
            obtain ⟨j, hj1, hj2, rfl, rfl⟩ := hrel
            by_cases hj : j < 24
            · have lj : (j : Int) < 24 := by omega
              have lj2 : (j : Int) < 48 := by omega
              have cj := HU2.out.c j (by omega)
              have HS := Lib.hid (rK_step FF j hj1)
              generalize rK FF (j - 12) = rr at *
              generalize FF j = fj at *
              cases rr
              · go_wp2
                go_round
                case rel => exact ⟨j + 1, by omega, by omega, by go_num, by rw [HS.out]; rfl⟩
                case measure => simp [intOf]; omega
              · cases hz : (fj == 0)
                · have HZ := Lib.hid hz
                  go_wp2
                  go_round
                  case rel => exact ⟨j + 1, by omega, by omega, by go_num, by rw [HS.out, HZ.out]; rfl⟩
                  case measure => simp [intOf]; omega
                · have HZ := Lib.hid hz
                  go_wp2
                  go_round
                  case rel => exact ⟨j + 1, by omega, by omega, by go_num, by rw [HS.out, HZ.out]; rfl⟩
                  case measure => simp [intOf]; omega
            · obtain rfl : j = 24 := by omega
              have CD := Lib.hid (pk_dec g 0 48 FF W2 hgl (fun j hj => by rw [Nat.zero_add]; exact HU2.out.c j hj) HF2.out (by omega))
              have HDD : Hid (decOk FF = rK FF (24 - 12)) := HD
              have HOK : Hid (decOk FF = true → isP (dL FF) (dM FF) (FF 1) (dD FF) (dR FF) = true ∧ eqB 48 (encF (dL FF) (dM FF) (FF 1) (dD FF) (dR FF) (dO FF) (dV FF) (dT FF)) 48 FF = true) := Lib.hid (fun h => by unfold decOk at h; simpa using h)
              have nO : Hid (0 ≤ dO FF ∧ dO FF < 18446744073709551616) := Lib.hid (numK_bd _ 8 (fun j hj => HF2.out (24 + j) (by omega)))
              have nV : Hid (0 ≤ dV FF ∧ dV FF < 18446744073709551616) := Lib.hid (numK_bd _ 8 (fun j hj => HF2.out (32 + j) (by omega)))
              have nT : Hid (0 ≤ dT FF ∧ dT FF < 18446744073709551616) := Lib.hid (numK_bd _ 8 (fun j hj => HF2.out (40 + j) (by omega)))
              have zb := HBL.out.size
              clear hj hj1 hj2
              cases hrr : rK FF (24 - 12)
              · rw [hrr] at HDD
                clear hrr HR HD
                go_wp2_with fail
                refine CD.out.mono ?_; rintro e w3 ⟨_, he, hb3⟩
                have he' := he HDD.out
                subst he'
                have HB3 := HBL.out.trans (hb3.mono zb)
                have z3 := HB3.size
                have X := Box8.new w3 0 0 0 0 0 0 0 0
                obtain ⟨c0, c1, c2, c3, c4, c5, c6, c7, _⟩ := X
                clear he hb3 HOK nO nV nT CD HDD
                go_wp2_with (go_at_call 10; refine (known6 _).mono ?_; rintro e w9 ⟨rfl, hb9⟩; obtain ⟨hc9, hf9⟩ := bcell hb9; have hz9 := hb9.size; (try simp only [World.size_alloc, World.size_setCell, World.heap_drewN] at hb9 hc9 hf9 hz9); (try have ha09 : w.heap.size < w9.heap.size := by omega); (try have ha19 : w.heap.size + 1 < w9.heap.size := by omega); (try have ha29 : w.heap.size + 2 < w9.heap.size := by omega); (try have hal9 : w.heap.size ≤ w9.heap.size := by omega); (try have ham9 : w.heap.size < w9.heap.size + 2 := by omega))
                go_ret
                go_light
                exact ⟨rfl, by (repeat' (first | (with_reducible exact Below.refl _ _) | (with_reducible assumption) | (with_reducible refine Below.trans ?_ (Below.mono (by with_reducible assumption) ?_)) | (with_reducible refine Below.alloc ?_ ?_ _) | (with_reducible refine Below.setCell ?_ ?_ _) | (with_reducible refine below_drewN ?_ _) | (with_reducible refine Below.drew ?_) | go_size))⟩
              · rw [hrr] at HDD
                obtain ⟨hP, hEQ⟩ := HOK.out HDD.out
                have CE := Lib.hid (fun w => pk_enc_yes (dL FF) (dM FF) (FF 1) (dD FF) (dR FF) (dO FF) (dV FF) (dT FF) w hP nO.out.1 nO.out.2 nV.out.1 nV.out.2 nT.out.1 nT.out.2)
                have HEQ := Lib.hid hEQ
                clear hrr HR HD hP hEQ HOK nO nV nT
                go_wp2_with fail
                refine CD.out.mono ?_; rintro e w3 ⟨he, _, hb3⟩
                have he' := he HDD.out
                subst he'
                have HB3 := HBL.out.trans (hb3.mono zb)
                have z3 := HB3.size
                have U3 := Lib.hid ((HU2.out.below hb3 hgl).alloc (pkO (dL FF) (dM FF) (FF 1) (dD FF) (dR FF) (dO FF) (dV FF) (dT FF)))
                have X := Box8.new w3 (dL FF) (dM FF) (FF 1) (dD FF) (dR FF) (dO FF) (dV FF) (dT FF)
                have HB4 := Lib.hid (HB3.alloc z3 (pkO (dL FF) (dM FF) (FF 1) (dD FF) (dR FF) (dO FF) (dV FF) (dT FF)))
                obtain ⟨c0, c1, c2, c3, c4, c5, c6, c7, _⟩ := X
                clear he hb3 CD HDD HB3
                go_wp2_with fail
                refine (CE.out _).mono ?_; rintro e w4 ⟨g2, rfl, _, hU4, hb4⟩
                have HB5 := HB4.out.trans (hb4.mono HB4.out.size)
                have U5 := U3.out.below hb4 U3.out.lt
                have CS := Lib.hid (same6 (some ⟨g2, 0, none⟩) 48 48 (encF (dL FF) (dM FF) (FF 1) (dD FF) (dR FF) (dO FF) (dV FF) (dT FF)) (some ⟨g, 0, none⟩) 48 48 FF w4 (by omega) (by omega) hU4.bytes U5.bytes)
                rw [HEQ.out] at CS
                have z5 := HB5.size
                clear hb4 hU4 U5 U3 HB4 c0 c1 c2 c3 c4 c5 c6 c7 CE HEQ
                go_wp2_with fail
                refine CS.out.mono ?_; rintro e w5 ⟨rfl, nq, rfl⟩
                have HB6 := below_drewN HB5 nq
                have z6 := HB6.size
                generalize w4.drewN nq = w6 at *
                clear CS HB5
                go_wp2_with (go_at_call 10; refine (known6 _).mono ?_; rintro e w9 ⟨rfl, hb9⟩; obtain ⟨hc9, hf9⟩ := bcell hb9; have hz9 := hb9.size; (try simp only [World.size_alloc, World.size_setCell, World.heap_drewN] at hb9 hc9 hf9 hz9); (try have ha09 : w.heap.size < w9.heap.size := by omega); (try have ha19 : w.heap.size + 1 < w9.heap.size := by omega); (try have ha29 : w.heap.size + 2 < w9.heap.size := by omega); (try have hal9 : w.heap.size ≤ w9.heap.size := by omega); (try have ham9 : w.heap.size < w9.heap.size + 2 := by omega))
                go_ret
                go_light
                exact ⟨rfl, by (repeat' (first | (with_reducible exact Below.refl _ _) | (with_reducible assumption) | (with_reducible refine Below.trans ?_ (Below.mono (by with_reducible assumption) ?_)) | (with_reducible refine Below.alloc ?_ ?_ _) | (with_reducible refine Below.setCell ?_ ?_ _) | (with_reducible refine below_drewN ?_ _) | (with_reducible refine Below.drew ?_) | go_size))⟩
set_option maxRecDepth 100000 in
theorem packetBits_lifted (os : Os) (started : os.Started) (H : Type) (enc : TypeId × Value → H) :
    ReturnsInHanded {} Try.checked os 5 .any (Rows.packetBitsSpec.pre6 enc Try.prog Try.f5 Rows.packetBitsRow.domain false) (Rows.packetBitsSpec.post enc Try.prog Try.f5 false true false false) := by
  refine returnsInHanded_of_change_sized (C := Try.checked) law_own started (by kernel_rfl) Try.func5
    (ChangeSpec.witness6 (enc := enc) (C := Try.checked) false ⟨#[], #[.slice none 0 0, .int .i64 0, .int .u8 0], []⟩ 8 (by kernel_rfl) (by kernel_rfl) (by kernel_rfl) (by kernel_rfl)) ?_
  intro W base args ds gs before hval0 hW hcnd hsz0 _
  have hval : ∀ (j : Nat) t v, Try.f5.params[j]? = some t → args[j]? = some v → Value.okWide Try.prog W .any base t v := hval0
  have hsz : (DataW.weightsEach Try.prog (Try.f5.params.toList ++ Rows.packetBitsSpec.plain.varTypes Try.prog) (ds ++ gs)).all (· ≤ reachBytes) = true := hsz0
  have hW' := hW
  obtain ⟨p, q, hA0, hV, rfl, hfz, hnd⟩ := hW
  have hA : DataW.TrodAll enc Try.prog W 0 (fun _ => true) true Try.f5.params.toList args.toList ds p := hA0
  rw [Try.params5] at hA hval hsz
  have hsame : (Rows.packetBitsSpec.fn H (ds ++ gs)).results = [.lit (.bool true)] ∧ (Rows.packetBitsSpec.fn H (ds ++ gs)).args = ds ∧ (Rows.packetBitsSpec.fn H (ds ++ gs)).vars = [] → ∀ W', Below W.heap.size W W' → Rows.packetBitsSpec.post enc Try.prog Try.f5 false true false false W args (.bool true) W' :=
    fun h W' hb => law_post (tb := 4) hW' law_laid (by kernel_rfl) rfl Try.underlying4 h.1 h.2.1 rfl h.2.2 hb
  obtain ⟨v0, vs0, d0, ds0, p0, q0, hargs, rfl, rfl, h0, r0⟩ := trodAll_cons hA
  obtain ⟨v1, vs1, d1, ds1, p1, q1, rfl, rfl, rfl, h1, r1⟩ := trodAll_cons r0
  obtain ⟨v2, vs2, d2, ds2, p2, q2, rfl, rfl, rfl, h2, r2⟩ := trodAll_cons r1
  obtain ⟨rfl, rfl, rfl⟩ := trodAll_nil r2
  obtain rfl : args = #[v0, v1, v2] := by cases args; simp_all
  obtain ⟨rfl, rfl⟩ := trodVars_none hV
  have hpost := hsame ⟨rfl, rfl, rfl⟩
  clear hsame hA0 hval0 hsz0
  obtain ⟨A, n, c, f, rfl, _, hn, hB, hf, _⟩ := open_u8_slice (hval 0 25 v0 rfl rfl) h0
  obtain ⟨a1, rfl, rfl, rfl, wf1⟩ := open_int Try.underlying3 (hval 1 3 v1 rfl rfl) h1
  obtain ⟨a2, rfl, rfl, rfl, wf2⟩ := open_int Try.underlying5 (hval 2 5 v2 rfl rfl) h2
  exact (bits_law A n c f a1 a2 W hn hB hf).mono fun e W' ⟨he, hb⟩ => ⟨_, he, hpost W' hb⟩
theorem packetBits_holds : Rows.PacketBitsSaid :=
  OpenClaim.holds_of_wide 5 Try.f5 rfl rfl rfl rfl rfl rfl rfl ⟨rfl, rfl, rfl, rfl, rfl⟩ rfl rfl rfl rfl rfl (by kernel_rfl) Try.func5 (by kernel_rfl)
    (of_decide_eq_true (by kernel_rfl)) (by unfold Func.isWrapper; first | (rw [if_pos (by decide +kernel)]; kernel_rfl) | (rw [if_neg (by decide +kernel)]; exact ⟨rfl, rfl⟩))
    (fun os started H enc _ => packetBits_lifted os started H enc)
end Go.Proofs.Ytfllemmmgmdliaa
