/- Stage 22: TokenSaw: the law's walk (written by gen/toklaw.py). -/
import Derived.Test.YtcmoglbmngmgnaaDoorTokSaw
import Derived.Test.YtcmoglbmngmgnaaDoorTokPrt
import Derived.Test.YtcmoglbmngmgnaaDoorRef10Cmp
import Derived.Test.YtcmoglbmngmgnaaDoorCells
import Derived.BigGuard
import Derived.BigGuardPart
import Derived.BigCall
set_option linter.unusedSimpArgs false
set_option linter.unusedVariables false
namespace Go.Proofs.YtcmoglbmngmgnaaDoor
open Go.ChangeShapes Go.WideShapes Go.ChangeAt Go.RowKit Go.Joins Go.Sort

theorem and65535 (n : Int) : ∃ d : Nat, d ≤ 65535 ∧ bits .and .i64 n 65535 = (d : Int) := by
  show ∃ d : Nat, d ≤ 65535 ∧ IntKind.i64.wrap ((BitVec.ofInt 64 n &&& BitVec.ofInt 64 65535).toNat : Int) = (d : Int)
  have e2 : (BitVec.ofInt 64 65535).toNat = 2 ^ 16 - 1 := by decide
  have h1 : (BitVec.ofInt 64 n &&& BitVec.ofInt 64 65535).toNat ≤ 65535 := by
    rw [BitVec.toNat_and, e2]
    exact Nat.and_le_right
  exact ⟨_, h1, IntWalk.i64_in _ (by omega)⟩
theorem saw_long (A : Option Addr) (n c : Nat) (cut : Int) (w : World) (hm : n ≤ maxLen) (h : 200 < n) :
    Calls Tryd.prog 6 #[.slice A n c, .int .i64 cut] w fun e w' => e = .returned (.bool true) ∧ Below w.heap.size w w' := by
  have t1 : decide ((200 : Int) < (n : Int)) = true := by simp; omega
  unfold maxLen at hm
  go_enter Tryd.func6, Tryd.ntmps6
  go_wp2
  go_ret
  exact ⟨rfl, Below.refl _ _⟩
/-- What stands while the law goes on: the two tokens, the stamps. -/
structure TW (w wr : World) (A : Option Addr) (n : Nat) (p q : Nat → Int) (m1 c1 m2 c2 : Int) : Prop where
  a : Ints2 wr w.heap.size m1 c1
  b : Ints2 wr (w.heap.size + 1) m2 c2
  z : PairsAt wr A n p q
  bel : Below w.heap.size w wr
theorem TW.below {w wr wa : World} {A : Option Addr} {n : Nat} {p q : Nat → Int} {m1 c1 m2 c2 : Int} (h : TW w wr A n p q m1 c1 m2 c2) (k : Below wr.heap.size wr wa) : TW w wa A n p q m1 c1 m2 c2 :=
  ⟨h.a.below k h.a.lt, h.b.below k h.b.lt, h.z.below k, h.bel.trans (k.mono h.bel.size)⟩
theorem pairs_lt {w : World} {A : Option Addr} {n : Nat} {p q : Nat → Int} (h : PairsAt w A n p q) (h0 : 0 < n) : ∀ ad, A = some ad → ad.block < w.heap.size := fun ad had => by
  obtain ⟨B, O, e, hB, _⟩ := h h0
  rw [e] at had
  injection had with had
  subst had
  exact hB
theorem pairs_drop {w : World} {B O n k : Nat} {p q : Nat → Int} (h : PairsAt w (some ⟨B, O, none⟩) n p q) (hk : k ≤ n) : PairsAt w (some ⟨B, O + k * 2, none⟩) (n - k) (fun i => p (k + i)) (fun i => q (k + i)) := fun h0 => by
  obtain ⟨B', O', e, hB, hc⟩ := h (by omega)
  injection e with e
  injection e with e1 e2
  subst e1 e2
  refine ⟨B, O + k * 2, rfl, hB, fun j hj => ?_⟩
  have := hc (k + j) (by omega)
  rw [show O + k * 2 + j * 2 = O + (k + j) * 2 from by omega]
  exact this
set_option maxRecDepth 100000 in
set_option maxHeartbeats 8000000 in
theorem saw_add (B0 O0 : Nat) (n c : Nat) (cut : Int) (p q : Nat → Int) (w : World) (ht : Tb2 w) (hn : n ≤ 200) (hc : n ≤ c) (k : Nat) (hk : k ≤ n) (d : Nat) (hd : d ≤ 65535) (had : bits .and .i64 cut 65535 = (d : Int)) (hkd : d % (n + 1) = k) (hz : PairsAt w (some ⟨B0, O0, none⟩) n p q) (hck : ¬ c = k) :
    Calls Tryd.prog 6 #[.slice (some ⟨B0, O0, none⟩) n c, .int .i64 cut] w fun e w' => e = .returned (.bool true) ∧ Below w.heap.size w w' := by
  have t1 : decide ((200 : Int) < (n : Int)) = false := by simp; omega
  have hni : (n : Int) ≤ 200 := by omega
  have hki : (k : Int) ≤ (n : Int) := by omega
  have hkc : (k : Int) ≤ (c : Int) := by omega
  have hnc : (n : Int) ≤ (c : Int) := by omega
  have hk0 : (0 : Int) ≤ (k : Int) := by omega
  have hw1 : IntKind.i64.wrap ((n : Int) + 1) = (n : Int) + 1 := IntWalk.i64_in _ (by omega)
  have hrem : Int.tmod (d : Int) ((n : Int) + 1) = (k : Int) := by have q9 := Int.ofNat_tmod d (n + 1); rw [hkd] at q9; exact q9.symm
  have hrem2 : (d : Int) % ((n : Int) + 1) = (k : Int) := by exact_mod_cast hkd
  have hnz2 : ¬ (n : Int) + 1 = 0 := by omega
  have HZ := Lib.hid hz
  have HT := Lib.hid (fun (W : World) (kW : Below w.heap.size w W) => ht.below kW)
  have HB0 : Below w.heap.size w ((w.alloc (.cells #[.int .i64 0, .int .i64 0] 27)).alloc (.cells #[.int .i64 0, .int .i64 0] 27)) := by (repeat' (first | (with_reducible exact Below.refl _ _) | (with_reducible assumption) | (with_reducible refine Below.trans ?_ (Below.mono (by with_reducible assumption) ?_)) | (with_reducible refine Below.alloc ?_ ?_ _) | (with_reducible refine Below.setCell ?_ ?_ _) | (with_reducible refine below_drewN ?_ _) | (with_reducible refine Below.drew ?_) | go_size))
  have I1 : Ints2 ((w.alloc (.cells #[.int .i64 0, .int .i64 0] 27)).alloc (.cells #[.int .i64 0, .int .i64 0] 27)) (w.heap.size + 1) 0 0 := Ints2.new1 w _ 0 0 27
  have I0 : Ints2 ((w.alloc (.cells #[.int .i64 0, .int .i64 0] 27)).alloc (.cells #[.int .i64 0, .int .i64 0] 27)) w.heap.size 0 0 := (Ints2.new w 0 0 27).alloc _
  have TW0 := Lib.hid (TW.mk (p := p) (q := q) (A := (some ⟨B0, O0, none⟩)) (n := n) I0 I1 (hz.below HB0) HB0)
  have HLT : Hid (0 < n → ∀ ad, ((some ⟨B0, O0, none⟩) : Option Addr) = some ad → ad.block < w.heap.size) := Lib.hid (fun h0 => pairs_lt hz h0)
  have HC1 := Lib.hid (saw_any w.heap.size 0 0 p q (some ⟨B0, O0, none⟩) k c _ I0 (fun h0 => by
    obtain ⟨B', O', e, hB, hcc⟩ := (hz.below HB0) (by omega)
    exact ⟨B', O', e, hB, fun j hj => hcc j (by omega)⟩) (fun h0 ad had => by have := HLT.out (by omega) ad had; omega) (by omega))
  clear ht hz HB0 I0 I1 hd hkd
  go_enter Tryd.func6, Tryd.ntmps6
  go_wp2_with fail
  generalize (w.alloc (.cells #[.int .i64 0, .int .i64 0] 27)).alloc (.cells #[.int .i64 0, .int .i64 0] 27) = W0 at *
  refine HC1.out.mono ?_; rintro e W1 ⟨rfl, hO1, hI1⟩
  have TW1 : Hid (TW w W1 (some ⟨B0, O0, none⟩) n p q (swS 0 0 p q k).1 (swS 0 0 p q k).2 0 0) := Lib.hid ⟨hI1, TW0.out.b.only hO1 (by omega), HZ.out.below (TW0.out.bel.trans (hO1.below (Nat.le_refl _) TW0.out.bel.size)), TW0.out.bel.trans (hO1.below (Nat.le_refl _) TW0.out.bel.size)⟩
  have HC2 := Lib.hid (saw_any w.heap.size _ _ (fun i => p (k + i)) (fun i => q (k + i)) (some ⟨B0, O0 + k * 2, none⟩) (n - k) (c - k) W1 hI1 (pairs_drop TW1.out.z hk) (fun h0 ad had => by injection had with had; subst had; have := HLT.out (by omega) _ rfl; simp only at this ⊢; omega) (by omega))
  rw [swS_add, show k + (n - k) = n from by omega] at HC2
  clear hO1 hI1 HC1 TW0
  generalize (swS 0 0 p q k).1 = s1 at *
  generalize (swS 0 0 p q k).2 = s2 at *
  go_wp2_with fail
  refine HC2.out.mono ?_; rintro e W2 ⟨rfl, hO2, hI2⟩
  have hb2 := TW1.out.bel.trans (hO2.below (Nat.le_refl _) TW1.out.bel.size)
  have TW2 : Hid (TW w W2 (some ⟨B0, O0, none⟩) n p q (swS 0 0 p q n).1 (swS 0 0 p q n).2 0 0) := Lib.hid ⟨hI2, TW1.out.b.only hO2 (by omega), HZ.out.below hb2, hb2⟩
  have HC3 := Lib.hid (saw_any (w.heap.size + 1) 0 0 p q (some ⟨B0, O0, none⟩) n c W2 TW2.out.b TW2.out.z (fun h0 ad had => by have := HLT.out h0 ad had; omega) (by omega))
  clear hO2 hI2 HC2 TW1 hb2
  go_wp2_with fail
  refine HC3.out.mono ?_; rintro e W3 ⟨rfl, hO3, hI3⟩
  have hb3 := TW2.out.bel.trans (hO3.below (by omega) TW2.out.bel.size)
  have TW3 : Hid (TW w W3 (some ⟨B0, O0, none⟩) n p q (swS 0 0 p q n).1 (swS 0 0 p q n).2 (swS 0 0 p q n).1 (swS 0 0 p q n).2) := Lib.hid ⟨TW2.out.a.only hO3 (by omega), hI3, HZ.out.below hb3, hb3⟩
  have TW4 := Lib.hid (TW3.out.below ((Below.refl _ _).alloc (Nat.le_refl _) (.cells #[.int .i64 0, .int .i64 0] 23)))
  have IW : Hid (Ints2 (W3.alloc (.cells #[.int .i64 0, .int .i64 0] 23)) W3.heap.size 0 0) := Lib.hid (Ints2.new W3 0 0 23)
  have hbw : w.heap.size + 1 < W3.heap.size := TW3.out.b.lt
  have HLT3 : Hid (0 < n → ∀ ad, ((some ⟨B0, O0, none⟩) : Option Addr) = some ad → ad.block < W3.heap.size) := Lib.hid (fun h0 ad had => by have := HLT.out h0 ad had; omega)
  clear hO3 hI3 HC3 TW2 TW3 hb3 HLT
  obtain ⟨F1, hF1⟩ : ∃ F, (swS 0 0 p q n).1 = F := ⟨_, rfl⟩
  obtain ⟨F2, hF2⟩ : ∃ F, (swS 0 0 p q n).2 = F := ⟨_, rfl⟩
  rw [hF1, hF2] at TW4
  have HF := Lib.hid (And.intro hF1 hF2)
  clear hF1 hF2
  go_wp2_with fail
  generalize W3.alloc (.cells #[.int .i64 0, .int .i64 0] 23) = W4 at *
  generalize W3.heap.size = bw at *
  (try go_wp2)
  go_loopw [9] (fun i wr => ∃ j : Nat, j ≤ n ∧ i = .int .i64 j ∧ TW w wr (some ⟨B0, O0, none⟩) n p q F1 F2 F1 F2 ∧ Ints2 wr bw (swS 0 0 p q j).1 (swS 0 0 p q j).2) (fun i _ => n - (intOf i).toNat)
  case atStart => exact ⟨0, Nat.zero_le _, rfl, TW4.out, IW.out⟩
  case round =>
    obtain ⟨j, hj, rfl, hTW, hI⟩ := hrel
    clear TW4 IW
    by_cases hlt : j < n
    · have lj : (j : Int) < (n : Int) := by omega
      obtain ⟨B, O, hAe, hB, hcells⟩ := hTW.z (by omega)
      injection hAe with hAe; injection hAe with hA1 hA2; subst hA1 hA2
      have HS : Hid (swS 0 0 p q (j + 1) = (mx1 (swS 0 0 p q j).1 (swS 0 0 p q j).2 (p j) (q j), mx2 (swS 0 0 p q j).1 (swS 0 0 p q j).2 (p j) (q j))) := Lib.hid rfl
      have HKE : Hid (∀ W, Below wr.heap.size wr W → W.cell? ⟨B0, O0 + j * 2, none⟩ = some (.int .i64 (p j)) ∧ W.cell? ⟨B0, O0 + j * 2 + 1, none⟩ = some (.int .i64 (q j)) ∧ W.cell? ⟨bw, 0, none⟩ = some (.int .i64 (swS 0 0 p q j).1) ∧ W.cell? ⟨bw, 1, none⟩ = some (.int .i64 (swS 0 0 p q j).2)) := Lib.hid (fun W kW => ⟨(kW.cell (p := ⟨B0, O0 + j * 2, none⟩) hB).trans (hcells j hlt).1, (kW.cell (p := ⟨B0, O0 + j * 2 + 1, none⟩) hB).trans (hcells j hlt).2, (kW.cell (p := ⟨bw, 0, none⟩) hI.lt).trans hI.c0, (kW.cell (p := ⟨bw, 1, none⟩) hI.lt).trans hI.c1⟩)
      have HTW := Lib.hid hTW
      have HI := Lib.hid hI
      have hBn : B0 ≠ bw := by have := HLT3.out (by omega) _ rfl; simp only at this; omega
      clear hTW hI hcells hlt hB
      generalize (swS 0 0 p q j).1 = m1 at *
      generalize (swS 0 0 p q j).2 = c1 at *
      generalize p j = pj at *
      generalize q j = qj at *
      have HCM := Lib.hid (fun W => ref10_compare pj qj m1 c1 W)
      go_wp2_with fail
      refine wp_region_held_drew (S := fun W => W.cell? ⟨B0, O0 + j * 2, none⟩ = some (.int .i64 pj) ∧ W.cell? ⟨B0, O0 + j * 2 + 1, none⟩ = some (.int .i64 qj) ∧ W.cell? ⟨bw, 0, none⟩ = some (.int .i64 m1) ∧ W.cell? ⟨bw, 1, none⟩ = some (.int .i64 c1)) (by kernel_rfl) ?_ (fun hHeld => ?_)
      · exact HKE.out _ (show Below wr.heap.size wr wr.drew from (Below.refl _ _).drew)
      refine wpAnyH_take (i := 0) (v := ?_) rfl (by kernel_rfl) (by kernel_rfl) (by kernel_rfl) (fun _ _ _ h => h) (Or.inl ⟨by rfl, ?_⟩) (by assumption) ?_
      rotate_left
      · intro w' hSw; (try dsimp only at hSw); go_simp; (try with_reducible rfl)
      (try simp only [Act.put, List.setIfInBounds_toArray, List.set_cons_zero, List.set_cons_succ, List.getElem_toArray, List.getElem_cons_succ, List.getElem_cons_zero])
      refine wpAnyH_take (i := 1) (v := ?_) rfl (by kernel_rfl) (by kernel_rfl) (by kernel_rfl) (fun _ _ _ h => h) (Or.inl ⟨by rfl, ?_⟩) (by assumption) ?_
      rotate_left
      · intro w' hSw; (try dsimp only at hSw); go_simp; (try with_reducible rfl)
      (try simp only [Act.put, List.setIfInBounds_toArray, List.set_cons_zero, List.set_cons_succ, List.getElem_toArray, List.getElem_cons_succ, List.getElem_cons_zero])
      refine wpAnyH_take (i := 2) (v := ?_) rfl (by kernel_rfl) (by kernel_rfl) (by kernel_rfl) (fun _ _ _ h => h) (Or.inl ⟨by rfl, ?_⟩) (by assumption) ?_
      rotate_left
      · intro w' hSw; (try dsimp only at hSw); go_simp; (try with_reducible rfl)
      (try simp only [Act.put, List.setIfInBounds_toArray, List.set_cons_zero, List.set_cons_succ, List.getElem_toArray, List.getElem_cons_succ, List.getElem_cons_zero])
      refine wpAnyH_take (i := 3) (v := ?_) rfl (by kernel_rfl) (by kernel_rfl) (by kernel_rfl) (fun _ _ _ h => h) (Or.inl ⟨by rfl, ?_⟩) (by assumption) ?_
      rotate_left
      · intro w' hSw; (try dsimp only at hSw); go_simp; (try with_reducible rfl)
      (try simp only [Act.put, List.setIfInBounds_toArray, List.set_cons_zero, List.set_cons_succ, List.getElem_toArray, List.getElem_cons_succ, List.getElem_cons_zero])
      refine wpAnyH_take (i := 4) (v := ?_) rfl (by kernel_rfl) (by kernel_rfl) (by kernel_rfl) (fun _ _ _ h => h) (Or.inl ⟨by rfl, ?_⟩) (by assumption) ?_
      rotate_left
      · intro w' hSw; (try dsimp only at hSw); go_simp; (try with_reducible rfl)
      (try simp only [Act.put, List.setIfInBounds_toArray, List.set_cons_zero, List.set_cons_succ, List.getElem_toArray, List.getElem_cons_succ, List.getElem_cons_zero])
      refine wpAnyH_ready (rs := [5]) (by kernel_rfl) (by simp) ?_
      refine AllReadyH.cons rfl (fun K hK => ?_) AllReadyH.nil
      go_simp
      (go_at_call 15; refine (HCM.out _).mono ?_; rintro e V1 ⟨rfl, k1⟩; have KV : Below wr.heap.size wr V1 := (show Below wr.heap.size wr wr.drew from (Below.refl _ _).drew).trans k1)
      (try dsimp only)
      refine hK.out _ _ ?_ (fun hHeld => ?_)
      · exact HKE.out V1 KV
      clear hK K
      (try simp only [Act.put, List.setIfInBounds_toArray, List.set_cons_zero, List.set_cons_succ, List.getElem_toArray, List.getElem_cons_succ, List.getElem_cons_zero])
      refine wpAnyH_take (i := 6) (v := ?_) rfl (by kernel_rfl) (by kernel_rfl) (by kernel_rfl) (fun _ _ _ h => h) (Or.inl ⟨by rfl, ?_⟩) (by assumption) ?_
      rotate_left
      · intro w' hSw; (try dsimp only at hSw); go_simp; (try with_reducible rfl)
      (try simp only [Act.put, List.setIfInBounds_toArray, List.set_cons_zero, List.set_cons_succ, List.getElem_toArray, List.getElem_cons_succ, List.getElem_cons_zero])
      refine wpAnyH_done (by kernel_rfl) ?_ _
      have HTV := Lib.hid (HTW.out.below KV)
      have HIV := Lib.hid (HI.out.below KV HI.out.lt)
      have HKV := Lib.hid (HKE.out V1 KV)
      clear KV k1 HTW HI HKE HCM
      cases hg : gt2 m1 c1 pj qj
      · have hg' : decide (0 < cmp2 pj qj m1 c1) = false := hg
        have hp : ¬ (0 : Int) < cmp2 pj qj m1 c1 := of_decide_eq_false hg'
        have HN : Hid (mx1 m1 c1 pj qj = m1 ∧ mx2 m1 c1 pj qj = c1) := Lib.hid (by simp [mx1, mx2, hg])
        clear hg
        go_wp2
        go_roundw
        case rel => exact ⟨j + 1, by omega, by go_num, HTV.out, by rw [HS.out, HN.out.1, HN.out.2]; exact HIV.out⟩
        case measure => simp [intOf]; omega
      · have hg' : decide (0 < cmp2 pj qj m1 c1) = true := hg
        have hp : (0 : Int) < cmp2 pj qj m1 c1 := of_decide_eq_true hg'
        have HN : Hid (mx1 m1 c1 pj qj = pj ∧ mx2 m1 c1 pj qj = qj) := Lib.hid (by simp [mx1, mx2, hg])
        have HIF := Lib.hid ((HIV.out.set0 pj).set1 qj)
        have hO : Only bw V1 ((V1.setCell ⟨bw, 0, none⟩ (.int .i64 pj)).setCell ⟨bw, 1, none⟩ (.int .i64 qj)) := ((Only.refl _ V1).setB _).setB _
        have hbf := HTV.out.bel.trans (hO.below (by omega) HTV.out.bel.size)
        have HTF := Lib.hid (TW.mk (HTV.out.a.only hO (by omega)) (HTV.out.b.only hO (by omega)) (HZ.out.below hbf) hbf)
        obtain ⟨v0, v1, v2, v3⟩ := HKV.out
        obtain ⟨y0, y1, yf0, yf1, yl⟩ := HIV.out
        clear hg hO hbf
        go_wp2
        go_roundw
        case rel => exact ⟨j + 1, by omega, by go_num, HTF.out, by rw [HS.out, HN.out.1, HN.out.2]; exact HIF.out⟩
        case measure => simp [intOf]; omega
    · obtain rfl : j = n := by omega
      rw [HF.out.1, HF.out.2] at hI
      have HTW := Lib.hid hTW
      obtain ⟨x0, x1, _, _, xl⟩ := hTW.a
      obtain ⟨y0, y1, _, _, yl⟩ := hTW.b
      obtain ⟨z0, z1, _, _, zl⟩ := hI
      have HN := Lib.hid (fun W => saw_nil (some ⟨B0, O0, none⟩) j c W)
      clear hTW hlt
      go_wp2_with (first | (go_at_call 14; refine (HN.out _).mono ?_; rintro e V2 ⟨rfl, rfl⟩) | (go_at_call 10; refine (tok_known _ (HT.out _ HTW.out.bel)).mono ?_; rintro e V3 ⟨rfl, k3⟩; have HB3 := Lib.hid (HTW.out.bel.trans (k3.mono HTW.out.bel.size))))
      go_ret
      exact ⟨rfl, HB3.out⟩
set_option maxRecDepth 100000 in
set_option maxHeartbeats 8000000 in
theorem saw_eq (B0 O0 : Nat) (n : Nat) (cut : Int) (p q : Nat → Int) (w : World) (ht : Tb2 w) (hn : n ≤ 200) (hc : n ≤ n) (d : Nat) (hd : d ≤ 65535) (had : bits .and .i64 cut 65535 = (d : Int)) (hkd : d % (n + 1) = n) (hz : PairsAt w (some ⟨B0, O0, none⟩) n p q) :
    Calls Tryd.prog 6 #[.slice (some ⟨B0, O0, none⟩) n n, .int .i64 cut] w fun e w' => e = .returned (.bool true) ∧ Below w.heap.size w w' := by
  have t1 : decide ((200 : Int) < (n : Int)) = false := by simp; omega
  have hni : (n : Int) ≤ 200 := by omega
  have hki : (n : Int) ≤ (n : Int) := by omega
  have hkc : (n : Int) ≤ (n : Int) := by omega
  have hnc : (n : Int) ≤ (n : Int) := by omega
  have hk0 : (0 : Int) ≤ (n : Int) := by omega
  have hw1 : IntKind.i64.wrap ((n : Int) + 1) = (n : Int) + 1 := IntWalk.i64_in _ (by omega)
  have hrem : Int.tmod (d : Int) ((n : Int) + 1) = (n : Int) := by have q9 := Int.ofNat_tmod d (n + 1); rw [hkd] at q9; exact q9.symm
  have hrem2 : (d : Int) % ((n : Int) + 1) = (n : Int) := by exact_mod_cast hkd
  have hnz2 : ¬ (n : Int) + 1 = 0 := by omega
  have HZ := Lib.hid hz
  have HT := Lib.hid (fun (W : World) (kW : Below w.heap.size w W) => ht.below kW)
  have HB0 : Below w.heap.size w ((w.alloc (.cells #[.int .i64 0, .int .i64 0] 27)).alloc (.cells #[.int .i64 0, .int .i64 0] 27)) := by (repeat' (first | (with_reducible exact Below.refl _ _) | (with_reducible assumption) | (with_reducible refine Below.trans ?_ (Below.mono (by with_reducible assumption) ?_)) | (with_reducible refine Below.alloc ?_ ?_ _) | (with_reducible refine Below.setCell ?_ ?_ _) | (with_reducible refine below_drewN ?_ _) | (with_reducible refine Below.drew ?_) | go_size))
  have I1 : Ints2 ((w.alloc (.cells #[.int .i64 0, .int .i64 0] 27)).alloc (.cells #[.int .i64 0, .int .i64 0] 27)) (w.heap.size + 1) 0 0 := Ints2.new1 w _ 0 0 27
  have I0 : Ints2 ((w.alloc (.cells #[.int .i64 0, .int .i64 0] 27)).alloc (.cells #[.int .i64 0, .int .i64 0] 27)) w.heap.size 0 0 := (Ints2.new w 0 0 27).alloc _
  have TW0 := Lib.hid (TW.mk (p := p) (q := q) (A := (some ⟨B0, O0, none⟩)) (n := n) I0 I1 (hz.below HB0) HB0)
  have HLT : Hid (0 < n → ∀ ad, ((some ⟨B0, O0, none⟩) : Option Addr) = some ad → ad.block < w.heap.size) := Lib.hid (fun h0 => pairs_lt hz h0)
  have HC1 := Lib.hid (saw_any w.heap.size 0 0 p q (some ⟨B0, O0, none⟩) n n _ I0 (fun h0 => by
    obtain ⟨B', O', e, hB, hcc⟩ := (hz.below HB0) (by omega)
    exact ⟨B', O', e, hB, fun j hj => hcc j (by omega)⟩) (fun h0 ad had => by have := HLT.out (by omega) ad had; omega) (by omega))
  clear ht hz HB0 I0 I1 hd hkd hc hki hnc
  go_enter Tryd.func6, Tryd.ntmps6
  go_wp2_with fail
  generalize (w.alloc (.cells #[.int .i64 0, .int .i64 0] 27)).alloc (.cells #[.int .i64 0, .int .i64 0] 27) = W0 at *
  refine HC1.out.mono ?_; rintro e W1 ⟨rfl, hO1, hI1⟩
  have TW1 : Hid (TW w W1 (some ⟨B0, O0, none⟩) n p q (swS 0 0 p q n).1 (swS 0 0 p q n).2 0 0) := Lib.hid ⟨hI1, TW0.out.b.only hO1 (by omega), HZ.out.below (TW0.out.bel.trans (hO1.below (Nat.le_refl _) TW0.out.bel.size)), TW0.out.bel.trans (hO1.below (Nat.le_refl _) TW0.out.bel.size)⟩
  have HC2 := Lib.hid (saw_any w.heap.size _ _ (fun i => p (n + i)) (fun i => q (n + i)) (some ⟨B0, O0, none⟩) 0 0 W1 hI1 (fun h0 => absurd h0 (Nat.lt_irrefl 0)) (fun h0 ad had => by injection had with had; subst had; have := HLT.out (by omega) _ rfl; simp only at this ⊢; omega) (by omega))
  rw [swS_add, show n + 0 = n from rfl] at HC2
  clear hO1 hI1 HC1 TW0
  go_wp2_with fail
  refine HC2.out.mono ?_; rintro e W2 ⟨rfl, hO2, hI2⟩
  have hb2 := TW1.out.bel.trans (hO2.below (Nat.le_refl _) TW1.out.bel.size)
  have TW2 : Hid (TW w W2 (some ⟨B0, O0, none⟩) n p q (swS 0 0 p q n).1 (swS 0 0 p q n).2 0 0) := Lib.hid ⟨hI2, TW1.out.b.only hO2 (by omega), HZ.out.below hb2, hb2⟩
  have HC3 := Lib.hid (saw_any (w.heap.size + 1) 0 0 p q (some ⟨B0, O0, none⟩) n n W2 TW2.out.b TW2.out.z (fun h0 ad had => by have := HLT.out h0 ad had; omega) (by omega))
  clear hO2 hI2 HC2 TW1 hb2
  go_wp2_with fail
  refine HC3.out.mono ?_; rintro e W3 ⟨rfl, hO3, hI3⟩
  have hb3 := TW2.out.bel.trans (hO3.below (by omega) TW2.out.bel.size)
  have TW3 : Hid (TW w W3 (some ⟨B0, O0, none⟩) n p q (swS 0 0 p q n).1 (swS 0 0 p q n).2 (swS 0 0 p q n).1 (swS 0 0 p q n).2) := Lib.hid ⟨TW2.out.a.only hO3 (by omega), hI3, HZ.out.below hb3, hb3⟩
  have TW4 := Lib.hid (TW3.out.below ((Below.refl _ _).alloc (Nat.le_refl _) (.cells #[.int .i64 0, .int .i64 0] 23)))
  have IW : Hid (Ints2 (W3.alloc (.cells #[.int .i64 0, .int .i64 0] 23)) W3.heap.size 0 0) := Lib.hid (Ints2.new W3 0 0 23)
  have hbw : w.heap.size + 1 < W3.heap.size := TW3.out.b.lt
  have HLT3 : Hid (0 < n → ∀ ad, ((some ⟨B0, O0, none⟩) : Option Addr) = some ad → ad.block < W3.heap.size) := Lib.hid (fun h0 ad had => by have := HLT.out h0 ad had; omega)
  clear hO3 hI3 HC3 TW2 TW3 hb3 HLT
  obtain ⟨F1, hF1⟩ : ∃ F, (swS 0 0 p q n).1 = F := ⟨_, rfl⟩
  obtain ⟨F2, hF2⟩ : ∃ F, (swS 0 0 p q n).2 = F := ⟨_, rfl⟩
  rw [hF1, hF2] at TW4
  have HF := Lib.hid (And.intro hF1 hF2)
  clear hF1 hF2
  go_wp2_with fail
  generalize W3.alloc (.cells #[.int .i64 0, .int .i64 0] 23) = W4 at *
  generalize W3.heap.size = bw at *
  (try go_wp2)
  clear had hrem hrem2 hnz2 hw1 hkc hk0 t1
  go_loopw [9] (fun i wr => ∃ j : Nat, j ≤ n ∧ i = .int .i64 j ∧ TW w wr (some ⟨B0, O0, none⟩) n p q F1 F2 F1 F2 ∧ Ints2 wr bw (swS 0 0 p q j).1 (swS 0 0 p q j).2) (fun i _ => n - (intOf i).toNat)
  case atStart => exact ⟨0, Nat.zero_le _, rfl, TW4.out, IW.out⟩
  case round =>
    obtain ⟨j, hj, rfl, hTW, hI⟩ := hrel
    clear TW4 IW
    by_cases hlt : j < n
    · have lj : (j : Int) < (n : Int) := by omega
      obtain ⟨B, O, hAe, hB, hcells⟩ := hTW.z (by omega)
      injection hAe with hAe; injection hAe with hA1 hA2; subst hA1 hA2
      have HS : Hid (swS 0 0 p q (j + 1) = (mx1 (swS 0 0 p q j).1 (swS 0 0 p q j).2 (p j) (q j), mx2 (swS 0 0 p q j).1 (swS 0 0 p q j).2 (p j) (q j))) := Lib.hid rfl
      have HKE : Hid (∀ W, Below wr.heap.size wr W → W.cell? ⟨B0, O0 + j * 2, none⟩ = some (.int .i64 (p j)) ∧ W.cell? ⟨B0, O0 + j * 2 + 1, none⟩ = some (.int .i64 (q j)) ∧ W.cell? ⟨bw, 0, none⟩ = some (.int .i64 (swS 0 0 p q j).1) ∧ W.cell? ⟨bw, 1, none⟩ = some (.int .i64 (swS 0 0 p q j).2)) := Lib.hid (fun W kW => ⟨(kW.cell (p := ⟨B0, O0 + j * 2, none⟩) hB).trans (hcells j hlt).1, (kW.cell (p := ⟨B0, O0 + j * 2 + 1, none⟩) hB).trans (hcells j hlt).2, (kW.cell (p := ⟨bw, 0, none⟩) hI.lt).trans hI.c0, (kW.cell (p := ⟨bw, 1, none⟩) hI.lt).trans hI.c1⟩)
      have HTW := Lib.hid hTW
      have HI := Lib.hid hI
      have hBn : B0 ≠ bw := by have := HLT3.out (by omega) _ rfl; simp only at this; omega
      clear hTW hI hcells hlt hB
      generalize (swS 0 0 p q j).1 = m1 at *
      generalize (swS 0 0 p q j).2 = c1 at *
      generalize p j = pj at *
      generalize q j = qj at *
      have HCM := Lib.hid (fun W => ref10_compare pj qj m1 c1 W)
      go_wp2_with fail
      refine wp_region_held_drew (S := fun W => W.cell? ⟨B0, O0 + j * 2, none⟩ = some (.int .i64 pj) ∧ W.cell? ⟨B0, O0 + j * 2 + 1, none⟩ = some (.int .i64 qj) ∧ W.cell? ⟨bw, 0, none⟩ = some (.int .i64 m1) ∧ W.cell? ⟨bw, 1, none⟩ = some (.int .i64 c1)) (by kernel_rfl) ?_ (fun hHeld => ?_)
      · exact HKE.out _ (show Below wr.heap.size wr wr.drew from (Below.refl _ _).drew)
      refine wpAnyH_take (i := 0) (v := ?_) rfl (by kernel_rfl) (by kernel_rfl) (by kernel_rfl) (fun _ _ _ h => h) (Or.inl ⟨by rfl, ?_⟩) (by assumption) ?_
      rotate_left
      · intro w' hSw; (try dsimp only at hSw); go_simp; (try with_reducible rfl)
      (try simp only [Act.put, List.setIfInBounds_toArray, List.set_cons_zero, List.set_cons_succ, List.getElem_toArray, List.getElem_cons_succ, List.getElem_cons_zero])
      refine wpAnyH_take (i := 1) (v := ?_) rfl (by kernel_rfl) (by kernel_rfl) (by kernel_rfl) (fun _ _ _ h => h) (Or.inl ⟨by rfl, ?_⟩) (by assumption) ?_
      rotate_left
      · intro w' hSw; (try dsimp only at hSw); go_simp; (try with_reducible rfl)
      (try simp only [Act.put, List.setIfInBounds_toArray, List.set_cons_zero, List.set_cons_succ, List.getElem_toArray, List.getElem_cons_succ, List.getElem_cons_zero])
      refine wpAnyH_take (i := 2) (v := ?_) rfl (by kernel_rfl) (by kernel_rfl) (by kernel_rfl) (fun _ _ _ h => h) (Or.inl ⟨by rfl, ?_⟩) (by assumption) ?_
      rotate_left
      · intro w' hSw; (try dsimp only at hSw); go_simp; (try with_reducible rfl)
      (try simp only [Act.put, List.setIfInBounds_toArray, List.set_cons_zero, List.set_cons_succ, List.getElem_toArray, List.getElem_cons_succ, List.getElem_cons_zero])
      refine wpAnyH_take (i := 3) (v := ?_) rfl (by kernel_rfl) (by kernel_rfl) (by kernel_rfl) (fun _ _ _ h => h) (Or.inl ⟨by rfl, ?_⟩) (by assumption) ?_
      rotate_left
      · intro w' hSw; (try dsimp only at hSw); go_simp; (try with_reducible rfl)
      (try simp only [Act.put, List.setIfInBounds_toArray, List.set_cons_zero, List.set_cons_succ, List.getElem_toArray, List.getElem_cons_succ, List.getElem_cons_zero])
      refine wpAnyH_take (i := 4) (v := ?_) rfl (by kernel_rfl) (by kernel_rfl) (by kernel_rfl) (fun _ _ _ h => h) (Or.inl ⟨by rfl, ?_⟩) (by assumption) ?_
      rotate_left
      · intro w' hSw; (try dsimp only at hSw); go_simp; (try with_reducible rfl)
      (try simp only [Act.put, List.setIfInBounds_toArray, List.set_cons_zero, List.set_cons_succ, List.getElem_toArray, List.getElem_cons_succ, List.getElem_cons_zero])
      refine wpAnyH_ready (rs := [5]) (by kernel_rfl) (by simp) ?_
      refine AllReadyH.cons rfl (fun K hK => ?_) AllReadyH.nil
      go_simp
      (go_at_call 15; refine (HCM.out _).mono ?_; rintro e V1 ⟨rfl, k1⟩; have KV : Below wr.heap.size wr V1 := (show Below wr.heap.size wr wr.drew from (Below.refl _ _).drew).trans k1)
      (try dsimp only)
      refine hK.out _ _ ?_ (fun hHeld => ?_)
      · exact HKE.out V1 KV
      clear hK K
      (try simp only [Act.put, List.setIfInBounds_toArray, List.set_cons_zero, List.set_cons_succ, List.getElem_toArray, List.getElem_cons_succ, List.getElem_cons_zero])
      refine wpAnyH_take (i := 6) (v := ?_) rfl (by kernel_rfl) (by kernel_rfl) (by kernel_rfl) (fun _ _ _ h => h) (Or.inl ⟨by rfl, ?_⟩) (by assumption) ?_
      rotate_left
      · intro w' hSw; (try dsimp only at hSw); go_simp; (try with_reducible rfl)
      (try simp only [Act.put, List.setIfInBounds_toArray, List.set_cons_zero, List.set_cons_succ, List.getElem_toArray, List.getElem_cons_succ, List.getElem_cons_zero])
      refine wpAnyH_done (by kernel_rfl) ?_ _
      have HTV := Lib.hid (HTW.out.below KV)
      have HIV := Lib.hid (HI.out.below KV HI.out.lt)
      have HKV := Lib.hid (HKE.out V1 KV)
      clear KV k1 HTW HI HKE HCM
      cases hg : gt2 m1 c1 pj qj
      · have hg' : decide (0 < cmp2 pj qj m1 c1) = false := hg
        have hp : ¬ (0 : Int) < cmp2 pj qj m1 c1 := of_decide_eq_false hg'
        have HN : Hid (mx1 m1 c1 pj qj = m1 ∧ mx2 m1 c1 pj qj = c1) := Lib.hid (by simp [mx1, mx2, hg])
        clear hg
        go_wp2
        go_roundw
        case rel => exact ⟨j + 1, by omega, by go_num, HTV.out, by rw [HS.out, HN.out.1, HN.out.2]; exact HIV.out⟩
        case measure => simp [intOf]; omega
      · have hg' : decide (0 < cmp2 pj qj m1 c1) = true := hg
        have hp : (0 : Int) < cmp2 pj qj m1 c1 := of_decide_eq_true hg'
        have HN : Hid (mx1 m1 c1 pj qj = pj ∧ mx2 m1 c1 pj qj = qj) := Lib.hid (by simp [mx1, mx2, hg])
        have HIF := Lib.hid ((HIV.out.set0 pj).set1 qj)
        have hO : Only bw V1 ((V1.setCell ⟨bw, 0, none⟩ (.int .i64 pj)).setCell ⟨bw, 1, none⟩ (.int .i64 qj)) := ((Only.refl _ V1).setB _).setB _
        have hbf := HTV.out.bel.trans (hO.below (by omega) HTV.out.bel.size)
        have HTF := Lib.hid (TW.mk (HTV.out.a.only hO (by omega)) (HTV.out.b.only hO (by omega)) (HZ.out.below hbf) hbf)
        obtain ⟨v0, v1, v2, v3⟩ := HKV.out
        obtain ⟨y0, y1, yf0, yf1, yl⟩ := HIV.out
        clear hg hO hbf
        go_wp2
        go_roundw
        case rel => exact ⟨j + 1, by omega, by go_num, HTF.out, by rw [HS.out, HN.out.1, HN.out.2]; exact HIF.out⟩
        case measure => simp [intOf]; omega
    · obtain rfl : j = n := by omega
      rw [HF.out.1, HF.out.2] at hI
      have HTW := Lib.hid hTW
      obtain ⟨x0, x1, _, _, xl⟩ := hTW.a
      obtain ⟨y0, y1, _, _, yl⟩ := hTW.b
      obtain ⟨z0, z1, _, _, zl⟩ := hI
      have HN := Lib.hid (fun W => saw_nil (some ⟨B0, O0, none⟩) j j W)
      clear hTW hlt
      go_wp2_with (first | (go_at_call 14; refine (HN.out _).mono ?_; rintro e V2 ⟨rfl, rfl⟩) | (go_at_call 10; refine (tok_known _ (HT.out _ HTW.out.bel)).mono ?_; rintro e V3 ⟨rfl, k3⟩; have HB3 := Lib.hid (HTW.out.bel.trans (k3.mono HTW.out.bel.size))))
      go_ret
      exact ⟨rfl, HB3.out⟩
set_option maxRecDepth 100000 in
set_option maxHeartbeats 8000000 in
theorem saw_none  (cut : Int) (p q : Nat → Int) (w : World) (ht : Tb2 w) (hn : 0 ≤ 200) (d : Nat) (hd : d ≤ 65535) (had : bits .and .i64 cut 65535 = (d : Int)) (hkd : d % (0 + 1) = 0) (hz : PairsAt w none 0 p q) :
    Calls Tryd.prog 6 #[.slice none 0 0, .int .i64 cut] w fun e w' => e = .returned (.bool true) ∧ Below w.heap.size w w' := by
  have t1 : decide ((200 : Int) < (0 : Int)) = false := by decide
  have hw1 : IntKind.i64.wrap 1 = 1 := by decide
  have hrem : Int.tmod (d : Int) 1 = 0 := Int.tmod_one _
  have hrem2 : (d : Int) % 1 = 0 := by omega
  have HZ := Lib.hid hz
  have HT := Lib.hid (fun (W : World) (kW : Below w.heap.size w W) => ht.below kW)
  have HB0 : Below w.heap.size w ((w.alloc (.cells #[.int .i64 0, .int .i64 0] 27)).alloc (.cells #[.int .i64 0, .int .i64 0] 27)) := by (repeat' (first | (with_reducible exact Below.refl _ _) | (with_reducible assumption) | (with_reducible refine Below.trans ?_ (Below.mono (by with_reducible assumption) ?_)) | (with_reducible refine Below.alloc ?_ ?_ _) | (with_reducible refine Below.setCell ?_ ?_ _) | (with_reducible refine below_drewN ?_ _) | (with_reducible refine Below.drew ?_) | go_size))
  have I1 : Ints2 ((w.alloc (.cells #[.int .i64 0, .int .i64 0] 27)).alloc (.cells #[.int .i64 0, .int .i64 0] 27)) (w.heap.size + 1) 0 0 := Ints2.new1 w _ 0 0 27
  have I0 : Ints2 ((w.alloc (.cells #[.int .i64 0, .int .i64 0] 27)).alloc (.cells #[.int .i64 0, .int .i64 0] 27)) w.heap.size 0 0 := (Ints2.new w 0 0 27).alloc _
  have TW0 := Lib.hid (TW.mk (p := p) (q := q) (A := none) (n := 0) I0 I1 (hz.below HB0) HB0)
  have HLT : Hid (0 < 0 → ∀ ad, (none : Option Addr) = some ad → ad.block < w.heap.size) := Lib.hid (fun h0 => pairs_lt hz h0)
  have HC1 := Lib.hid (saw_any w.heap.size 0 0 p q none 0 0 _ I0 (fun h0 => by
    obtain ⟨B', O', e, hB, hcc⟩ := (hz.below HB0) (by omega)
    exact ⟨B', O', e, hB, fun j hj => hcc j (by omega)⟩) (fun h0 ad had => by have := HLT.out (by omega) ad had; omega) (by omega))
  clear ht hz HB0 I0 I1 hd hkd
  go_enter Tryd.func6, Tryd.ntmps6
  go_wp2_with fail
  generalize (w.alloc (.cells #[.int .i64 0, .int .i64 0] 27)).alloc (.cells #[.int .i64 0, .int .i64 0] 27) = W0 at *
  refine HC1.out.mono ?_; rintro e W1 ⟨rfl, hO1, hI1⟩
  have TW1 : Hid (TW w W1 none 0 p q (swS 0 0 p q 0).1 (swS 0 0 p q 0).2 0 0) := Lib.hid ⟨hI1, TW0.out.b.only hO1 (by omega), HZ.out.below (TW0.out.bel.trans (hO1.below (Nat.le_refl _) TW0.out.bel.size)), TW0.out.bel.trans (hO1.below (Nat.le_refl _) TW0.out.bel.size)⟩
  have HC2 := Lib.hid (saw_any w.heap.size _ _ (fun i => p (0 + i)) (fun i => q (0 + i)) none 0 0 W1 hI1 (fun h0 => absurd h0 (Nat.lt_irrefl 0)) (fun h0 _ _ => absurd h0 (Nat.lt_irrefl 0)) (by omega))
  rw [swS_add, show 0 + 0 = 0 from rfl] at HC2
  clear hO1 hI1 HC1 TW0
  go_wp2_with fail
  refine HC2.out.mono ?_; rintro e W2 ⟨rfl, hO2, hI2⟩
  have hb2 := TW1.out.bel.trans (hO2.below (Nat.le_refl _) TW1.out.bel.size)
  have TW2 : Hid (TW w W2 none 0 p q (swS 0 0 p q 0).1 (swS 0 0 p q 0).2 0 0) := Lib.hid ⟨hI2, TW1.out.b.only hO2 (by omega), HZ.out.below hb2, hb2⟩
  have HC3 := Lib.hid (saw_any (w.heap.size + 1) 0 0 p q none 0 0 W2 TW2.out.b TW2.out.z (fun h0 ad had => by have := HLT.out h0 ad had; omega) (by omega))
  clear hO2 hI2 HC2 TW1 hb2
  go_wp2_with fail
  refine HC3.out.mono ?_; rintro e W3 ⟨rfl, hO3, hI3⟩
  have hb3 := TW2.out.bel.trans (hO3.below (by omega) TW2.out.bel.size)
  have TW3 : Hid (TW w W3 none 0 p q (swS 0 0 p q 0).1 (swS 0 0 p q 0).2 (swS 0 0 p q 0).1 (swS 0 0 p q 0).2) := Lib.hid ⟨TW2.out.a.only hO3 (by omega), hI3, HZ.out.below hb3, hb3⟩
  have TW4 := Lib.hid (TW3.out.below ((Below.refl _ _).alloc (Nat.le_refl _) (.cells #[.int .i64 0, .int .i64 0] 23)))
  have IW : Hid (Ints2 (W3.alloc (.cells #[.int .i64 0, .int .i64 0] 23)) W3.heap.size 0 0) := Lib.hid (Ints2.new W3 0 0 23)
  have hbw : w.heap.size + 1 < W3.heap.size := TW3.out.b.lt
  have HLT3 : Hid (0 < 0 → ∀ ad, (none : Option Addr) = some ad → ad.block < W3.heap.size) := Lib.hid (fun h0 ad had => by have := HLT.out h0 ad had; omega)
  clear hO3 hI3 HC3 TW2 TW3 hb3 HLT
  obtain ⟨F1, hF1⟩ : ∃ F, (swS 0 0 p q 0).1 = F := ⟨_, rfl⟩
  obtain ⟨F2, hF2⟩ : ∃ F, (swS 0 0 p q 0).2 = F := ⟨_, rfl⟩
  rw [hF1, hF2] at TW4
  have HF := Lib.hid (And.intro hF1 hF2)
  clear hF1 hF2
  go_wp2_with fail
  generalize W3.alloc (.cells #[.int .i64 0, .int .i64 0] 23) = W4 at *
  generalize W3.heap.size = bw at *
  (try go_wp2)
  go_loopw [9] (fun i wr => ∃ j : Nat, j ≤ 0 ∧ i = .int .i64 j ∧ TW w wr none 0 p q F1 F2 F1 F2 ∧ Ints2 wr bw (swS 0 0 p q j).1 (swS 0 0 p q j).2) (fun i _ => 0 - (intOf i).toNat)
  case atStart => exact ⟨0, Nat.zero_le _, rfl, TW4.out, IW.out⟩
  case round =>
    obtain ⟨j, hj, rfl, hTW, hI⟩ := hrel
    clear TW4 IW
    by_cases hlt : j < 0
    · have lj : (j : Int) < (0 : Int) := by omega
      obtain ⟨B, O, hAe, hB, hcells⟩ := hTW.z (by omega)
      cases hAe
    · obtain rfl : j = 0 := by omega
      rw [HF.out.1, HF.out.2] at hI
      have HTW := Lib.hid hTW
      obtain ⟨x0, x1, _, _, xl⟩ := hTW.a
      obtain ⟨y0, y1, _, _, yl⟩ := hTW.b
      obtain ⟨z0, z1, _, _, zl⟩ := hI
      have HN := Lib.hid (fun W => saw_nil none 0 0 W)
      clear hTW hlt
      go_wp2_with (first | (go_at_call 14; refine (HN.out _).mono ?_; rintro e V2 ⟨rfl, rfl⟩) | (go_at_call 10; refine (tok_known _ (HT.out _ HTW.out.bel)).mono ?_; rintro e V3 ⟨rfl, k3⟩; have HB3 := Lib.hid (HTW.out.bel.trans (k3.mono HTW.out.bel.size))))
      go_ret
      exact ⟨rfl, HB3.out⟩
set_option maxRecDepth 100000 in
set_option maxHeartbeats 8000000 in
theorem saw_zero (ad : Addr) (cut : Int) (p q : Nat → Int) (w : World) (ht : Tb2 w) (hn : 0 ≤ 200) (d : Nat) (hd : d ≤ 65535) (had : bits .and .i64 cut 65535 = (d : Int)) (hkd : d % (0 + 1) = 0) (hz : PairsAt w (some ad) 0 p q) :
    Calls Tryd.prog 6 #[.slice (some ad) 0 0, .int .i64 cut] w fun e w' => e = .returned (.bool true) ∧ Below w.heap.size w w' := by
  have t1 : decide ((200 : Int) < (0 : Int)) = false := by decide
  have hw1 : IntKind.i64.wrap 1 = 1 := by decide
  have hrem : Int.tmod (d : Int) 1 = 0 := Int.tmod_one _
  have hrem2 : (d : Int) % 1 = 0 := by omega
  have HZ := Lib.hid hz
  have HT := Lib.hid (fun (W : World) (kW : Below w.heap.size w W) => ht.below kW)
  have HB0 : Below w.heap.size w ((w.alloc (.cells #[.int .i64 0, .int .i64 0] 27)).alloc (.cells #[.int .i64 0, .int .i64 0] 27)) := by (repeat' (first | (with_reducible exact Below.refl _ _) | (with_reducible assumption) | (with_reducible refine Below.trans ?_ (Below.mono (by with_reducible assumption) ?_)) | (with_reducible refine Below.alloc ?_ ?_ _) | (with_reducible refine Below.setCell ?_ ?_ _) | (with_reducible refine below_drewN ?_ _) | (with_reducible refine Below.drew ?_) | go_size))
  have I1 : Ints2 ((w.alloc (.cells #[.int .i64 0, .int .i64 0] 27)).alloc (.cells #[.int .i64 0, .int .i64 0] 27)) (w.heap.size + 1) 0 0 := Ints2.new1 w _ 0 0 27
  have I0 : Ints2 ((w.alloc (.cells #[.int .i64 0, .int .i64 0] 27)).alloc (.cells #[.int .i64 0, .int .i64 0] 27)) w.heap.size 0 0 := (Ints2.new w 0 0 27).alloc _
  have TW0 := Lib.hid (TW.mk (p := p) (q := q) (A := (some ad)) (n := 0) I0 I1 (hz.below HB0) HB0)
  have HLT : Hid (0 < 0 → ∀ ad', (some ad : Option Addr) = some ad' → ad'.block < w.heap.size) := Lib.hid (fun h0 => pairs_lt hz h0)
  have HC1 := Lib.hid (saw_any w.heap.size 0 0 p q (some ad) 0 0 _ I0 (fun h0 => by
    obtain ⟨B', O', e, hB, hcc⟩ := (hz.below HB0) (by omega)
    exact ⟨B', O', e, hB, fun j hj => hcc j (by omega)⟩) (fun h0 ad' had => by have := HLT.out (by omega) ad' had; omega) (by omega))
  clear ht hz HB0 I0 I1 hd hkd
  go_enter Tryd.func6, Tryd.ntmps6
  go_wp2_with fail
  generalize (w.alloc (.cells #[.int .i64 0, .int .i64 0] 27)).alloc (.cells #[.int .i64 0, .int .i64 0] 27) = W0 at *
  refine HC1.out.mono ?_; rintro e W1 ⟨rfl, hO1, hI1⟩
  have TW1 : Hid (TW w W1 (some ad) 0 p q (swS 0 0 p q 0).1 (swS 0 0 p q 0).2 0 0) := Lib.hid ⟨hI1, TW0.out.b.only hO1 (by omega), HZ.out.below (TW0.out.bel.trans (hO1.below (Nat.le_refl _) TW0.out.bel.size)), TW0.out.bel.trans (hO1.below (Nat.le_refl _) TW0.out.bel.size)⟩
  have HC2 := Lib.hid (saw_any w.heap.size _ _ (fun i => p (0 + i)) (fun i => q (0 + i)) (some ad) 0 0 W1 hI1 (fun h0 => absurd h0 (Nat.lt_irrefl 0)) (fun h0 _ _ => absurd h0 (Nat.lt_irrefl 0)) (by omega))
  rw [swS_add, show 0 + 0 = 0 from rfl] at HC2
  clear hO1 hI1 HC1 TW0
  go_wp2_with fail
  refine HC2.out.mono ?_; rintro e W2 ⟨rfl, hO2, hI2⟩
  have hb2 := TW1.out.bel.trans (hO2.below (Nat.le_refl _) TW1.out.bel.size)
  have TW2 : Hid (TW w W2 (some ad) 0 p q (swS 0 0 p q 0).1 (swS 0 0 p q 0).2 0 0) := Lib.hid ⟨hI2, TW1.out.b.only hO2 (by omega), HZ.out.below hb2, hb2⟩
  have HC3 := Lib.hid (saw_any (w.heap.size + 1) 0 0 p q (some ad) 0 0 W2 TW2.out.b TW2.out.z (fun h0 ad' had => by have := HLT.out h0 ad' had; omega) (by omega))
  clear hO2 hI2 HC2 TW1 hb2
  go_wp2_with fail
  refine HC3.out.mono ?_; rintro e W3 ⟨rfl, hO3, hI3⟩
  have hb3 := TW2.out.bel.trans (hO3.below (by omega) TW2.out.bel.size)
  have TW3 : Hid (TW w W3 (some ad) 0 p q (swS 0 0 p q 0).1 (swS 0 0 p q 0).2 (swS 0 0 p q 0).1 (swS 0 0 p q 0).2) := Lib.hid ⟨TW2.out.a.only hO3 (by omega), hI3, HZ.out.below hb3, hb3⟩
  have TW4 := Lib.hid (TW3.out.below ((Below.refl _ _).alloc (Nat.le_refl _) (.cells #[.int .i64 0, .int .i64 0] 23)))
  have IW : Hid (Ints2 (W3.alloc (.cells #[.int .i64 0, .int .i64 0] 23)) W3.heap.size 0 0) := Lib.hid (Ints2.new W3 0 0 23)
  have hbw : w.heap.size + 1 < W3.heap.size := TW3.out.b.lt
  have HLT3 : Hid (0 < 0 → ∀ ad', (some ad : Option Addr) = some ad' → ad'.block < W3.heap.size) := Lib.hid (fun h0 ad' had => by have := HLT.out h0 ad' had; omega)
  clear hO3 hI3 HC3 TW2 TW3 hb3 HLT
  obtain ⟨F1, hF1⟩ : ∃ F, (swS 0 0 p q 0).1 = F := ⟨_, rfl⟩
  obtain ⟨F2, hF2⟩ : ∃ F, (swS 0 0 p q 0).2 = F := ⟨_, rfl⟩
  rw [hF1, hF2] at TW4
  have HF := Lib.hid (And.intro hF1 hF2)
  clear hF1 hF2
  go_wp2_with fail
  generalize W3.alloc (.cells #[.int .i64 0, .int .i64 0] 23) = W4 at *
  generalize W3.heap.size = bw at *
  (try go_wp2)
  go_loopw [9] (fun i wr => ∃ j : Nat, j ≤ 0 ∧ i = .int .i64 j ∧ TW w wr (some ad) 0 p q F1 F2 F1 F2 ∧ Ints2 wr bw (swS 0 0 p q j).1 (swS 0 0 p q j).2) (fun i _ => 0 - (intOf i).toNat)
  case atStart => exact ⟨0, Nat.zero_le _, rfl, TW4.out, IW.out⟩
  case round =>
    obtain ⟨j, hj, rfl, hTW, hI⟩ := hrel
    clear TW4 IW
    by_cases hlt : j < 0
    · have lj : (j : Int) < (0 : Int) := by omega
      obtain ⟨B, O, hAe, hB, hcells⟩ := hTW.z (by omega)
      exact absurd hlt (by omega)
    · obtain rfl : j = 0 := by omega
      rw [HF.out.1, HF.out.2] at hI
      have HTW := Lib.hid hTW
      obtain ⟨x0, x1, _, _, xl⟩ := hTW.a
      obtain ⟨y0, y1, _, _, yl⟩ := hTW.b
      obtain ⟨z0, z1, _, _, zl⟩ := hI
      have HN := Lib.hid (fun W => saw_nil (some ad) 0 0 W)
      clear hTW hlt
      go_wp2_with (first | (go_at_call 14; refine (HN.out _).mono ?_; rintro e V2 ⟨rfl, rfl⟩) | (go_at_call 10; refine (tok_known _ (HT.out _ HTW.out.bel)).mono ?_; rintro e V3 ⟨rfl, k3⟩; have HB3 := Lib.hid (HTW.out.bel.trans (k3.mono HTW.out.bel.size))))
      go_ret
      exact ⟨rfl, HB3.out⟩
end Go.Proofs.YtcmoglbmngmgnaaDoor
