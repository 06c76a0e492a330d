/- NTP: the law's tells; what Hear leaves is right. -/
import Derived.Test.YtepdnkpmkhjlgaaGreatM9H
import Derived.Test.YtepdnkpmkhjlgaaGreatTk9
import Derived.Test.YtepdnkpmkhjlgaaGreatM9O
import Derived.Test.YtepdnkpmkhjlgaaGreatRef8Turn
import Derived.Test.YtepdnkpmkhjlgaaGreatM9O
import Derived.Test.YtepdnkpmkhjlgaaGreatPkDecRef
/- Two rows of bytes, the law's same. -/
set_option linter.unusedSimpArgs false
set_option linter.unusedVariables false
namespace Go.Proofs.YtepdnkpmkhjlgaaGreat
open Go.RowKit

set_option maxHeartbeats 1000000 in
theorem same6 (A : Option Addr) (n c : Nat) (f : Nat → Int) (A' : Option Addr) (n' c' : Nat) (f' : Nat → Int) (w : World) (hn : n ≤ 1000000) (hn' : n' ≤ 1000000) (h : BytesAt w A n f) (h' : BytesAt w A' n' f') :
    Calls Tryz.prog 30 #[.slice A n c, .slice A' n' c'] w fun e w' => e = .returned (.bool (eqB n f n' f')) ∧ ∃ q, w' = w.drewN q := by
  by_cases hne : n = n'
  · subst hne
    have t0 : (n != n) = false := by simp
    have HA := Lib.hid h
    have HA' := Lib.hid h'
    have HEB : Hid (eqB n f n f' = eqK f f' n) := Lib.hid (by simp [eqB])
    clear h h'
    have hni : (n : Int) ≤ 1000000 := by omega
    go_enter Tryz.func30, Tryz.ntmps30
    go_wp2
    go_loopw [5] (fun i wr => ∃ k : Nat, k ≤ n ∧ i = .int .i64 k ∧ eqK f f' k = true ∧ ∃ q, wr = w.drewN q) (fun i _ => n - (intOf i).toNat)
    case atStart => exact ⟨0, Nat.zero_le _, rfl, rfl, 0, rfl⟩
    case round =>
      obtain ⟨k, hk, rfl, hE, q, hW⟩ := hrel
      by_cases hlt : k < n
      · obtain ⟨B, O, rfl, hB, hc⟩ := HA.out (by omega)
        obtain ⟨B', O', rfl, hB', hc'⟩ := HA'.out (by omega)
        have x0 : wr.cell? ⟨B, O + k, none⟩ = some (.int .u8 (f k)) := by rw [hW]; exact hc k hlt
        have x1 : wr.cell? ⟨B', O' + k, none⟩ = some (.int .u8 (f' k)) := by rw [hW]; exact hc' k hlt
        have lk : (k : Int) < (n : Int) := by omega
        have HS : Hid (eqK f f' (k + 1) = (eqK f f' k && f k == f' k)) := Lib.hid rfl
        have HN : Hid (f k ≠ f' k → eqK f f' n = false) := Lib.hid (fun hne => by
          cases hq : eqK f f' n
          · rfl
          · exact absurd ((eqK_iff f f' n).1 hq k hlt) hne)
        have HW := Lib.hid hW
        have HE := Lib.hid hE
        clear hc hc' hW hE
        generalize f k = a at *
        generalize f' k = b at *
        by_cases hab : a = b
        · have t1 : (a != b) = false := by simp [hab]
          clear hab
          have hab' : (a == b) = true := by simpa using t1
          have HS2 : Hid (eqK f f' (k + 1) = true) := Lib.hid (by rw [HS.out, HE.out, hab']; rfl)
          clear hab' HS
          go_wp2
          go_quiet (fail)
          go_wp2
          go_roundw
          case rel => exact ⟨k + 1, by omega, by go_num, HS2.out, q + nq, by rw [HW.out]; simp [World.drewN, Nat.add_assoc]⟩
          case measure => simp [intOf]; omega
        · have t1 : (a != b) = true := by simpa using hab
          have HN2 := Lib.hid (HN.out hab)
          clear hab HN HS
          go_wp2
          go_quiet (fail)
          go_wp2
          go_ret
          exact ⟨by rw [HEB.out, HN2.out]; rfl, q + nq, by rw [HW.out]; simp [World.drewN, Nat.add_assoc]⟩
      · obtain rfl : k = n := by omega
        have HE := Lib.hid hE
        clear hE
        have HW := Lib.hid hW
        clear hW
        go_wp2
        go_ret
        exact ⟨by rw [HEB.out, HE.out]; rfl, q, HW.out⟩
  · have t0 : ((n : Int) != (n' : Int)) = true := by simp; omega
    have t0' : (n != n') = true := by simpa using hne
    have HEB : Hid (eqB n f n' f' = false) := Lib.hid (by simp [eqB, hne])
    clear hne
    go_enter Tryz.func30, Tryz.ntmps30
    go_wp2
    go_ret
    exact ⟨by rw [HEB.out]; rfl, 0, rfl⟩
end Go.Proofs.YtepdnkpmkhjlgaaGreat

/- NTP: the reference's Ask (written by gen/rask.py). -/
namespace Go.Proofs.YtepdnkpmkhjlgaaGreat
open Go.RowKit Go.Sort

theorem r_is {w : World} {b bc bs : Nat} {A : Option Addr} {n cc : Nat} {x : Int} {z : Nat → Int} {N : Nat} {K : Cs} (h : Nc layR w b bc bs A n cc x z N K) (i : Nat) (hi : i < N) : Calls Tryz.prog 47 #[.pointer (some ⟨b, 0, none⟩), .int .i64 i] w fun e w' => e = .returned (.bool true) ∧ w = w' := by
  have c3 := h.c3
  have li : (i : Int) < (N : Int) := by omega
  have t0 : decide ((i : Int) ≥ 0) = true := by simp
  have t1 : decide (0 ≤ (i : Int)) = true := by simp
  go_enter Tryz.func47, Tryz.ntmps47
  go_wp2
  go_ret
  exact ⟨rfl, rfl⟩
abbrev askP (q : Int) : Pk := ⟨0, 3, 0, 0, 0, 0, 0, q⟩
theorem askP_ok (q : Int) (h : 0 ≤ q ∧ q < 18446744073709551616) : (askP q).ok := ⟨by simp, by simp, by simp, by simp, by simp, by simp, by simp, h⟩
set_option maxRecDepth 100000 in
set_option maxHeartbeats 4000000 in
theorem r_ask {w : World} {b bc bs : Nat} {A : Option Addr} {n cc : Nat} {x : Int} {z : Nat → Int} {N : Nat} {K : Cs} (h : Nc layR w b bc bs A n cc x z N K) (hK : K.Ok N) (hn : K.n < 1000000000) (i : Nat) (hi : i < N) (count : Int) (hc : count ≤ 9223372036854775807) :
    Calls Tryz.prog 28 #[.pointer (some ⟨b, 0, none⟩), .int .i64 i, .int .i64 count] w fun e w' => (∃ g cap, e = .returned (.tuple #[.slice (some ⟨g, 0, none⟩) 48 cap, .int .i64 0]) ∧ w.heap.size ≤ g ∧ PkAt w' g cap (askP (K.n + 1))) ∧ Nc layR w' b bc bs A n cc x z N (askK K i count) ∧ But (Ft b bc bs) w w' := by
  have HHS := Lib.hid (r_is h i hi)
  have HH := Lib.hid h
  have HKK := Lib.hid hK
  have hlb := h.lt
  have hls := h.sl
  have hlc := h.clk.lt
  have c4 := h.c4
  have f4 := h.f 4
  have n0 := hK.n0
  have wn : IntKind.u64.wrap (K.n + 1) = K.n + 1 := (by rw [IntKind.wrap_u64]; omega)
  have HEN := Lib.hid (fun W : World => ref6_enc (askP (K.n + 1)) (askP_ok _ ⟨by omega, by omega⟩) W)
  have li : (i : Int) < (N : Int) := by omega
  have W2K := Lib.hid (h.setN (K.n + 1))
  have W2F : Hid (But (Ft b bc bs) w (w.setCell ⟨b, 4, none⟩ (.int .u64 (K.n + 1)))) := Lib.hid ((But.refl _ _).setCell (p := ⟨b, 4, none⟩) (fun _ => .inl rfl) _)
  clear h hK
  go_enter Tryz.func28, Tryz.ntmps28
  go_wp2_with fail
  refine HHS.out.mono ?_; rintro e w' ⟨rfl, rfl⟩
  go_wp2_with fail
  clear c4 f4
  generalize w.setCell ⟨b, 4, none⟩ (.int .u64 (K.n + 1)) = W2 at *
  have c3 := W2K.out.c3
  have c4 := W2K.out.c4
  refine wp_region_held_drew (S := fun w' => w'.cell? ⟨b, 3, none⟩ = some (.slice (some ⟨bs, 0, none⟩) N N) ∧ w'.cell? ⟨b, 4, none⟩ = some (.int .u64 (K.n + 1))) (by kernel_rfl) ?_ (fun hHeld => ?_)
  · exact ⟨c3, c4⟩
  have HKV := Lib.hid W2K.out.drew
  have HFV := Lib.hid W2F.out.drew
  clear W2K W2F c3 c4
  generalize W2.drew = V at *
  obtain ⟨x0, x1, x2, x3, x4, x5⟩ := HKV.out.sixR i hi
  have f0 := HKV.out.sf (i * 6)
  have r1 : Nc layR (V.setCell ⟨bs, i * 6, none⟩ (.int .u64 (K.n + 1))) b bc bs A n cc x z N { K with n := K.n + 1, S := updS K.S i { K.S i with q := K.n + 1 } } := HKV.out.store i 0 hi (by omega) { K.S i with q := K.n + 1 } (.int .u64 (K.n + 1)) rfl (fun q hq hne => by unfold layR; simp [hne])
  have R1 := Lib.hid r1
  have F1 : Hid (But (Ft b bc bs) w (V.setCell ⟨bs, i * 6, none⟩ (.int .u64 (K.n + 1)))) := Lib.hid (HFV.out.setCell (p := ⟨bs, i * 6, none⟩) (fun _ => .inr (.inr rfl)) (.int .u64 (K.n + 1)))
  clear r1
  refine tk9 0 ?_
  refine tk9 1 ?_
  refine tk9 2 ?_
  refine tk9 3 ?_
  refine tk9 4 ?_
  refine tk9 5 ?_
  refine tk9 6 ?_
  refine tk9 7 ?_
  refine tk9 8 ?_
  refine tk9 9 ?_
  refine tk9 10 ?_
  refine wpAnyH_ready (rs := [11]) (by kernel_rfl) (by simp) ?_
  refine AllReadyH.cons rfl (fun K hK => ?_) (AllReadyH.nil)
  go_simp
  (try dsimp only)
  refine hK.out _ _ ?_ (fun hHeld => ?_)
  · exact ⟨R1.out.c3, R1.out.c4⟩
  clear hK K
  refine pt9 ?_
  refine wpAnyH_done (by kernel_rfl) ?_ _
  clear hHeld x0 x1 x2 x3 x4 x5 f0 HKV HFV
  generalize V.setCell ⟨bs, i * 6, none⟩ (.int .u64 (K.n + 1)) = V1 at *
  go_wp2_with fail
  refine wp_region_held_drew (S := fun w' => w'.cell? ⟨b, 3, none⟩ = some (.slice (some ⟨bs, 0, none⟩) N N) ∧ w'.cell? ⟨b, 0, none⟩ = some (.pointer (some ⟨bc, 0, none⟩))) (by kernel_rfl) ?_ (fun hHeld => ?_)
  · exact ⟨R1.out.c3, R1.out.c0⟩
  have HKV := Lib.hid R1.out.drew
  have HFV := Lib.hid F1.out.drew
  clear R1 F1
  generalize V1.drew = V2 at *
  have HRD := Lib.hid (ref8_read_all bc K.c K.t K.l count V2 HKV.out.clk HKK.out.clk hc)
  refine tk9 0 ?_
  refine tk9 1 ?_
  refine tk9 2 ?_
  refine tk9 3 ?_
  refine tk9 4 ?_
  refine tk9 5 ?_
  refine tk9 6 ?_
  refine tk9 7 ?_
  refine tk9 8 ?_
  refine tk9 9 ?_
  refine wpAnyH_ready (rs := [10]) (by kernel_rfl) (by simp) ?_
  refine AllReadyH.cons rfl (fun K hK => ?_) (AllReadyH.nil)
  go_simp
  (go_at_call 33; refine HRD.out.mono ?_; rintro e w5 ⟨rfl, ho5, k5⟩)
  have HK5 := Lib.hid (HKV.out.clock ho5 k5)
  have HF5 := Lib.hid (HFV.out.trans (T := Ft b bc bs) (But.of_only ho5 (.inr (.inl rfl))) (fun _ _ q => q))
  clear ho5 k5
  (try dsimp only)
  refine hK.out _ _ ?_ (fun hHeld => ?_)
  · exact ⟨HK5.out.c3, HK5.out.c0⟩
  clear hK K
  refine pt9 ?_
  obtain ⟨x0, x1, x2, x3, x4, x5⟩ := HK5.out.sixR i hi
  have f1 := HK5.out.sf (i * 6 + 1)
  have r2 := HK5.out.store i 1 hi (by omega) { K.S i with q := K.n + 1, a := rt K.c K.t K.l count } (.int .i64 (rt K.c K.t K.l count)) rfl (fun q hq hne => by simp only [updS_same]; unfold layR; simp [hne])
  have R2 : Hid (Nc layR (w5.setCell ⟨bs, i * 6 + 1, none⟩ (.int .i64 (rt K.c K.t K.l count))) b bc bs A n cc x z N (askK K i count)) := Lib.hid (r2.congr (S' := (askK K i count).S) (fun j _ => by simp only [askK, updS_upd]))
  have HF9 : Hid (But (Ft b bc bs) w (w5.setCell ⟨bs, i * 6 + 1, none⟩ (.int .i64 (rt K.c K.t K.l count)))) := Lib.hid (HF5.out.setCell (p := ⟨bs, i * 6 + 1, none⟩) (fun _ => .inr (.inr rfl)) (.int .i64 (rt K.c K.t K.l count)))
  clear r2
  refine tk9 11 ?_
  refine tk9 12 ?_
  refine wpAnyH_ready (rs := [13]) (by kernel_rfl) (by simp) ?_
  refine AllReadyH.cons rfl (fun K hK => ?_) (AllReadyH.nil)
  go_simp
  (try dsimp only)
  refine hK.out _ _ ?_ (fun hHeld => ?_)
  · exact ⟨R2.out.c3, R2.out.c0⟩
  clear hK K
  refine pt9 ?_
  refine wpAnyH_done (by kernel_rfl) ?_ _
  clear hHeld x0 x1 x2 x3 x4 x5 f1 HK5 HF5 HKV HFV
  generalize (w5.setCell ⟨bs, i * 6 + 1, none⟩ (.int .i64 (rt K.c K.t K.l count))) = W9 at *
  have c4 : W9.cell? ⟨b, 4, none⟩ = some (.int .u64 (K.n + 1)) := R2.out.c4
  go_wp2_with fail
  refine (HEN.out W9).mono ?_; rintro e w10 ⟨g, cap, rfl, hg, hp, k10⟩
  have R3 := Lib.hid (R2.out.below k10)
  have F3 := Lib.hid (HF9.out.next k10)
  have HP := Lib.hid hp
  have hz9 := HF9.out.size
  clear hp k10
  go_wp2_with fail
  go_ret2
  exact ⟨⟨g, cap, rfl, by omega, HP.out⟩, R3.out, F3.out⟩
end Go.Proofs.YtepdnkpmkhjlgaaGreat

/- NTP: the law's does, of a question (written by gen/does1.py). -/
namespace Go.Proofs.YtepdnkpmkhjlgaaGreat
open Go.RowKit Go.Sort

def updI (f : Nat → Int) (i : Nat) (v : Int) : Nat → Int := fun j => if j = i then v else f j
theorem Pr.cnt {w : World} {bp b bc bs : Nat} {A1 : Option Addr} {c1 : Nat} {rb rbc rbs : Nat} {A2 : Option Addr} {c2 : Nat} {ad : Addr} {n c : Nat} {x : Int} {z : Nat → Int} {N : Nat} {m0 m1 m2 : Nat} {K R : Cs} {cnt : Int} {asked when_ : Nat → Int} (h : Pr w bp b bc bs A1 c1 rb rbc rbs A2 c2 ad n c x z N m0 m1 m2 K R cnt asked when_) (v : Int) : Pr (w.setCell ⟨bp, 4, none⟩ (.int .i64 v)) bp b bc bs A1 c1 rb rbc rbs A2 c2 ad n c x z N m0 m1 m2 K R v asked when_ := by
  have r1 := h.r1
  have r2 := h.r2
  have r3 := h.r3
  have a0 := h.a0
  have O : Only bp w (w.setCell ⟨bp, 4, none⟩ (.int .i64 v)) := (Only.refl _ _).setB _
  have U : But (fun k => k = bp) w (w.setCell ⟨bp, 4, none⟩ (.int .i64 v)) := But.of_only O rfl
  have e : ∀ o, o ≠ 4 → (w.setCell ⟨bp, 4, none⟩ (.int .i64 v)).cell? ⟨bp, o, none⟩ = w.cell? ⟨bp, o, none⟩ := fun o ho => World.cell?_setCell_other _ _ _ _ (by simp; try omega)
  have hz := O.size
  refine ⟨(e 0 (by omega)).trans h.q0, (e 1 (by omega)).trans h.q1, (e 2 (by omega)).trans h.q2, (e 3 (by omega)).trans h.q3, World.cell?_setCell_same _ _ _ h.q4, fun j hj => (e _ (by omega)).trans (h.qa j hj), fun j hj => (e _ (by omega)).trans (h.qw j hj), fun j => by simpa using h.qf j, Nat.lt_of_lt_of_le h.ql hz,
    h.P.but U (by omega) (by omega) (by omega) (fun q hq => by have := h.a1 q hq; omega), h.R.but U (by omega) (by omega) (by omega) (fun q hq => by have := h.a2 q hq; omega), ?_, r1, r2, r3, h.a1, h.a2, h.a0⟩
  intro hn
  obtain ⟨B, O', hA, hB, hc⟩ := h.tab hn
  have hab : ad.block = B := by injection hA with hA; rw [hA]
  exact ⟨B, O', hA, Nat.lt_of_lt_of_le hB hz, fun j hj => ⟨(O.cell B _ hB (by omega)).trans (hc j hj).1, (hc j hj).2⟩⟩
theorem Pr.ask {w : World} {bp b bc bs : Nat} {A1 : Option Addr} {c1 : Nat} {rb rbc rbs : Nat} {A2 : Option Addr} {c2 : Nat} {ad : Addr} {n c : Nat} {x : Int} {z : Nat → Int} {N : Nat} {m0 m1 m2 : Nat} {K R : Cs} {cnt : Int} {asked when_ : Nat → Int} (h : Pr w bp b bc bs A1 c1 rb rbc rbs A2 c2 ad n c x z N m0 m1 m2 K R cnt asked when_) (i : Nat) (hi : i < 8) (v : Int) : Pr (w.setCell ⟨bp, 5 + i, none⟩ (.int .u64 v)) bp b bc bs A1 c1 rb rbc rbs A2 c2 ad n c x z N m0 m1 m2 K R cnt (updI asked i v) when_ := by
  have r1 := h.r1
  have r2 := h.r2
  have r3 := h.r3
  have a0 := h.a0
  have O : Only bp w (w.setCell ⟨bp, 5 + i, none⟩ (.int .u64 v)) := (Only.refl _ _).setB _
  have U : But (fun k => k = bp) w (w.setCell ⟨bp, 5 + i, none⟩ (.int .u64 v)) := But.of_only O rfl
  have e : ∀ o, o ≠ 5 + i → (w.setCell ⟨bp, 5 + i, none⟩ (.int .u64 v)).cell? ⟨bp, o, none⟩ = w.cell? ⟨bp, o, none⟩ := fun o ho => World.cell?_setCell_other _ _ _ _ (by simp; try omega)
  have hz := O.size
  refine ⟨(e 0 (by omega)).trans h.q0, (e 1 (by omega)).trans h.q1, (e 2 (by omega)).trans h.q2, (e 3 (by omega)).trans h.q3, (e 4 (by omega)).trans h.q4, fun j hj => by
    by_cases q : j = i
    · subst q; rw [World.cell?_setCell_same _ _ _ (h.qa j hj)]; simp [updI]
    · rw [e _ (by omega), h.qa j hj]; simp [updI, q], fun j hj => (e _ (by omega)).trans (h.qw j hj), fun j => by simpa using h.qf j, Nat.lt_of_lt_of_le h.ql hz,
    h.P.but U (by omega) (by omega) (by omega) (fun q hq => by have := h.a1 q hq; omega), h.R.but U (by omega) (by omega) (by omega) (fun q hq => by have := h.a2 q hq; omega), ?_, r1, r2, r3, h.a1, h.a2, h.a0⟩
  intro hn
  obtain ⟨B, O', hA, hB, hc⟩ := h.tab hn
  have hab : ad.block = B := by injection hA with hA; rw [hA]
  exact ⟨B, O', hA, Nat.lt_of_lt_of_le hB hz, fun j hj => ⟨(O.cell B _ hB (by omega)).trans (hc j hj).1, (hc j hj).2⟩⟩
theorem Pr.when {w : World} {bp b bc bs : Nat} {A1 : Option Addr} {c1 : Nat} {rb rbc rbs : Nat} {A2 : Option Addr} {c2 : Nat} {ad : Addr} {n c : Nat} {x : Int} {z : Nat → Int} {N : Nat} {m0 m1 m2 : Nat} {K R : Cs} {cnt : Int} {asked when_ : Nat → Int} (h : Pr w bp b bc bs A1 c1 rb rbc rbs A2 c2 ad n c x z N m0 m1 m2 K R cnt asked when_) (i : Nat) (hi : i < 8) (v : Int) : Pr (w.setCell ⟨bp, 13 + i, none⟩ (.int .i64 v)) bp b bc bs A1 c1 rb rbc rbs A2 c2 ad n c x z N m0 m1 m2 K R cnt asked (updI when_ i v) := by
  have r1 := h.r1
  have r2 := h.r2
  have r3 := h.r3
  have a0 := h.a0
  have O : Only bp w (w.setCell ⟨bp, 13 + i, none⟩ (.int .i64 v)) := (Only.refl _ _).setB _
  have U : But (fun k => k = bp) w (w.setCell ⟨bp, 13 + i, none⟩ (.int .i64 v)) := But.of_only O rfl
  have e : ∀ o, o ≠ 13 + i → (w.setCell ⟨bp, 13 + i, none⟩ (.int .i64 v)).cell? ⟨bp, o, none⟩ = w.cell? ⟨bp, o, none⟩ := fun o ho => World.cell?_setCell_other _ _ _ _ (by simp; try omega)
  have hz := O.size
  refine ⟨(e 0 (by omega)).trans h.q0, (e 1 (by omega)).trans h.q1, (e 2 (by omega)).trans h.q2, (e 3 (by omega)).trans h.q3, (e 4 (by omega)).trans h.q4, fun j hj => (e _ (by omega)).trans (h.qa j hj), fun j hj => by
    by_cases q : j = i
    · subst q; rw [World.cell?_setCell_same _ _ _ (h.qw j hj)]; simp [updI]
    · rw [e _ (by omega), h.qw j hj]; simp [updI, q], fun j => by simpa using h.qf j, Nat.lt_of_lt_of_le h.ql hz,
    h.P.but U (by omega) (by omega) (by omega) (fun q hq => by have := h.a1 q hq; omega), h.R.but U (by omega) (by omega) (by omega) (fun q hq => by have := h.a2 q hq; omega), ?_, r1, r2, r3, h.a1, h.a2, h.a0⟩
  intro hn
  obtain ⟨B, O', hA, hB, hc⟩ := h.tab hn
  have hab : ad.block = B := by injection hA with hA; rw [hA]
  exact ⟨B, O', hA, Nat.lt_of_lt_of_le hB hz, fun j hj => ⟨(O.cell B _ hB (by omega)).trans (hc j hj).1, (hc j hj).2⟩⟩
theorem decR_of {w : World} {g cap : Nat} {p : Pk} (h : PkAt w g cap p) (hp : p.ok) : Calls Tryz.prog 29 #[.slice (some ⟨g, 0, none⟩) 48 cap] w fun e w' => e = .returned (.tuple #[pkVal p, .int .i64 0]) ∧ Below w.heap.size w w' := by
  have q := ref6_dec g 0 cap 48 rfl p.f w h.1 (fun j hj => by rw [Nat.zero_add]; exact h.2.2 j hj) (fun j hj => encF_byte _ _ _ _ _ _ _ _ hp.isP j hj) h.2.1
  refine q.mono ?_
  rintro e w' ⟨q1, _, q3⟩
  have e0 := q1 (decOk_enc hp.isP hp.o hp.v hp.t)
  obtain ⟨d1, d2, d3, d4, d5, d6, d7, d8⟩ := dec_enc hp.isP hp.o hp.v hp.t
  refine ⟨?_, q3⟩
  rw [e0]
  show Ending.returned (.tuple #[pkV (dL p.f) (dM p.f) (p.f 1) (dD p.f) (dR p.f) (dO p.f) (dV p.f) (dT p.f), .int .i64 0]) = _
  rw [show dL p.f = p.l from d1, show dM p.f = p.m from d2, show p.f 1 = p.s from d3, show dD p.f = p.d from d4, show dR p.f = p.r from d5, show dO p.f = p.o from d6, show dV p.f = p.v from d7, show dT p.f = p.t from d8]
theorem PkAt.bytes {w : World} {g cap : Nat} {p : Pk} (h : PkAt w g cap p) : BytesAt w (some ⟨g, 0, none⟩) 48 p.f := fun _ => ⟨g, 0, rfl, h.1, fun j hj => by rw [Nat.zero_add]; exact h.2.2 j hj⟩
theorem AskAns.pk {w w' : World} {q : Int} {g : Nat} (h : U8At w' g 48 (encF 0 3 0 0 0 0 0 q)) : PkAt w' g 48 (askP q) := ⟨h.lt, Nat.le_refl _, fun j hj => h.c j hj⟩
end Go.Proofs.YtepdnkpmkhjlgaaGreat

/- NTP: the law's tells; what Hear leaves is right. -/
namespace Go.Proofs.YtepdnkpmkhjlgaaGreat
open Go.RowKit Go.Sort

theorem rstP_ok (s : Srv) (h : s.ok) : (rstP s).ok := ⟨h.q0, h.q1, h.a0, h.a1, by simp [rstP], by simp [rstP], by simp [rstP, I64], by simp [rstP, I64]⟩
theorem rstR_ok (s : Srv) (h : s.ok) : (rstR s).ok := ⟨h.q0, h.q1, h.a0, h.a1, h.h0, h.h1, by simp [rstR, I64], by simp [rstR, I64]⟩
theorem Cs.Ok.turn {rs : Srv → Srv} (hrs : ∀ s : Srv, s.ok → (rs s).ok) {K : Cs} {N : Nat} (h : K.Ok N) (hs : K.syn < 1000000000) (hd : Int) : (turnK rs K N hd).Ok N := by
  unfold turnK
  split
  · exact h
  · have b := addS_bd (mostP (cand K.S hd N)).1.1 (mostP (cand K.S hd N)).1.2
    generalize addS (mostP (cand K.S hd N)).1.1 (mostP (cand K.S hd N)).1.2 = q at *
    exact ⟨(ok_turn h.clk (by omega)).1, fun i hi => hrs _ (h.srv i hi), h.n0, h.n1, by show 0 ≤ K.syn + 1; have := h.s0; omega, by show K.syn + 1 ≤ _; omega⟩
theorem Cs.Ok.hear {rs : Srv → Srv} (hrs : ∀ s : Srv, s.ok → (rs s).ok) {K : Cs} {z : Nat → Int} {n : Nat} {x : Int} {N : Nat} (h : K.Ok N) (hs : K.syn < 1000000000) (i : Nat) (hi : i < N) (count : Int) (hc : count ≤ 9223372036854775807) (p : Pk) : (hearK rs z n x N K i count p).2.Ok N := by
  have hcl := h.clr i hi
  have hrd := hcl.read count hc
  unfold hearK
  split
  · exact h
  split
  · exact h
  split
  · exact hcl
  split
  · exact hcl
  rw [hear1_eq]
  split
  · exact hrd
  rw [hear2_eq]
  split
  · exact hrd
  have ck := hrd.clk
  unfold Ok3 at ck
  have bd := smpV_bd ((readK (clrK K i) count).S i).a (tmsV z n x p (readK (clrK K i) count).t).1 (tmsV z n x p (readK (clrK K i) count).t).2.1 (readK (clrK K i) count).t p.d p.r
  exact (hrd.smp i hi _ _ _ (by omega) (by omega) bd.1 bd.2).turn hrs hs _
end Go.Proofs.YtepdnkpmkhjlgaaGreat

