/- lease.Leases with one lease: Renew, Expire. -/
import Derived.Test.YtacchkokbibeaaaLeaseAt
import Derived.Lib.SliceRun
set_option linter.unusedSimpArgs false
set_option linter.unusedVariables false
namespace Go.Proofs.Ytacchkokbibeaaa
open Go.RowKit

theorem One.setU {w : World} {b g cap : Nat} {m c u : Int} (h : One w b g cap m c u) (v : Int) : One (w.setCell ⟨g, 3, none⟩ (.int .i64 v)) b g cap m c v :=
  ⟨(World.cell?_setCell_other _ _ _ _ (fun e => h.ne (congrArg Addr.block e).symm)).trans h.c0, (World.cell?_setCell_other _ _ _ _ (fun e => h.ne (congrArg Addr.block e).symm)).trans h.c1, by simpa using h.f0, by simpa using h.f1, by simpa [World.setCell] using h.lt,
   (World.cell?_setCell_other _ _ _ _ (by simp)).trans h.r0, (World.cell?_setCell_other _ _ _ _ (by simp)).trans h.r1, (World.cell?_setCell_other _ _ _ _ (by simp)).trans h.r2, World.cell?_setCell_same _ _ _ h.r3, fun o => by simpa using h.rf o, by simpa [World.setCell] using h.gt, h.ne⟩
def mxI (u l : Int) : Int := if u < l then l else u
set_option maxHeartbeats 1000000 in
theorem lease_renew_old (b g cap : Nat) (m c u now l : Int) (w : World) (h : One w b g cap m c u) (hn : u ≤ now) : Calls Try.prog 13 #[.pointer (some ⟨b, 0, none⟩), .int .i64 0, .int .i64 now, .int .i64 l] w fun e w' => e = .returned (.int .i64 19) ∧ Below w.heap.size w w' := by
  have HH := Lib.hid h
  clear h
  go_enter Try.func13, Try.ntmps13
  go_wp2_with fail
  refine (lease_at_old b g cap m c u now _ HH.out hn).mono ?_; rintro e w1 ⟨rfl, hb1⟩
  go_wp2
  go_ret
  exact ⟨rfl, hb1⟩
set_option maxHeartbeats 1000000 in
theorem lease_renew_ok (b g cap : Nat) (m c u now l : Int) (w : World) (h : One w b g cap m c u) (hn : now < u) : Calls Try.prog 13 #[.pointer (some ⟨b, 0, none⟩), .int .i64 0, .int .i64 now, .int .i64 l] w fun e w' => e = .returned (.int .i64 0) ∧ Only g w w' ∧ One w' b g cap m c (mxI u l) := by
  have HH := Lib.hid h
  clear h
  unfold mxI
  rcases (show u < l ∨ u = l ∨ l < u from by omega) with hq | hq | hq
  · have t1 : decide (u < l) = true := by simpa using hq
    have t2 : decide (l < u) = false := by simp only [decide_eq_false_iff_not]; omega
    rw [if_pos hq]
    go_enter Try.func13, Try.ntmps13
    go_wp2_with fail
    refine (lease_at_ok b g cap m c u now _ HH.out hn).mono ?_; rintro e w1 ⟨rfl, hb1⟩
    have H1 := HH.out.below hb1
    have HS := Lib.hid (H1.setU l)
    have r3 := H1.r3
    have rf := H1.rf 3
    have HO : Only g w w1 := Only.of_below hb1
    clear H1 hb1
    go_wp2
    go_ret
    go_light
    exact ⟨rfl, HO.setB _, HS.out⟩
  · subst hq
    have t1 : decide (u < u) = false := by simp
    rw [if_neg (by omega)]
    go_enter Try.func13, Try.ntmps13
    go_wp2_with fail
    refine (lease_at_ok b g cap m c u now _ HH.out hn).mono ?_; rintro e w1 ⟨rfl, hb1⟩
    have H1 := HH.out.below hb1
    have HS := Lib.hid (H1.setU u)
    have r3 := H1.r3
    have rf := H1.rf 3
    have HO : Only g w w1 := Only.of_below hb1
    clear H1 hb1
    go_wp2
    go_ret
    go_light
    exact ⟨rfl, HO.setB _, HS.out⟩
  · have t1 : decide (u < l) = false := by simp only [decide_eq_false_iff_not]; omega
    have t2 : decide (l < u) = true := by simpa using hq
    rw [if_neg (by omega)]
    go_enter Try.func13, Try.ntmps13
    go_wp2_with fail
    refine (lease_at_ok b g cap m c u now _ HH.out hn).mono ?_; rintro e w1 ⟨rfl, hb1⟩
    have H1 := HH.out.below hb1
    have HS := Lib.hid (H1.setU u)
    have r3 := H1.r3
    have rf := H1.rf 3
    have HO : Only g w w1 := Only.of_below hb1
    clear H1 hb1
    go_wp2
    go_ret
    go_light
    exact ⟨rfl, HO.setB _, HS.out⟩
/-- Leases of which none is left. -/
structure Emp (w : World) (b g cap : Nat) : Prop where
  c0 : w.cell? ⟨b, 0, none⟩ = some (.slice (some ⟨g, 0, none⟩) 0 cap)
  lt : b < w.heap.size
theorem lease_find_none (b g cap : Nat) (w : World) (h : Emp w b g cap) : Calls Try.prog 29 #[.pointer (some ⟨b, 0, none⟩), .int .i64 0] w fun e w' => e = .returned (.tuple #[.int .i64 0, .bool false]) ∧ w = w' := by
  have HB : Calls Try.prog 36 #[.slice (some ⟨g, 0, none⟩) 0 cap, .int .i64 0, .func (.func 37) #[] #[]] w fun e w' => e = .returned (.tuple #[.int .i64 0, .bool false]) ∧ w = w' := by
    clear h
    go_enter Try.func36, Try.ntmps36
    go_wp2
    refine wp_loop_rounds 1 ?_
    rw [rounds_succ]
    go_wp2
    go_ret2
    exact ⟨rfl, rfl⟩
  have HBB := Lib.hid HB
  have c0 := h.c0
  clear HB
  go_enter Try.func29, Try.ntmps29
  go_wp2_with fail
  refine HBB.out.mono ?_; rintro e w1 ⟨rfl, rfl⟩
  go_wp2
  go_ret2
  exact ⟨rfl, rfl⟩
theorem lease_renew_none (b g cap : Nat) (now l : Int) (w : World) (h : Emp w b g cap) : Calls Try.prog 13 #[.pointer (some ⟨b, 0, none⟩), .int .i64 0, .int .i64 now, .int .i64 l] w fun e w' => e = .returned (.int .i64 7) ∧ w = w' := by
  have HA : Calls Try.prog 27 #[.pointer (some ⟨b, 0, none⟩), .int .i64 0, .int .i64 now] w fun e w' => e = .returned (.tuple #[.pointer none, .int .i64 7]) ∧ w = w' := by
    have HH := Lib.hid h
    clear h
    go_enter Try.func27, Try.ntmps27
    go_wp2_with fail
    refine (lease_find_none b g cap _ HH.out).mono ?_; rintro e w1 ⟨rfl, rfl⟩
    go_wp2
    go_ret2
    exact ⟨rfl, rfl⟩
  have HAA := Lib.hid HA
  clear HA h
  go_enter Try.func13, Try.ntmps13
  go_wp2_with fail
  refine HAA.out.mono ?_; rintro e w1 ⟨rfl, rfl⟩
  go_wp2
  go_ret
  exact ⟨rfl, rfl⟩
theorem expire_cl (a m c u now : Int) (nb : Nat) (w : World) (h : w.cell? ⟨nb, 0, none⟩ = some (.int .i64 now)) (lt : nb < w.heap.size) (hn : u ≤ now) : Calls Try.prog 33 #[.agg #[.int .i64 a, .int .i64 m, .int .i64 c, .int .i64 u], .pointer (some ⟨nb, 0, none⟩)] w fun e w' => e = .returned (.bool true) ∧ Below w.heap.size w w' := by
  have l1 : nb < w.heap.size + 1 := by omega
  have t1 : decide (u ≤ now) = true := by simpa using hn
  go_enter Try.func33, Try.ntmps33
  go_wp2
  go_ret
  go_light
  exact ⟨rfl, by (repeat' (first | (with_reducible exact Below.refl _ _) | (with_reducible assumption) | (with_reducible refine Below.trans ?_ (Below.mono (by with_reducible assumption) ?_)) | (with_reducible refine Below.alloc ?_ ?_ _) | (with_reducible refine Below.setCell ?_ ?_ _) | (with_reducible refine below_drewN ?_ _) | (with_reducible refine Below.drew ?_) | go_size))⟩
set_option maxHeartbeats 1000000 in
theorem index_func (b g cap : Nat) (m c u now : Int) (nb : Nat) (w : World) (h : One w b g cap m c u) (hc : w.cell? ⟨nb, 0, none⟩ = some (.int .i64 now)) (lt : nb < w.heap.size) (hn : u ≤ now) : Calls Try.prog 39 #[.slice (some ⟨g, 0, none⟩) 1 cap, .func (.func 33) #[] #[.pointer (some ⟨nb, 0, none⟩)]] w fun e w' => e = .returned (.int .i64 0) ∧ Below w.heap.size w w' := by
  have r0 := h.r0
  have r1 := h.r1
  have r2 := h.r2
  have r3 := h.r3
  have HX := Lib.hid (expire_cl 0 m c u now nb w hc lt hn)
  clear h hc hn
  go_enter Try.func39, Try.ntmps39
  go_wp2
  refine wp_loop_rounds 2 ?_
  rw [rounds_succ]
  go_wp2_with fail
  refine HX.out.mono ?_; rintro e w1 ⟨rfl, hb1⟩
  go_wp2
  go_ret
  exact ⟨rfl, hb1⟩
theorem clear_one (b g cap : Nat) (m c u : Int) (w : World) (h : One w b g cap m c u) (ty : TypeId) : (Builtin.clear_ #[58] ty #[.slice (some ⟨g, 0, none⟩) 1 cap]).run Try.prog w = .ok (.tuple #[]) ((((w.setCell ⟨g, 0, none⟩ (.int .i64 0)).setCell ⟨g, 1, none⟩ (.int .i64 0)).setCell ⟨g, 2, none⟩ (.int .i64 0)).setCell ⟨g, 3, none⟩ (.int .i64 0)) := by
  have hv : (zeroValue 65).run Try.prog w = .ok (.agg #[.int .i64 0, .int .i64 0, .int .i64 0, .int .i64 0]) w := by kernel_rfl
  have hzc : (Builtin.zeroCells (Value.agg #[.int .i64 0, .int .i64 0, .int .i64 0, .int .i64 0]).cells 1).toList = [.int .i64 0, .int .i64 0, .int .i64 0, .int .i64 0] := by kernel_rfl
  have hst := run_storeCells_cells (P := Try.prog) g 0 [.int .i64 0, .int .i64 0, .int .i64 0, .int .i64 0] 0 w (by
    intro j hj
    rcases (show j = 0 ∨ j = 1 ∨ j = 2 ∨ j = 3 from by simp at hj; omega) with rfl | rfl | rfl | rfl
    · simp [h.r0]
    · simp [h.r1]
    · simp [h.r2]
    · simp [h.r3]) (fun j _ => h.rf _) (by intro v hv'; simp at hv'; subst hv'; rfl)
  simp only [Nat.add_zero] at hst
  have e : w.setCells g 0 [.int .i64 0, .int .i64 0, .int .i64 0, .int .i64 0] = ((((w.setCell ⟨g, 0, none⟩ (.int .i64 0)).setCell ⟨g, 1, none⟩ (.int .i64 0)).setCell ⟨g, 2, none⟩ (.int .i64 0)).setCell ⟨g, 3, none⟩ (.int .i64 0)) := rfl
  rw [e] at hst
  simp [Builtin.clear_, run_underlying Try.underlying58, hv, hzc, hst]
set_option maxHeartbeats 2000000 in
theorem delete_func (b g cap : Nat) (m c u now : Int) (nb : Nat) (w : World) (h : One w b g cap m c u) (hc : w.cell? ⟨nb, 0, none⟩ = some (.int .i64 now)) (lt : nb < w.heap.size) (hn : u ≤ now) : Calls Try.prog 32 #[.slice (some ⟨g, 0, none⟩) 1 cap, .func (.func 33) #[] #[.pointer (some ⟨nb, 0, none⟩)]] w fun e w' => e = .returned (.slice (some ⟨g, 0, none⟩) 0 cap) ∧ Only g w w' := by
  have HX := Lib.hid (index_func b g cap m c u now nb w h hc lt hn)
  have HH := Lib.hid h
  clear h hc hn lt
  go_enter Try.func32, Try.ntmps32
  go_wp2_with fail
  refine HX.out.mono ?_; rintro e w1 ⟨rfl, hb1⟩
  have H1 := HH.out.below hb1
  have r0 := H1.r0
  have r1 := H1.r1
  have r2 := H1.r2
  have r3 := H1.r3
  have rf := H1.rf
  have HO : Only g w w1 := Only.of_below hb1
  have lg := H1.gt
  have hcl := clear_one b g cap m c u w1 H1
  clear H1 hb1 r0 r1 r2 r3 rf
  go_wp2
  refine wp_loop_rounds 1 ?_
  rw [rounds_succ]
  go_wp2
  go_ret
  go_light
  exact ⟨rfl, (((HO.setB _).setB _).setB _).setB _⟩
set_option maxHeartbeats 2000000 in
theorem lease_expire (b g cap : Nat) (m c u now : Int) (w : World) (h : One w b g cap m c u) (hn : u ≤ now) : Calls Try.prog 17 #[.pointer (some ⟨b, 0, none⟩), .int .i64 now] w fun e w' => e = .returned (.int .i64 1) ∧ (∀ B, B ≤ b → B ≤ g → B ≤ w.heap.size → Below B w w') ∧ Emp w' b g cap := by
  have HH := Lib.hid h
  have c0 := h.c0
  have lb := h.lt
  have lb1 : b < w.heap.size + 1 := by omega
  clear h
  go_enter Try.func17, Try.ntmps17
  have HBx : Below w.heap.size w (w.alloc (.cells #[.int .i64 now] 3)) := by (repeat' (first | (with_reducible exact Below.refl _ _) | (with_reducible assumption) | (with_reducible refine Below.trans ?_ (Below.mono (by with_reducible assumption) ?_)) | (with_reducible refine Below.alloc ?_ ?_ _) | (with_reducible refine Below.setCell ?_ ?_ _) | (with_reducible refine below_drewN ?_ _) | (with_reducible refine Below.drew ?_) | go_size))
  have hc : (w.alloc (.cells #[.int .i64 now] 3)).cell? ⟨w.heap.size, 0, none⟩ = some (.int .i64 now) := by simp
  have HD := Lib.hid (delete_func b g cap m c u now w.heap.size _ (HH.out.below HBx) hc (by simp) hn)
  have f0 := (HH.out.below HBx).f0
  have c0' := (HH.out.below HBx).c0
  have lb' := (HH.out.below HBx).lt
  have ne := HH.out.ne
  clear hc hn
  go_wp2_with fail
  refine HD.out.mono ?_; rintro e w2 ⟨rfl, ho⟩
  have x0 := (ho.cell b 0 lb' ne).trans c0'
  have y0 := (ho.frozen b 0 lb' ne).trans f0
  have l2 : b < w2.heap.size := Nat.lt_of_lt_of_le lb' ho.size
  have HB2 := Lib.hid fun (B : Nat) (h1 : B ≤ b) (h2 : B ≤ g) (h3 : B ≤ w.heap.size) => (show Below B w w2 from (HBx.mono h3).trans (ho.below h2 (Nat.le_trans h3 HBx.size)))
  have z0 := World.cell?_setCell_same w2 ⟨b, 0, none⟩ (.slice (some ⟨g, 0, none⟩) 0 cap) x0
  have HZ := Lib.hid z0
  clear HD ho c0 c0' f0 z0
  go_wp2
  go_ret
  go_light
  exact ⟨rfl, fun B h1 h2 h3 => (HB2.out B h1 h2 h3).setCell h1 _, ⟨HZ.out, by simpa [World.setCell] using l2⟩⟩
end Go.Proofs.Ytacchkokbibeaaa
