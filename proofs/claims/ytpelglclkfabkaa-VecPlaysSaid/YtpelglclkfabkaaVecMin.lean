/- slices.MinFunc of stamps by hlc.Compare; vec.Least. -/
import Derived.Test.YtpelglclkfabkaaHlcCmp
import Derived.Test.YtpelglclkfabkaaInts2
set_option linter.unusedSimpArgs false
set_option linter.unusedVariables false
namespace Go.Proofs.Ytpelglclkfabkaa
open Go.RowKit

/-- Is the second one less? -/
def lt2 (m c p q : Int) : Bool := decide (cmp2 p q m c < 0)
def mnS (p q : Nat → Int) : Nat → Int × Int
  | 0 => (0, 0)
  | k + 1 => if k = 0 then (p 0, q 0) else if lt2 (mnS p q k).1 (mnS p q k).2 (p k) (q k) then (p k, q k) else mnS p q k
theorem mnS_step (p q : Nat → Int) (k : Nat) (h : k ≠ 0) : mnS p q (k + 1) = if lt2 (mnS p q k).1 (mnS p q k).2 (p k) (q k) then (p k, q k) else mnS p q k := by
  show (if k = 0 then _ else _) = _
  rw [if_neg h]
set_option maxHeartbeats 4000000 in
theorem min_func (p q : Nat → Int) (A : Option Addr) (n c : Nat) (w : World) (hn1 : 1 ≤ n) (hn : n ≤ 100000) (hz : PairsAt w A n p q) :
    Calls Try.prog 27 #[.slice A n c, .func (.func 28) #[] #[]] w fun e w' => e = .returned (.agg #[.int .i64 (mnS p q n).1, .int .i64 (mnS p q n).2]) ∧ Below w.heap.size w w' := by
  have HB0 : Below w.heap.size w ((w.alloc (.cells #[.int .i64 0, .int .i64 0] 32)).alloc (.cells #[.int .i64 (p 0), .int .i64 (q 0)] 32)) := by (repeat' (first | (with_reducible exact Below.refl _ _) | (with_reducible assumption) | (with_reducible refine Below.trans ?_ (Below.mono (by with_reducible assumption) ?_)) | (with_reducible refine Below.alloc ?_ ?_ _) | (with_reducible refine Below.setCell ?_ ?_ _) | (with_reducible refine below_drewN ?_ _) | (with_reducible refine Below.drew ?_) | go_size))
  obtain ⟨B, O, rfl, hB, hcells⟩ := hz (by omega)
  have z0 : w.cell? ⟨B, O, none⟩ = some (.int .i64 (p 0)) := by simpa using (hcells 0 (by omega)).1
  have z1 : w.cell? ⟨B, O + 1, none⟩ = some (.int .i64 (q 0)) := by simpa using (hcells 0 (by omega)).2
  have n1' : (1 : Int) ≤ (n : Int) := by omega
  have n0' : (0 : Int) < (n : Int) := by omega
  have HC := Lib.hid hcells
  have i0 := ((Ints2.new w 0 0 32).alloc (.cells #[.int .i64 (p 0), .int .i64 (q 0)] 32))
  have i1 := Ints2.new1 w (.cells #[.int .i64 0, .int .i64 0] 32) (p 0) (q 0) 32
  have J0 := Lib.hid i0
  have J1 := Lib.hid i1
  have lB1 : B < w.heap.size + 1 := by omega
  clear hcells hz i0 i1
  go_enter Try.func27, Try.ntmps27
  go_wp2
  go_loopw [6] (fun i wr => ∃ k : Nat, 1 ≤ k ∧ k ≤ n ∧ i = .int .i64 k ∧ Ints2 wr w.heap.size 0 0 ∧ Ints2 wr (w.heap.size + 1) (mnS p q k).1 (mnS p q k).2 ∧ Below w.heap.size w wr) (fun i _ => n - (intOf i).toNat)
  case atStart => exact ⟨1, by omega, by omega, rfl, J0.out, J1.out, HB0⟩
  case round =>
    obtain ⟨k, hk1, hk, rfl, I0, I1, HB⟩ := hrel
    clear J0 J1 HB0
    have lr := I1.lt
    have l0 : w.heap.size < wr.heap.size := by omega
    have lB : B < wr.heap.size := by omega
    by_cases hlt : k < n
    · have lk : (k : Int) < (n : Int) := by omega
      have x2 : wr.cell? ⟨B, O + k * 2, none⟩ = some (.int .i64 (p k)) := (HB.cell (p := ⟨B, O + k * 2, none⟩) hB).trans (HC.out k hlt).1
      have x3 : wr.cell? ⟨B, O + k * 2 + 1, none⟩ = some (.int .i64 (q k)) := (HB.cell (p := ⟨B, O + k * 2 + 1, none⟩) hB).trans (HC.out k hlt).2
      have I1' := I1
      obtain ⟨x0, x1, g0, g1, _⟩ := I1'
      have ms := mnS_step p q k (by omega)
      generalize hm : mnS p q k = m at *
      obtain ⟨m1, m2⟩ := m
      generalize p k = pk at *
      generalize q k = qk at *
      cases hg : lt2 m1 m2 pk qk
      · have hg' : decide (cmp2 pk qk m1 m2 < 0) = false := hg
        have H0 : Hid (mnS p q (k + 1) = (m1, m2)) := Lib.hid (by rw [ms]; simp [hg])
        clear ms hm hg
        go_wp2
        go_region_held3 (fun w' => w'.cell? ⟨B, O + k * 2, none⟩ = some (.int .i64 pk) ∧ w'.cell? ⟨B, O + k * 2 + 1, none⟩ = some (.int .i64 qk) ∧ w'.cell? ⟨w.heap.size + 1, 0, none⟩ = some (.int .i64 m1) ∧ w'.cell? ⟨w.heap.size + 1, 1, none⟩ = some (.int .i64 m2)) (first | (simp [go_sem, x2, x3, x0, x1]; done) | (simp [go_sem, hc5 _ _ lB, hc5 _ _ lr, x2, x3, x0, x1]; done))
          (first | (go_at_call 28; refine (hlc_compare _ _ _ _ _).mono ?_; rintro e w5 ⟨rfl, hb5⟩; obtain ⟨hc5, hf5⟩ := bcell hb5; have hz5 := hb5.size; (try simp only [World.size_alloc, World.size_setCell, World.heap_drewN] at hb5 hc5 hf5 hz5); (try have ha05 : w.heap.size < w5.heap.size := by omega); (try have ha15 : w.heap.size + 1 < w5.heap.size := by omega); (try have ha25 : w.heap.size + 2 < w5.heap.size := by omega); (try have hal5 : w.heap.size ≤ w5.heap.size := by omega); (try have ham5 : w.heap.size < w5.heap.size + 2 := by omega); (try have hb05 : wr.heap.size < w5.heap.size := by omega); (try have hb15 : wr.heap.size + 1 < w5.heap.size := by omega); (try have hb25 : wr.heap.size + 2 < w5.heap.size := by omega); (try have hbl5 : wr.heap.size ≤ w5.heap.size := by omega); (try have hbm5 : wr.heap.size < w5.heap.size + 2 := by omega)))
        have K0 : Ints2 w5 w.heap.size 0 0 := by first | exact I0.below hb5 l0 | exact I0.drew.below hb5 l0
        have K1 : Ints2 w5 (w.heap.size + 1) m1 m2 := by first | exact I1.below hb5 lr | exact I1.drew.below hb5 lr
        have HB5 : Below w.heap.size w w5 := by first | exact HB.trans (hb5.mono HB.size) | exact (Below.drew HB).trans (hb5.mono HB.size)
        go_wp2
        go_roundw
        case rel => exact ⟨k + 1, by omega, by omega, by go_num, K0, by rw [H0.out]; exact K1, HB5⟩
        case measure => simp [intOf]; omega
      · have hg' : decide (cmp2 pk qk m1 m2 < 0) = true := hg
        have H0 : Hid (mnS p q (k + 1) = (pk, qk)) := Lib.hid (by rw [ms]; simp [hg])
        clear ms hm hg
        go_wp2
        go_region_held3 (fun w' => w'.cell? ⟨B, O + k * 2, none⟩ = some (.int .i64 pk) ∧ w'.cell? ⟨B, O + k * 2 + 1, none⟩ = some (.int .i64 qk) ∧ w'.cell? ⟨w.heap.size + 1, 0, none⟩ = some (.int .i64 m1) ∧ w'.cell? ⟨w.heap.size + 1, 1, none⟩ = some (.int .i64 m2)) (first | (simp [go_sem, x2, x3, x0, x1]; done) | (simp [go_sem, hc5 _ _ lB, hc5 _ _ lr, x2, x3, x0, x1]; done))
          (first | (go_at_call 28; refine (hlc_compare _ _ _ _ _).mono ?_; rintro e w5 ⟨rfl, hb5⟩; obtain ⟨hc5, hf5⟩ := bcell hb5; have hz5 := hb5.size; (try simp only [World.size_alloc, World.size_setCell, World.heap_drewN] at hb5 hc5 hf5 hz5); (try have ha05 : w.heap.size < w5.heap.size := by omega); (try have ha15 : w.heap.size + 1 < w5.heap.size := by omega); (try have ha25 : w.heap.size + 2 < w5.heap.size := by omega); (try have hal5 : w.heap.size ≤ w5.heap.size := by omega); (try have ham5 : w.heap.size < w5.heap.size + 2 := by omega); (try have hb05 : wr.heap.size < w5.heap.size := by omega); (try have hb15 : wr.heap.size + 1 < w5.heap.size := by omega); (try have hb25 : wr.heap.size + 2 < w5.heap.size := by omega); (try have hbl5 : wr.heap.size ≤ w5.heap.size := by omega); (try have hbm5 : wr.heap.size < w5.heap.size + 2 := by omega)))
        have K0 : Ints2 w5 w.heap.size 0 0 := by first | exact I0.below hb5 l0 | exact I0.drew.below hb5 l0
        have K1 : Ints2 w5 (w.heap.size + 1) m1 m2 := by first | exact I1.below hb5 lr | exact I1.drew.below hb5 lr
        have HB5 : Below w.heap.size w w5 := by first | exact HB.trans (hb5.mono HB.size) | exact (Below.drew HB).trans (hb5.mono HB.size)
        have l5 := K1.lt
        have y2 : w5.cell? ⟨B, O + k * 2, none⟩ = some (.int .i64 pk) := (hc5 _ _ lB).trans x2
        have y3 : w5.cell? ⟨B, O + k * 2 + 1, none⟩ = some (.int .i64 qk) := (hc5 _ _ lB).trans x3
        have f0 := K1.f0
        have f1 := K1.f1
        have z0' := K1.c0
        have z1' := K1.c1
        clear hc5 hf5
        go_wp2
        go_roundw
        case rel =>
          refine ⟨k + 1, by omega, by omega, by go_num, ?_, ?_, ?_⟩
          · exact ((K0.other (by simp) _).other (by simp) _)
          · rw [H0.out]
            exact ((K1.set0 _).set1 _)
          · (repeat' (first | (with_reducible exact Below.refl _ _) | (with_reducible assumption) | (with_reducible refine Below.trans ?_ (Below.mono (by with_reducible assumption) ?_)) | (with_reducible refine Below.alloc ?_ ?_ _) | (with_reducible refine Below.setCell ?_ ?_ _) | (with_reducible refine below_drewN ?_ _) | (with_reducible refine Below.drew ?_) | go_size))
        case measure => simp [intOf]; omega
    · obtain rfl : k = n := by omega
      have R0 := (I0.set0 (mnS p q k).1).c0
      have R1 := ((I0.set0 (mnS p q k).1).set1 (mnS p q k).2).c1
      obtain ⟨x0, x1, g0, g1, lt⟩ := I1
      obtain ⟨y0, y1, f0, f1, lt'⟩ := I0
      go_wp2
      refine bodyPost_ret (v := .agg #[.int .i64 (mnS p q k).1, .int .i64 (mnS p q k).2]) (by simp [results, Try.results27, go_sem, R0, R1]) rfl ⟨rfl, ?_⟩
      go_light
      (repeat' (first | (with_reducible exact Below.refl _ _) | (with_reducible assumption) | (with_reducible refine Below.trans ?_ (Below.mono (by with_reducible assumption) ?_)) | (with_reducible refine Below.alloc ?_ ?_ _) | (with_reducible refine Below.setCell ?_ ?_ _) | (with_reducible refine below_drewN ?_ _) | (with_reducible refine Below.drew ?_) | go_size))
set_option maxHeartbeats 1000000 in
theorem vec_least (p q : Nat → Int) (A : Option Addr) (n c : Nat) (w : World) (hn : n ≤ 100000) (hz : PairsAt w A n p q) :
    Calls Try.prog 23 #[.slice A n c] w fun e w' => e = .returned (.agg #[.int .i64 (mnS p q n).1, .int .i64 (mnS p q n).2]) ∧ Below w.heap.size w w' := by
  have HB0 : Below w.heap.size w (w.alloc (.cells #[.int .i64 0, .int .i64 0] 32)) := by (repeat' (first | (with_reducible exact Below.refl _ _) | (with_reducible assumption) | (with_reducible refine Below.trans ?_ (Below.mono (by with_reducible assumption) ?_)) | (with_reducible refine Below.alloc ?_ ?_ _) | (with_reducible refine Below.setCell ?_ ?_ _) | (with_reducible refine below_drewN ?_ _) | (with_reducible refine Below.drew ?_) | go_size))
  have i0 := Ints2.new w 0 0 32
  by_cases h0 : n = 0
  · subst h0
    have R0 := (i0.set0 0).c0
    have R1 := ((i0.set0 0).set1 0).c1
    clear i0
    go_enter Try.func23, Try.ntmps23
    go_wp2
    refine bodyPost_ret (v := .agg #[.int .i64 0, .int .i64 0]) (by simp [results, Try.results23, go_sem]) rfl ⟨rfl, ?_⟩
    go_light
    (repeat' (first | (with_reducible exact Below.refl _ _) | (with_reducible assumption) | (with_reducible refine Below.trans ?_ (Below.mono (by with_reducible assumption) ?_)) | (with_reducible refine Below.alloc ?_ ?_ _) | (with_reducible refine Below.setCell ?_ ?_ _) | (with_reducible refine below_drewN ?_ _) | (with_reducible refine Below.drew ?_) | go_size))
  · have e0 : ((n : Int) == 0) = false := by simp; omega
    have HP := Lib.hid (hz.below HB0)
    have n1 : 1 ≤ n := by omega
    clear hz h0
    have J0 := Lib.hid i0
    clear i0
    go_enter Try.func23, Try.ntmps23
    go_wp2_with fail
    refine (min_func p q A n c _ n1 hn HP.out).mono ?_; rintro e w5 ⟨rfl, hb5⟩
    have K0 := J0.out.below hb5 (by simp)
    have HB5 : Below w.heap.size w w5 := HB0.trans (hb5.mono HB0.size)
    have R0 := (K0.set0 (mnS p q n).1).c0
    have R1 := ((K0.set0 (mnS p q n).1).set1 (mnS p q n).2).c1
    obtain ⟨y0, y1, f0, f1, lt'⟩ := K0
    clear hb5
    go_wp2
    refine bodyPost_ret (v := .agg #[.int .i64 (mnS p q n).1, .int .i64 (mnS p q n).2]) (by simp [results, Try.results23, go_sem, R0, R1]) rfl ⟨rfl, ?_⟩
    go_light
    (repeat' (first | (with_reducible exact Below.refl _ _) | (with_reducible assumption) | (with_reducible refine Below.trans ?_ (Below.mono (by with_reducible assumption) ?_)) | (with_reducible refine Below.alloc ?_ ?_ _) | (with_reducible refine Below.setCell ?_ ?_ _) | (with_reducible refine below_drewN ?_ _) | (with_reducible refine Below.drew ?_) | go_size))
end Go.Proofs.Ytpelglclkfabkaa
