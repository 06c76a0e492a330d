/- Stage 15: ChainTTL: a value with a time is seen from its stamp on, ahead of its milliseconds' end, and at no other stamp: for every version, milliseconds and count (written by gen/s15v.py). -/
import Derived.Test.YtfjnjababehmmaaS15W
import Derived.Test.YtfjnjababehmmaaChAny
set_option linter.unusedSimpArgs false
set_option linter.unusedVariables false
namespace Go.Proofs.Ytfjnjababehmmaa
open Go.ChangeShapes Go.WideShapes Go.ChangeAt Go.RowKit Go.Joins Go.Deep Go.Sort

theorem int_bd {x : Int} (hw : (Lit.int .i64 x).wf = true) : -9223372036854775808 ≤ x ∧ x ≤ 9223372036854775807 := by
  simp [Lit.wf, IntKind.min, IntKind.max, IntKind.signed, IntKind.bits] at hw
  omega
theorem wf_of {x : Int} (h : -9223372036854775808 ≤ x ∧ x ≤ 9223372036854775807) : (Lit.int .i64 x).wf = true := by
  simp [Lit.wf, IntKind.min, IntKind.max, IntKind.signed, IntKind.bits]
  omega
set_option maxRecDepth 100000 in
set_option maxHeartbeats 8000000 in
theorem ttl_no (ml ct vo : Int) (A : Option Addr) (val : List Int) (cc : Nat) (gn : Bool) (tt by_ cnt : Int) (w : World) (hby : ByL w A val) (hn : A = none → val.length = 0) (hy : isBy val) (ho : okV ml ct vo val.length gn tt = false) :
    Calls Try.prog 6 #[verV ml ct vo A val.length cc gn tt, .int .i64 by_, .int .i64 cnt] w fun e w' => e = .returned (.bool true) ∧ Below w.heap.size w w' := by
  have HB0 : Hid (Below w.heap.size w (w.alloc (verO ml ct vo A val.length cc gn tt))) := Lib.hid (by (repeat' (first | (with_reducible exact Below.refl _ _) | (with_reducible assumption) | (with_reducible refine Below.trans ?_ (Below.mono (by with_reducible assumption) ?_)) | (with_reducible refine Below.alloc ?_ ?_ _) | (with_reducible refine Below.setCell ?_ ?_ _) | (with_reducible refine below_drewN ?_ _) | (with_reducible refine Below.drew ?_) | go_size)))
  have HV0 := fun W => ref_version ml ct vo A val.length cc gn tt W
  have HI0 := fun W => ch_is ml ct vo A val.length cc gn tt W
  rw [ho] at HV0 HI0
  have HV := Lib.hid HV0
  have HI := Lib.hid HI0
  clear ho HV0 HI0 hby hn hy
  go_enter Try.func6, Try.ntmps6
  go_wp2_with fail
  refine (HV.out _).mono ?_; rintro e w1 ⟨rfl, hb1⟩
  have q0 : w1.cell? ⟨w.heap.size, 0, none⟩ = some (.int .i64 ml) := (hb1.cell (p := ⟨w.heap.size, 0, none⟩) (by simp)).trans (by simp)
  have q1 : w1.cell? ⟨w.heap.size, 1, none⟩ = some (.int .i64 ct) := (hb1.cell (p := ⟨w.heap.size, 1, none⟩) (by simp)).trans (by simp)
  have q2 : w1.cell? ⟨w.heap.size, 2, none⟩ = some (.int .i64 vo) := (hb1.cell (p := ⟨w.heap.size, 2, none⟩) (by simp)).trans (by simp)
  have q3 : w1.cell? ⟨w.heap.size, 3, none⟩ = some (.slice A val.length cc) := (hb1.cell (p := ⟨w.heap.size, 3, none⟩) (by simp)).trans (by simp)
  have q4 : w1.cell? ⟨w.heap.size, 4, none⟩ = some (.bool gn) := (hb1.cell (p := ⟨w.heap.size, 4, none⟩) (by simp)).trans (by simp)
  have q5 : w1.cell? ⟨w.heap.size, 5, none⟩ = some (.int .i64 tt) := (hb1.cell (p := ⟨w.heap.size, 5, none⟩) (by simp)).trans (by simp)
  have HB1 := Lib.hid (HB0.out.trans (hb1.mono HB0.out.size))
  clear hb1
  go_wp2_with fail
  refine (HI.out _).mono ?_; rintro e w2 ⟨rfl, hb2⟩
  have HB2 := Lib.hid (HB1.out.trans (hb2.mono HB1.out.size))
  clear hb2 q0 q1 q2 q3 q4 q5
  go_wp2_with fail
  refine (known15 _).mono ?_; rintro e w3 ⟨rfl, hb3⟩
  have HB3 := Lib.hid (HB2.out.trans (hb3.mono HB2.out.size))
  clear hb3
  go_wp2
  go_ret
  exact ⟨rfl, HB3.out⟩
set_option maxRecDepth 100000 in
set_option maxHeartbeats 8000000 in
theorem ttl_far (ml ct vo : Int) (A : Option Addr) (val : List Int) (cc : Nat) (gn : Bool) (tt by_ cnt : Int) (w : World) (hby : ByL w A val) (hn : A = none → val.length = 0) (hy : isBy val) (ho : okV ml ct vo val.length gn tt = true) (hf : by_ < -281474976710656 ∨ 281474976710656 < by_) :
    Calls Try.prog 6 #[verV ml ct vo A val.length cc gn tt, .int .i64 by_, .int .i64 cnt] w fun e w' => e = .returned (.bool true) ∧ Below w.heap.size w w' := by
  have HB0 : Hid (Below w.heap.size w (w.alloc (verO ml ct vo A val.length cc gn tt))) := Lib.hid (by (repeat' (first | (with_reducible exact Below.refl _ _) | (with_reducible assumption) | (with_reducible refine Below.trans ?_ (Below.mono (by with_reducible assumption) ?_)) | (with_reducible refine Below.alloc ?_ ?_ _) | (with_reducible refine Below.setCell ?_ ?_ _) | (with_reducible refine below_drewN ?_ _) | (with_reducible refine Below.drew ?_) | go_size)))
  have HV0 := fun W => ref_version ml ct vo A val.length cc gn tt W
  have hobd := ok_bd (v := ⟨ml, ct, vo, val, gn, tt⟩) ho
  rw [ho] at HV0
  have HV := Lib.hid HV0
  have HO : Hid (okV ml ct vo val.length gn tt = true) := ho
  obtain ⟨m0, m1, c0, c1, v0, v1, vl, t0, t1⟩ := hobd
  simp only at m0 m1 c0 c1 v0 v1 vl t0 t1
  have l1 : decide ((2000 : Int) < (val.length : Int)) = false := by simp only [decide_eq_false_iff_not]; omega
  have HBY := Lib.hid hby
  have HNN := Lib.hid hn
  have HYY := Lib.hid hy
  clear ho HV0 hby hn hy
  rcases hf with hf | hf
  · have f1 : decide (by_ < -281474976710656) = true := by simpa using hf
    go_enter Try.func6, Try.ntmps6
    go_wp2_with fail
    refine (HV.out _).mono ?_; rintro e w1 ⟨rfl, hb1⟩
    have q0 : w1.cell? ⟨w.heap.size, 0, none⟩ = some (.int .i64 ml) := (hb1.cell (p := ⟨w.heap.size, 0, none⟩) (by simp)).trans (by simp)
    have q1 : w1.cell? ⟨w.heap.size, 1, none⟩ = some (.int .i64 ct) := (hb1.cell (p := ⟨w.heap.size, 1, none⟩) (by simp)).trans (by simp)
    have q2 : w1.cell? ⟨w.heap.size, 2, none⟩ = some (.int .i64 vo) := (hb1.cell (p := ⟨w.heap.size, 2, none⟩) (by simp)).trans (by simp)
    have q3 : w1.cell? ⟨w.heap.size, 3, none⟩ = some (.slice A val.length cc) := (hb1.cell (p := ⟨w.heap.size, 3, none⟩) (by simp)).trans (by simp)
    have q4 : w1.cell? ⟨w.heap.size, 4, none⟩ = some (.bool gn) := (hb1.cell (p := ⟨w.heap.size, 4, none⟩) (by simp)).trans (by simp)
    have q5 : w1.cell? ⟨w.heap.size, 5, none⟩ = some (.int .i64 tt) := (hb1.cell (p := ⟨w.heap.size, 5, none⟩) (by simp)).trans (by simp)
    have HB1 := Lib.hid (HB0.out.trans (hb1.mono HB0.out.size))
    have lw : w.heap.size < w1.heap.size := block_lt_of_cell q0
    clear hb1
    go_wp2_with fail
    refine (known15 _).mono ?_; rintro e w3 ⟨rfl, hb3⟩
    have HB3 := Lib.hid (HB1.out.trans (hb3.mono HB1.out.size))
    clear hb3 q0 q1 q2 q3 q4 q5
    go_wp2
    go_ret
    exact ⟨rfl, HB3.out⟩
  · have f1 : decide (by_ < -281474976710656) = false := by simp only [decide_eq_false_iff_not]; omega
    have f2 : decide (281474976710656 < by_) = true := by simpa using hf
    go_enter Try.func6, Try.ntmps6
    go_wp2_with fail
    refine (HV.out _).mono ?_; rintro e w1 ⟨rfl, hb1⟩
    have q0 : w1.cell? ⟨w.heap.size, 0, none⟩ = some (.int .i64 ml) := (hb1.cell (p := ⟨w.heap.size, 0, none⟩) (by simp)).trans (by simp)
    have q1 : w1.cell? ⟨w.heap.size, 1, none⟩ = some (.int .i64 ct) := (hb1.cell (p := ⟨w.heap.size, 1, none⟩) (by simp)).trans (by simp)
    have q2 : w1.cell? ⟨w.heap.size, 2, none⟩ = some (.int .i64 vo) := (hb1.cell (p := ⟨w.heap.size, 2, none⟩) (by simp)).trans (by simp)
    have q3 : w1.cell? ⟨w.heap.size, 3, none⟩ = some (.slice A val.length cc) := (hb1.cell (p := ⟨w.heap.size, 3, none⟩) (by simp)).trans (by simp)
    have q4 : w1.cell? ⟨w.heap.size, 4, none⟩ = some (.bool gn) := (hb1.cell (p := ⟨w.heap.size, 4, none⟩) (by simp)).trans (by simp)
    have q5 : w1.cell? ⟨w.heap.size, 5, none⟩ = some (.int .i64 tt) := (hb1.cell (p := ⟨w.heap.size, 5, none⟩) (by simp)).trans (by simp)
    have HB1 := Lib.hid (HB0.out.trans (hb1.mono HB0.out.size))
    have lw : w.heap.size < w1.heap.size := block_lt_of_cell q0
    clear hb1
    go_wp2_with fail
    refine (known15 _).mono ?_; rintro e w3 ⟨rfl, hb3⟩
    have HB3 := Lib.hid (HB1.out.trans (hb3.mono HB1.out.size))
    clear hb3 q0 q1 q2 q3 q4 q5
    go_wp2
    go_ret
    exact ⟨rfl, HB3.out⟩
set_option maxRecDepth 100000 in
set_option maxHeartbeats 8000000 in
theorem ttl_gone (ml ct vo : Int) (A : Option Addr) (val : List Int) (cc : Nat) (tt by_ cnt : Int) (w : World) (hby : ByL w A val) (hn : A = none → val.length = 0) (hy : isBy val) (ho : okV ml ct vo val.length true tt = true) (hr0 : -281474976710656 ≤ by_) (hr1 : by_ ≤ 281474976710656) (hc : -9223372036854775808 ≤ cnt ∧ cnt ≤ 9223372036854775807)  :
    Calls Try.prog 6 #[verV ml ct vo A val.length cc true tt, .int .i64 by_, .int .i64 cnt] w fun e w' => e = .returned (.bool true) ∧ Below w.heap.size w w' := by
  have HB0 : Hid (Below w.heap.size w (w.alloc (verO ml ct vo A val.length cc true tt))) := Lib.hid (by (repeat' (first | (with_reducible exact Below.refl _ _) | (with_reducible assumption) | (with_reducible refine Below.trans ?_ (Below.mono (by with_reducible assumption) ?_)) | (with_reducible refine Below.alloc ?_ ?_ _) | (with_reducible refine Below.setCell ?_ ?_ _) | (with_reducible refine below_drewN ?_ _) | (with_reducible refine Below.drew ?_) | go_size)))
  have HV0 := fun W => ref_version ml ct vo A val.length cc true tt W
  have hobd := ok_bd (v := ⟨ml, ct, vo, val, true, tt⟩) ho
  rw [ho] at HV0
  have HV := Lib.hid HV0
  have HO : Hid (okV ml ct vo val.length true tt = true) := ho
  obtain ⟨m0, m1, c0, c1, v0, v1, vl, t0, t1⟩ := hobd
  simp only at m0 m1 c0 c1 v0 v1 vl t0 t1
  have l1 : decide ((2000 : Int) < (val.length : Int)) = false := by simp only [decide_eq_false_iff_not]; omega
  have HBY := Lib.hid hby
  have HNN := Lib.hid hn
  have HYY := Lib.hid hy
  have f1 : decide (by_ < -281474976710656) = false := by simp only [decide_eq_false_iff_not]; omega
  have f2 : decide (281474976710656 < by_) = false := by simp only [decide_eq_false_iff_not]; omega
  have wm : IntKind.i64.wrap (ml + by_) = ml + by_ := IntWalk.i64_in _ (by omega)
  have HSN : Hid (seenB ⟨ml, ct, vo, val, true, tt⟩ (ml + by_) cnt = false) := Lib.hid (by
    skip
    simp [seenB])
  have HSE0 := fun W => ch_seen ml ct vo A val.length cc true tt (ml + by_) cnt val W m0 t0 m1 t1 (wf_of (by omega))
  rw [HSN.out] at HSE0
  have HSE := Lib.hid HSE0
  have HWF : Hid ((Lit.int .i64 (ml + by_)).wf = true) := Lib.hid (wf_of (by omega))
  clear ho HV0 HSE0 hby hn hy  m0 m1 c0 c1 v0 v1 t0 t1 hr0 hr1 hc
  go_enter Try.func6, Try.ntmps6
  go_wp2_with fail
  refine (HV.out _).mono ?_; rintro e w1 ⟨rfl, hb1⟩
  have q0 : w1.cell? ⟨w.heap.size, 0, none⟩ = some (.int .i64 ml) := (hb1.cell (p := ⟨w.heap.size, 0, none⟩) (by simp)).trans (by simp)
  have q1 : w1.cell? ⟨w.heap.size, 1, none⟩ = some (.int .i64 ct) := (hb1.cell (p := ⟨w.heap.size, 1, none⟩) (by simp)).trans (by simp)
  have q2 : w1.cell? ⟨w.heap.size, 2, none⟩ = some (.int .i64 vo) := (hb1.cell (p := ⟨w.heap.size, 2, none⟩) (by simp)).trans (by simp)
  have q3 : w1.cell? ⟨w.heap.size, 3, none⟩ = some (.slice A val.length cc) := (hb1.cell (p := ⟨w.heap.size, 3, none⟩) (by simp)).trans (by simp)
  have q4 : w1.cell? ⟨w.heap.size, 4, none⟩ = some (.bool true) := (hb1.cell (p := ⟨w.heap.size, 4, none⟩) (by simp)).trans (by simp)
  have q5 : w1.cell? ⟨w.heap.size, 5, none⟩ = some (.int .i64 tt) := (hb1.cell (p := ⟨w.heap.size, 5, none⟩) (by simp)).trans (by simp)
  have HB1 := Lib.hid (HB0.out.trans (hb1.mono HB0.out.size))
  have lw : w.heap.size < w1.heap.size := block_lt_of_cell q0
  clear hb1
  have ha1 : Below w1.heap.size w1 (w1.alloc (.cells #[.int .i64 (ml + by_), .int .i64 cnt] 25)) := (Below.refl _ _).alloc (Nat.le_refl _) _
  have k0 := (ha1.cell (p := ⟨w.heap.size, 0, none⟩) lw).trans q0
  have k1 := (ha1.cell (p := ⟨w.heap.size, 1, none⟩) lw).trans q1
  have k2 := (ha1.cell (p := ⟨w.heap.size, 2, none⟩) lw).trans q2
  have k3 := (ha1.cell (p := ⟨w.heap.size, 3, none⟩) lw).trans q3
  have k4 := (ha1.cell (p := ⟨w.heap.size, 4, none⟩) lw).trans q4
  have k5 := (ha1.cell (p := ⟨w.heap.size, 5, none⟩) lw).trans q5
  have s0 : (w1.alloc (.cells #[.int .i64 (ml + by_), .int .i64 cnt] 25)).cell? ⟨w1.heap.size, 0, none⟩ = some (.int .i64 (ml + by_)) := by simp
  have s1 : (w1.alloc (.cells #[.int .i64 (ml + by_), .int .i64 cnt] 25)).cell? ⟨w1.heap.size, 1, none⟩ = some (.int .i64 cnt) := by simp
  have HBA := Lib.hid (HB1.out.trans (ha1.mono HB1.out.size))
  have lz : (w1.alloc (.cells #[.int .i64 (ml + by_), .int .i64 cnt] 25)).heap.size = w1.heap.size + 1 := by simp
  have HLZ := Lib.hid lz
  have HROW : Hid (RowA ((w1.alloc (.cells #[.int .i64 (ml + by_), .int .i64 cnt] 25)).alloc (.cells #[.int .i64 ml, .int .i64 ct, .int .i64 vo, .slice A val.length cc, .bool true, .int .i64 tt] 28)) (some ⟨w1.heap.size + 1, 0, none⟩) [⟨⟨ml, ct, vo, val, true, tt⟩, A, cc⟩]) := Lib.hid (fun _ => ⟨_, _, rfl, by simp, fun j u hu => by
    have h := World.cell?_alloc_at (w := w1.alloc (.cells #[.int .i64 (ml + by_), .int .i64 cnt] 25)) #[.int .i64 ml, .int .i64 ct, .int .i64 vo, .slice A val.length cc, .bool true, .int .i64 tt] 28 (w1.heap.size + 1) j (by simp)
    rw [Nat.zero_add, h, ← hu]
    simp [rowV, Mv.cs]⟩)
  have hbv : Below w.heap.size w ((w1.alloc (.cells #[.int .i64 (ml + by_), .int .i64 cnt] 25)).alloc (.cells #[.int .i64 ml, .int .i64 ct, .int .i64 vo, .slice A val.length cc, .bool true, .int .i64 tt] 28)) := HBA.out.alloc HBA.out.size _
  have HOF := Lib.hid (ch_of (some ⟨w1.heap.size + 1, 0, none⟩) [⟨⟨ml, ct, vo, val, true, tt⟩, A, cc⟩] 1 _ HROW.out (by simp) (fun m hm => by
    simp at hm
    subst hm
    exact ⟨HBY.out.below hbv, HNN.out, fun _ _ _ => trivial, HYY.out⟩))
  have HBV := Lib.hid hbv
  have HOO : Hid (ofM [] [⟨ml, ct, vo, val, true, tt⟩] = (0, [⟨ml, ct, vo, val, true, tt⟩])) := Lib.hid (ofM_one HO.out)
  have lk : w.heap.size < (w1.alloc (.cells #[.int .i64 (ml + by_), .int .i64 cnt] 25)).heap.size := by simp; omega
  have ls : w1.heap.size < (w1.alloc (.cells #[.int .i64 (ml + by_), .int .i64 cnt] 25)).heap.size := by simp
  clear ha1 hbv lz HROW
  go_wp2_with fail
  refine HOF.out.mono ?_
  rintro e w2 (⟨hne, _⟩ | ⟨_, hri, b, v, L', rfl, hch, hmap, _, hb2⟩)
  · exact absurd (by show (ofM [] [⟨ml, ct, vo, val, true, tt⟩]).1 = 0; rw [HOO.out]) hne
  have hmap' : L'.map Mv.v = [⟨ml, ct, vo, val, true, tt⟩] := hmap.trans (by show (ofM [] [⟨ml, ct, vo, val, true, tt⟩]).2 = _; rw [HOO.out])
  have hok : ∀ x ∈ L', x.v.ok = true := fun x hx => by
    have hv : x.v ∈ L'.map Mv.v := List.mem_map_of_mem hx
    rw [hmap'] at hv
    simp at hv
    rw [hv]
    exact HO.out
  have hl1 : L'.length = 1 := by have := congrArg List.length hmap'; simpa using this
  have HG := Lib.hid (ch_get _ b v L' (ml + by_) cnt w2 hch (by omega) (by rw [hmap]; exact hri) hok HWF.out)
  have hbx := ((Below.refl _ (w1.alloc (.cells #[.int .i64 (ml + by_), .int .i64 cnt] 25))).alloc (Nat.le_refl _) (.cells #[.int .i64 ml, .int .i64 ct, .int .i64 vo, .slice A val.length cc, .bool true, .int .i64 tt] 28)).trans (hb2.mono (by simp))
  have n0 := (hbx.cell (p := ⟨w.heap.size, 0, none⟩) lk).trans k0
  have n1 := (hbx.cell (p := ⟨w.heap.size, 1, none⟩) lk).trans k1
  have n2 := (hbx.cell (p := ⟨w.heap.size, 2, none⟩) lk).trans k2
  have n3 := (hbx.cell (p := ⟨w.heap.size, 3, none⟩) lk).trans k3
  have n4 := (hbx.cell (p := ⟨w.heap.size, 4, none⟩) lk).trans k4
  have n5 := (hbx.cell (p := ⟨w.heap.size, 5, none⟩) lk).trans k5
  have z0 := (hbx.cell (p := ⟨w1.heap.size, 0, none⟩) ls).trans s0
  have z1 := (hbx.cell (p := ⟨w1.heap.size, 1, none⟩) ls).trans s1
  have HB2 := Lib.hid (HBV.out.trans (hb2.mono HBV.out.size))
  have HGM : Hid (getM (L'.map Mv.v) (ml + by_, cnt) = none) := Lib.hid (by rw [hmap', getM_one]; simp [HSN.out])
  have lk2 : w.heap.size < w2.heap.size := Nat.lt_of_lt_of_le lk hbx.size
  have ls2 : w1.heap.size < w2.heap.size := Nat.lt_of_lt_of_le ls hbx.size
  clear hch hmap hmap' hok hl1 hbx hb2 hri q0 q1 q2 q3 q4 q5 k0 k1 k2 k3 k4 k5 s0 s1 lk ls HOF HOO
  go_wp2_with fail
  refine HG.out.mono ?_
  rintro e w3 (⟨_, rfl, hb3⟩ | ⟨x, _, hx, _⟩)
  rotate_left
  · rw [HGM.out] at hx; cases hx
  have p0 := (hb3.cell (p := ⟨w.heap.size, 0, none⟩) lk2).trans n0
  have p1 := (hb3.cell (p := ⟨w.heap.size, 1, none⟩) lk2).trans n1
  have p2 := (hb3.cell (p := ⟨w.heap.size, 2, none⟩) lk2).trans n2
  have p3 := (hb3.cell (p := ⟨w.heap.size, 3, none⟩) lk2).trans n3
  have p4 := (hb3.cell (p := ⟨w.heap.size, 4, none⟩) lk2).trans n4
  have p5 := (hb3.cell (p := ⟨w.heap.size, 5, none⟩) lk2).trans n5
  have y0 := (hb3.cell (p := ⟨w1.heap.size, 0, none⟩) ls2).trans z0
  have y1 := (hb3.cell (p := ⟨w1.heap.size, 1, none⟩) ls2).trans z1
  have HB3 := Lib.hid (HB2.out.trans (hb3.mono HB2.out.size))
  have lk3 : w.heap.size < w3.heap.size := Nat.lt_of_lt_of_le lk2 hb3.size
  clear hb3 n0 n1 n2 n3 n4 n5 z0 z1
  go_wp2_with fail
  refine (HSE.out _).mono ?_; rintro e w4 ⟨rfl, hb4⟩
  have r3 := (hb4.cell (p := ⟨w.heap.size, 3, none⟩) lk3).trans p3
  have HB4 := Lib.hid (HB3.out.trans (hb4.mono HB3.out.size))
  clear hb4 p0 p1 p2 p3 p4 p5 y0 y1
  go_wp2_with fail
  refine (known15 _).mono ?_; rintro e w6 ⟨rfl, hb6⟩
  have HB6 := Lib.hid (HB4.out.trans (hb6.mono HB4.out.size))
  clear hb6 r3
  go_wp2
  go_ret
  exact ⟨rfl, HB6.out⟩
set_option maxRecDepth 100000 in
set_option maxHeartbeats 8000000 in
theorem ttl_neg (ml ct vo : Int) (A : Option Addr) (val : List Int) (cc : Nat) (tt by_ cnt : Int) (w : World) (hby : ByL w A val) (hn : A = none → val.length = 0) (hy : isBy val) (ho : okV ml ct vo val.length false tt = true) (hr0 : -281474976710656 ≤ by_) (hr1 : by_ ≤ 281474976710656) (hc : -9223372036854775808 ≤ cnt ∧ cnt ≤ 9223372036854775807) (hx0 : by_ < 0) :
    Calls Try.prog 6 #[verV ml ct vo A val.length cc false tt, .int .i64 by_, .int .i64 cnt] w fun e w' => e = .returned (.bool true) ∧ Below w.heap.size w w' := by
  have HB0 : Hid (Below w.heap.size w (w.alloc (verO ml ct vo A val.length cc false tt))) := Lib.hid (by (repeat' (first | (with_reducible exact Below.refl _ _) | (with_reducible assumption) | (with_reducible refine Below.trans ?_ (Below.mono (by with_reducible assumption) ?_)) | (with_reducible refine Below.alloc ?_ ?_ _) | (with_reducible refine Below.setCell ?_ ?_ _) | (with_reducible refine below_drewN ?_ _) | (with_reducible refine Below.drew ?_) | go_size)))
  have HV0 := fun W => ref_version ml ct vo A val.length cc false tt W
  have hobd := ok_bd (v := ⟨ml, ct, vo, val, false, tt⟩) ho
  rw [ho] at HV0
  have HV := Lib.hid HV0
  have HO : Hid (okV ml ct vo val.length false tt = true) := ho
  obtain ⟨m0, m1, c0, c1, v0, v1, vl, t0, t1⟩ := hobd
  simp only at m0 m1 c0 c1 v0 v1 vl t0 t1
  have l1 : decide ((2000 : Int) < (val.length : Int)) = false := by simp only [decide_eq_false_iff_not]; omega
  have HBY := Lib.hid hby
  have HNN := Lib.hid hn
  have HYY := Lib.hid hy
  have f1 : decide (by_ < -281474976710656) = false := by simp only [decide_eq_false_iff_not]; omega
  have f2 : decide (281474976710656 < by_) = false := by simp only [decide_eq_false_iff_not]; omega
  have wm : IntKind.i64.wrap (ml + by_) = ml + by_ := IntWalk.i64_in _ (by omega)
  have g0 : decide (0 < by_) = false := by simp only [decide_eq_false_iff_not]; omega
  have g1 : ((by_) == (0 : Int)) = false := by exact beq_no (by omega)
  have HSN : Hid (seenB ⟨ml, ct, vo, val, false, tt⟩ (ml + by_) cnt = false) := Lib.hid (by
    skip
    simp [seenB]; intro h1; have := cmp2_le.1 h1; omega)
  have HSE0 := fun W => ch_seen ml ct vo A val.length cc false tt (ml + by_) cnt val W m0 t0 m1 t1 (wf_of (by omega))
  rw [HSN.out] at HSE0
  have HSE := Lib.hid HSE0
  have HWF : Hid ((Lit.int .i64 (ml + by_)).wf = true) := Lib.hid (wf_of (by omega))
  clear ho HV0 HSE0 hby hn hy hx0 m0 m1 c0 c1 v0 v1 t0 t1 hr0 hr1 hc
  go_enter Try.func6, Try.ntmps6
  go_wp2_with fail
  refine (HV.out _).mono ?_; rintro e w1 ⟨rfl, hb1⟩
  have q0 : w1.cell? ⟨w.heap.size, 0, none⟩ = some (.int .i64 ml) := (hb1.cell (p := ⟨w.heap.size, 0, none⟩) (by simp)).trans (by simp)
  have q1 : w1.cell? ⟨w.heap.size, 1, none⟩ = some (.int .i64 ct) := (hb1.cell (p := ⟨w.heap.size, 1, none⟩) (by simp)).trans (by simp)
  have q2 : w1.cell? ⟨w.heap.size, 2, none⟩ = some (.int .i64 vo) := (hb1.cell (p := ⟨w.heap.size, 2, none⟩) (by simp)).trans (by simp)
  have q3 : w1.cell? ⟨w.heap.size, 3, none⟩ = some (.slice A val.length cc) := (hb1.cell (p := ⟨w.heap.size, 3, none⟩) (by simp)).trans (by simp)
  have q4 : w1.cell? ⟨w.heap.size, 4, none⟩ = some (.bool false) := (hb1.cell (p := ⟨w.heap.size, 4, none⟩) (by simp)).trans (by simp)
  have q5 : w1.cell? ⟨w.heap.size, 5, none⟩ = some (.int .i64 tt) := (hb1.cell (p := ⟨w.heap.size, 5, none⟩) (by simp)).trans (by simp)
  have HB1 := Lib.hid (HB0.out.trans (hb1.mono HB0.out.size))
  have lw : w.heap.size < w1.heap.size := block_lt_of_cell q0
  clear hb1
  have ha1 : Below w1.heap.size w1 (w1.alloc (.cells #[.int .i64 (ml + by_), .int .i64 cnt] 25)) := (Below.refl _ _).alloc (Nat.le_refl _) _
  have k0 := (ha1.cell (p := ⟨w.heap.size, 0, none⟩) lw).trans q0
  have k1 := (ha1.cell (p := ⟨w.heap.size, 1, none⟩) lw).trans q1
  have k2 := (ha1.cell (p := ⟨w.heap.size, 2, none⟩) lw).trans q2
  have k3 := (ha1.cell (p := ⟨w.heap.size, 3, none⟩) lw).trans q3
  have k4 := (ha1.cell (p := ⟨w.heap.size, 4, none⟩) lw).trans q4
  have k5 := (ha1.cell (p := ⟨w.heap.size, 5, none⟩) lw).trans q5
  have s0 : (w1.alloc (.cells #[.int .i64 (ml + by_), .int .i64 cnt] 25)).cell? ⟨w1.heap.size, 0, none⟩ = some (.int .i64 (ml + by_)) := by simp
  have s1 : (w1.alloc (.cells #[.int .i64 (ml + by_), .int .i64 cnt] 25)).cell? ⟨w1.heap.size, 1, none⟩ = some (.int .i64 cnt) := by simp
  have HBA := Lib.hid (HB1.out.trans (ha1.mono HB1.out.size))
  have lz : (w1.alloc (.cells #[.int .i64 (ml + by_), .int .i64 cnt] 25)).heap.size = w1.heap.size + 1 := by simp
  have HLZ := Lib.hid lz
  have HROW : Hid (RowA ((w1.alloc (.cells #[.int .i64 (ml + by_), .int .i64 cnt] 25)).alloc (.cells #[.int .i64 ml, .int .i64 ct, .int .i64 vo, .slice A val.length cc, .bool false, .int .i64 tt] 28)) (some ⟨w1.heap.size + 1, 0, none⟩) [⟨⟨ml, ct, vo, val, false, tt⟩, A, cc⟩]) := Lib.hid (fun _ => ⟨_, _, rfl, by simp, fun j u hu => by
    have h := World.cell?_alloc_at (w := w1.alloc (.cells #[.int .i64 (ml + by_), .int .i64 cnt] 25)) #[.int .i64 ml, .int .i64 ct, .int .i64 vo, .slice A val.length cc, .bool false, .int .i64 tt] 28 (w1.heap.size + 1) j (by simp)
    rw [Nat.zero_add, h, ← hu]
    simp [rowV, Mv.cs]⟩)
  have hbv : Below w.heap.size w ((w1.alloc (.cells #[.int .i64 (ml + by_), .int .i64 cnt] 25)).alloc (.cells #[.int .i64 ml, .int .i64 ct, .int .i64 vo, .slice A val.length cc, .bool false, .int .i64 tt] 28)) := HBA.out.alloc HBA.out.size _
  have HOF := Lib.hid (ch_of (some ⟨w1.heap.size + 1, 0, none⟩) [⟨⟨ml, ct, vo, val, false, tt⟩, A, cc⟩] 1 _ HROW.out (by simp) (fun m hm => by
    simp at hm
    subst hm
    exact ⟨HBY.out.below hbv, HNN.out, fun _ _ _ => trivial, HYY.out⟩))
  have HBV := Lib.hid hbv
  have HOO : Hid (ofM [] [⟨ml, ct, vo, val, false, tt⟩] = (0, [⟨ml, ct, vo, val, false, tt⟩])) := Lib.hid (ofM_one HO.out)
  have lk : w.heap.size < (w1.alloc (.cells #[.int .i64 (ml + by_), .int .i64 cnt] 25)).heap.size := by simp; omega
  have ls : w1.heap.size < (w1.alloc (.cells #[.int .i64 (ml + by_), .int .i64 cnt] 25)).heap.size := by simp
  clear ha1 hbv lz HROW
  go_wp2_with fail
  refine HOF.out.mono ?_
  rintro e w2 (⟨hne, _⟩ | ⟨_, hri, b, v, L', rfl, hch, hmap, _, hb2⟩)
  · exact absurd (by show (ofM [] [⟨ml, ct, vo, val, false, tt⟩]).1 = 0; rw [HOO.out]) hne
  have hmap' : L'.map Mv.v = [⟨ml, ct, vo, val, false, tt⟩] := hmap.trans (by show (ofM [] [⟨ml, ct, vo, val, false, tt⟩]).2 = _; rw [HOO.out])
  have hok : ∀ x ∈ L', x.v.ok = true := fun x hx => by
    have hv : x.v ∈ L'.map Mv.v := List.mem_map_of_mem hx
    rw [hmap'] at hv
    simp at hv
    rw [hv]
    exact HO.out
  have hl1 : L'.length = 1 := by have := congrArg List.length hmap'; simpa using this
  have HG := Lib.hid (ch_get _ b v L' (ml + by_) cnt w2 hch (by omega) (by rw [hmap]; exact hri) hok HWF.out)
  have hbx := ((Below.refl _ (w1.alloc (.cells #[.int .i64 (ml + by_), .int .i64 cnt] 25))).alloc (Nat.le_refl _) (.cells #[.int .i64 ml, .int .i64 ct, .int .i64 vo, .slice A val.length cc, .bool false, .int .i64 tt] 28)).trans (hb2.mono (by simp))
  have n0 := (hbx.cell (p := ⟨w.heap.size, 0, none⟩) lk).trans k0
  have n1 := (hbx.cell (p := ⟨w.heap.size, 1, none⟩) lk).trans k1
  have n2 := (hbx.cell (p := ⟨w.heap.size, 2, none⟩) lk).trans k2
  have n3 := (hbx.cell (p := ⟨w.heap.size, 3, none⟩) lk).trans k3
  have n4 := (hbx.cell (p := ⟨w.heap.size, 4, none⟩) lk).trans k4
  have n5 := (hbx.cell (p := ⟨w.heap.size, 5, none⟩) lk).trans k5
  have z0 := (hbx.cell (p := ⟨w1.heap.size, 0, none⟩) ls).trans s0
  have z1 := (hbx.cell (p := ⟨w1.heap.size, 1, none⟩) ls).trans s1
  have HB2 := Lib.hid (HBV.out.trans (hb2.mono HBV.out.size))
  have HGM : Hid (getM (L'.map Mv.v) (ml + by_, cnt) = none) := Lib.hid (by rw [hmap', getM_one]; simp [HSN.out])
  have lk2 : w.heap.size < w2.heap.size := Nat.lt_of_lt_of_le lk hbx.size
  have ls2 : w1.heap.size < w2.heap.size := Nat.lt_of_lt_of_le ls hbx.size
  clear hch hmap hmap' hok hl1 hbx hb2 hri q0 q1 q2 q3 q4 q5 k0 k1 k2 k3 k4 k5 s0 s1 lk ls HOF HOO
  go_wp2_with fail
  refine HG.out.mono ?_
  rintro e w3 (⟨_, rfl, hb3⟩ | ⟨x, _, hx, _⟩)
  rotate_left
  · rw [HGM.out] at hx; cases hx
  have p0 := (hb3.cell (p := ⟨w.heap.size, 0, none⟩) lk2).trans n0
  have p1 := (hb3.cell (p := ⟨w.heap.size, 1, none⟩) lk2).trans n1
  have p2 := (hb3.cell (p := ⟨w.heap.size, 2, none⟩) lk2).trans n2
  have p3 := (hb3.cell (p := ⟨w.heap.size, 3, none⟩) lk2).trans n3
  have p4 := (hb3.cell (p := ⟨w.heap.size, 4, none⟩) lk2).trans n4
  have p5 := (hb3.cell (p := ⟨w.heap.size, 5, none⟩) lk2).trans n5
  have y0 := (hb3.cell (p := ⟨w1.heap.size, 0, none⟩) ls2).trans z0
  have y1 := (hb3.cell (p := ⟨w1.heap.size, 1, none⟩) ls2).trans z1
  have HB3 := Lib.hid (HB2.out.trans (hb3.mono HB2.out.size))
  have lk3 : w.heap.size < w3.heap.size := Nat.lt_of_lt_of_le lk2 hb3.size
  clear hb3 n0 n1 n2 n3 n4 n5 z0 z1
  go_wp2_with fail
  refine (HSE.out _).mono ?_; rintro e w4 ⟨rfl, hb4⟩
  have r3 := (hb4.cell (p := ⟨w.heap.size, 3, none⟩) lk3).trans p3
  have HB4 := Lib.hid (HB3.out.trans (hb4.mono HB3.out.size))
  clear hb4 p0 p1 p2 p3 p4 p5 y0 y1
  go_wp2_with fail
  refine (known15 _).mono ?_; rintro e w6 ⟨rfl, hb6⟩
  have HB6 := Lib.hid (HB4.out.trans (hb6.mono HB4.out.size))
  clear hb6 r3
  go_wp2
  go_ret
  exact ⟨rfl, HB6.out⟩
set_option maxRecDepth 100000 in
set_option maxHeartbeats 8000000 in
theorem ttl_ahead (ml ct vo : Int) (A : Option Addr) (val : List Int) (cc : Nat) (tt by_ cnt : Int) (w : World) (hby : ByL w A val) (hn : A = none → val.length = 0) (hy : isBy val) (ho : okV ml ct vo val.length false tt = true) (hr0 : -281474976710656 ≤ by_) (hr1 : by_ ≤ 281474976710656) (hc : -9223372036854775808 ≤ cnt ∧ cnt ≤ 9223372036854775807) (hx0 : by_ = 0) (hx1 : cnt < ct) :
    Calls Try.prog 6 #[verV ml ct vo A val.length cc false tt, .int .i64 by_, .int .i64 cnt] w fun e w' => e = .returned (.bool true) ∧ Below w.heap.size w w' := by
  have HB0 : Hid (Below w.heap.size w (w.alloc (verO ml ct vo A val.length cc false tt))) := Lib.hid (by (repeat' (first | (with_reducible exact Below.refl _ _) | (with_reducible assumption) | (with_reducible refine Below.trans ?_ (Below.mono (by with_reducible assumption) ?_)) | (with_reducible refine Below.alloc ?_ ?_ _) | (with_reducible refine Below.setCell ?_ ?_ _) | (with_reducible refine below_drewN ?_ _) | (with_reducible refine Below.drew ?_) | go_size)))
  have HV0 := fun W => ref_version ml ct vo A val.length cc false tt W
  have hobd := ok_bd (v := ⟨ml, ct, vo, val, false, tt⟩) ho
  rw [ho] at HV0
  have HV := Lib.hid HV0
  have HO : Hid (okV ml ct vo val.length false tt = true) := ho
  obtain ⟨m0, m1, c0, c1, v0, v1, vl, t0, t1⟩ := hobd
  simp only at m0 m1 c0 c1 v0 v1 vl t0 t1
  have l1 : decide ((2000 : Int) < (val.length : Int)) = false := by simp only [decide_eq_false_iff_not]; omega
  have HBY := Lib.hid hby
  have HNN := Lib.hid hn
  have HYY := Lib.hid hy
  have f1 : decide (by_ < -281474976710656) = false := by simp only [decide_eq_false_iff_not]; omega
  have f2 : decide (281474976710656 < by_) = false := by simp only [decide_eq_false_iff_not]; omega
  have wm : IntKind.i64.wrap (ml + by_) = ml + by_ := IntWalk.i64_in _ (by omega)
  have g0 : decide (0 < by_) = false := by simp only [decide_eq_false_iff_not]; omega
  have g1 : ((by_) == (0 : Int)) = true := by exact beq_of (by omega)
  have g2 : decide (ct ≤ cnt) = false := by simp only [decide_eq_false_iff_not]; omega
  have g3 : decide (cnt < ct) = true := by simp only [decide_eq_true_eq]; omega
  have HSN : Hid (seenB ⟨ml, ct, vo, val, false, tt⟩ (ml + by_) cnt = false) := Lib.hid (by
    skip
    simp [seenB]; intro h1; have := cmp2_le.1 h1; omega)
  have HSE0 := fun W => ch_seen ml ct vo A val.length cc false tt (ml + by_) cnt val W m0 t0 m1 t1 (wf_of (by omega))
  rw [HSN.out] at HSE0
  have HSE := Lib.hid HSE0
  have HWF : Hid ((Lit.int .i64 (ml + by_)).wf = true) := Lib.hid (wf_of (by omega))
  clear ho HV0 HSE0 hby hn hy hx0 hx1 m0 m1 c0 c1 v0 v1 t0 t1 hr0 hr1 hc
  go_enter Try.func6, Try.ntmps6
  go_wp2_with fail
  refine (HV.out _).mono ?_; rintro e w1 ⟨rfl, hb1⟩
  have q0 : w1.cell? ⟨w.heap.size, 0, none⟩ = some (.int .i64 ml) := (hb1.cell (p := ⟨w.heap.size, 0, none⟩) (by simp)).trans (by simp)
  have q1 : w1.cell? ⟨w.heap.size, 1, none⟩ = some (.int .i64 ct) := (hb1.cell (p := ⟨w.heap.size, 1, none⟩) (by simp)).trans (by simp)
  have q2 : w1.cell? ⟨w.heap.size, 2, none⟩ = some (.int .i64 vo) := (hb1.cell (p := ⟨w.heap.size, 2, none⟩) (by simp)).trans (by simp)
  have q3 : w1.cell? ⟨w.heap.size, 3, none⟩ = some (.slice A val.length cc) := (hb1.cell (p := ⟨w.heap.size, 3, none⟩) (by simp)).trans (by simp)
  have q4 : w1.cell? ⟨w.heap.size, 4, none⟩ = some (.bool false) := (hb1.cell (p := ⟨w.heap.size, 4, none⟩) (by simp)).trans (by simp)
  have q5 : w1.cell? ⟨w.heap.size, 5, none⟩ = some (.int .i64 tt) := (hb1.cell (p := ⟨w.heap.size, 5, none⟩) (by simp)).trans (by simp)
  have HB1 := Lib.hid (HB0.out.trans (hb1.mono HB0.out.size))
  have lw : w.heap.size < w1.heap.size := block_lt_of_cell q0
  clear hb1
  have ha1 : Below w1.heap.size w1 (w1.alloc (.cells #[.int .i64 (ml + by_), .int .i64 cnt] 25)) := (Below.refl _ _).alloc (Nat.le_refl _) _
  have k0 := (ha1.cell (p := ⟨w.heap.size, 0, none⟩) lw).trans q0
  have k1 := (ha1.cell (p := ⟨w.heap.size, 1, none⟩) lw).trans q1
  have k2 := (ha1.cell (p := ⟨w.heap.size, 2, none⟩) lw).trans q2
  have k3 := (ha1.cell (p := ⟨w.heap.size, 3, none⟩) lw).trans q3
  have k4 := (ha1.cell (p := ⟨w.heap.size, 4, none⟩) lw).trans q4
  have k5 := (ha1.cell (p := ⟨w.heap.size, 5, none⟩) lw).trans q5
  have s0 : (w1.alloc (.cells #[.int .i64 (ml + by_), .int .i64 cnt] 25)).cell? ⟨w1.heap.size, 0, none⟩ = some (.int .i64 (ml + by_)) := by simp
  have s1 : (w1.alloc (.cells #[.int .i64 (ml + by_), .int .i64 cnt] 25)).cell? ⟨w1.heap.size, 1, none⟩ = some (.int .i64 cnt) := by simp
  have HBA := Lib.hid (HB1.out.trans (ha1.mono HB1.out.size))
  have lz : (w1.alloc (.cells #[.int .i64 (ml + by_), .int .i64 cnt] 25)).heap.size = w1.heap.size + 1 := by simp
  have HLZ := Lib.hid lz
  have HROW : Hid (RowA ((w1.alloc (.cells #[.int .i64 (ml + by_), .int .i64 cnt] 25)).alloc (.cells #[.int .i64 ml, .int .i64 ct, .int .i64 vo, .slice A val.length cc, .bool false, .int .i64 tt] 28)) (some ⟨w1.heap.size + 1, 0, none⟩) [⟨⟨ml, ct, vo, val, false, tt⟩, A, cc⟩]) := Lib.hid (fun _ => ⟨_, _, rfl, by simp, fun j u hu => by
    have h := World.cell?_alloc_at (w := w1.alloc (.cells #[.int .i64 (ml + by_), .int .i64 cnt] 25)) #[.int .i64 ml, .int .i64 ct, .int .i64 vo, .slice A val.length cc, .bool false, .int .i64 tt] 28 (w1.heap.size + 1) j (by simp)
    rw [Nat.zero_add, h, ← hu]
    simp [rowV, Mv.cs]⟩)
  have hbv : Below w.heap.size w ((w1.alloc (.cells #[.int .i64 (ml + by_), .int .i64 cnt] 25)).alloc (.cells #[.int .i64 ml, .int .i64 ct, .int .i64 vo, .slice A val.length cc, .bool false, .int .i64 tt] 28)) := HBA.out.alloc HBA.out.size _
  have HOF := Lib.hid (ch_of (some ⟨w1.heap.size + 1, 0, none⟩) [⟨⟨ml, ct, vo, val, false, tt⟩, A, cc⟩] 1 _ HROW.out (by simp) (fun m hm => by
    simp at hm
    subst hm
    exact ⟨HBY.out.below hbv, HNN.out, fun _ _ _ => trivial, HYY.out⟩))
  have HBV := Lib.hid hbv
  have HOO : Hid (ofM [] [⟨ml, ct, vo, val, false, tt⟩] = (0, [⟨ml, ct, vo, val, false, tt⟩])) := Lib.hid (ofM_one HO.out)
  have lk : w.heap.size < (w1.alloc (.cells #[.int .i64 (ml + by_), .int .i64 cnt] 25)).heap.size := by simp; omega
  have ls : w1.heap.size < (w1.alloc (.cells #[.int .i64 (ml + by_), .int .i64 cnt] 25)).heap.size := by simp
  clear ha1 hbv lz HROW
  go_wp2_with fail
  refine HOF.out.mono ?_
  rintro e w2 (⟨hne, _⟩ | ⟨_, hri, b, v, L', rfl, hch, hmap, _, hb2⟩)
  · exact absurd (by show (ofM [] [⟨ml, ct, vo, val, false, tt⟩]).1 = 0; rw [HOO.out]) hne
  have hmap' : L'.map Mv.v = [⟨ml, ct, vo, val, false, tt⟩] := hmap.trans (by show (ofM [] [⟨ml, ct, vo, val, false, tt⟩]).2 = _; rw [HOO.out])
  have hok : ∀ x ∈ L', x.v.ok = true := fun x hx => by
    have hv : x.v ∈ L'.map Mv.v := List.mem_map_of_mem hx
    rw [hmap'] at hv
    simp at hv
    rw [hv]
    exact HO.out
  have hl1 : L'.length = 1 := by have := congrArg List.length hmap'; simpa using this
  have HG := Lib.hid (ch_get _ b v L' (ml + by_) cnt w2 hch (by omega) (by rw [hmap]; exact hri) hok HWF.out)
  have hbx := ((Below.refl _ (w1.alloc (.cells #[.int .i64 (ml + by_), .int .i64 cnt] 25))).alloc (Nat.le_refl _) (.cells #[.int .i64 ml, .int .i64 ct, .int .i64 vo, .slice A val.length cc, .bool false, .int .i64 tt] 28)).trans (hb2.mono (by simp))
  have n0 := (hbx.cell (p := ⟨w.heap.size, 0, none⟩) lk).trans k0
  have n1 := (hbx.cell (p := ⟨w.heap.size, 1, none⟩) lk).trans k1
  have n2 := (hbx.cell (p := ⟨w.heap.size, 2, none⟩) lk).trans k2
  have n3 := (hbx.cell (p := ⟨w.heap.size, 3, none⟩) lk).trans k3
  have n4 := (hbx.cell (p := ⟨w.heap.size, 4, none⟩) lk).trans k4
  have n5 := (hbx.cell (p := ⟨w.heap.size, 5, none⟩) lk).trans k5
  have z0 := (hbx.cell (p := ⟨w1.heap.size, 0, none⟩) ls).trans s0
  have z1 := (hbx.cell (p := ⟨w1.heap.size, 1, none⟩) ls).trans s1
  have HB2 := Lib.hid (HBV.out.trans (hb2.mono HBV.out.size))
  have HGM : Hid (getM (L'.map Mv.v) (ml + by_, cnt) = none) := Lib.hid (by rw [hmap', getM_one]; simp [HSN.out])
  have lk2 : w.heap.size < w2.heap.size := Nat.lt_of_lt_of_le lk hbx.size
  have ls2 : w1.heap.size < w2.heap.size := Nat.lt_of_lt_of_le ls hbx.size
  clear hch hmap hmap' hok hl1 hbx hb2 hri q0 q1 q2 q3 q4 q5 k0 k1 k2 k3 k4 k5 s0 s1 lk ls HOF HOO
  go_wp2_with fail
  refine HG.out.mono ?_
  rintro e w3 (⟨_, rfl, hb3⟩ | ⟨x, _, hx, _⟩)
  rotate_left
  · rw [HGM.out] at hx; cases hx
  have p0 := (hb3.cell (p := ⟨w.heap.size, 0, none⟩) lk2).trans n0
  have p1 := (hb3.cell (p := ⟨w.heap.size, 1, none⟩) lk2).trans n1
  have p2 := (hb3.cell (p := ⟨w.heap.size, 2, none⟩) lk2).trans n2
  have p3 := (hb3.cell (p := ⟨w.heap.size, 3, none⟩) lk2).trans n3
  have p4 := (hb3.cell (p := ⟨w.heap.size, 4, none⟩) lk2).trans n4
  have p5 := (hb3.cell (p := ⟨w.heap.size, 5, none⟩) lk2).trans n5
  have y0 := (hb3.cell (p := ⟨w1.heap.size, 0, none⟩) ls2).trans z0
  have y1 := (hb3.cell (p := ⟨w1.heap.size, 1, none⟩) ls2).trans z1
  have HB3 := Lib.hid (HB2.out.trans (hb3.mono HB2.out.size))
  have lk3 : w.heap.size < w3.heap.size := Nat.lt_of_lt_of_le lk2 hb3.size
  clear hb3 n0 n1 n2 n3 n4 n5 z0 z1
  go_wp2_with fail
  refine (HSE.out _).mono ?_; rintro e w4 ⟨rfl, hb4⟩
  have r3 := (hb4.cell (p := ⟨w.heap.size, 3, none⟩) lk3).trans p3
  have HB4 := Lib.hid (HB3.out.trans (hb4.mono HB3.out.size))
  clear hb4 p0 p1 p2 p3 p4 p5 y0 y1
  go_wp2_with fail
  refine (known15 _).mono ?_; rintro e w6 ⟨rfl, hb6⟩
  have HB6 := Lib.hid (HB4.out.trans (hb6.mono HB4.out.size))
  clear hb6 r3
  go_wp2
  go_ret
  exact ⟨rfl, HB6.out⟩
set_option maxRecDepth 100000 in
set_option maxHeartbeats 8000000 in
theorem ttl_pos0 (ml ct vo : Int) (A : Option Addr) (val : List Int) (cc : Nat) (tt by_ cnt : Int) (w : World) (hby : ByL w A val) (hn : A = none → val.length = 0) (hy : isBy val) (ho : okV ml ct vo val.length false tt = true) (hr0 : -281474976710656 ≤ by_) (hr1 : by_ ≤ 281474976710656) (hc : -9223372036854775808 ≤ cnt ∧ cnt ≤ 9223372036854775807) (hx0 : 0 < by_) (hx1 : tt = 0) :
    Calls Try.prog 6 #[verV ml ct vo A val.length cc false tt, .int .i64 by_, .int .i64 cnt] w fun e w' => e = .returned (.bool true) ∧ Below w.heap.size w w' := by
  have HB0 : Hid (Below w.heap.size w (w.alloc (verO ml ct vo A val.length cc false tt))) := Lib.hid (by (repeat' (first | (with_reducible exact Below.refl _ _) | (with_reducible assumption) | (with_reducible refine Below.trans ?_ (Below.mono (by with_reducible assumption) ?_)) | (with_reducible refine Below.alloc ?_ ?_ _) | (with_reducible refine Below.setCell ?_ ?_ _) | (with_reducible refine below_drewN ?_ _) | (with_reducible refine Below.drew ?_) | go_size)))
  have HV0 := fun W => ref_version ml ct vo A val.length cc false tt W
  have hobd := ok_bd (v := ⟨ml, ct, vo, val, false, tt⟩) ho
  rw [ho] at HV0
  have HV := Lib.hid HV0
  have HO : Hid (okV ml ct vo val.length false tt = true) := ho
  obtain ⟨m0, m1, c0, c1, v0, v1, vl, t0, t1⟩ := hobd
  simp only at m0 m1 c0 c1 v0 v1 vl t0 t1
  have l1 : decide ((2000 : Int) < (val.length : Int)) = false := by simp only [decide_eq_false_iff_not]; omega
  have HBY := Lib.hid hby
  have HNN := Lib.hid hn
  have HYY := Lib.hid hy
  have f1 : decide (by_ < -281474976710656) = false := by simp only [decide_eq_false_iff_not]; omega
  have f2 : decide (281474976710656 < by_) = false := by simp only [decide_eq_false_iff_not]; omega
  have wm : IntKind.i64.wrap (ml + by_) = ml + by_ := IntWalk.i64_in _ (by omega)
  have g0 : decide (0 < by_) = true := by simp only [decide_eq_true_eq]; omega
  have g1 : ((tt) == (0 : Int)) = true := by exact beq_of (by omega)
  have HSN : Hid (seenB ⟨ml, ct, vo, val, false, tt⟩ (ml + by_) cnt = true) := Lib.hid (by
    have h1 : cmp2 ml ct (ml + by_) cnt ≤ 0 := cmp2_le.2 (by omega)
    simp [seenB, h1]; omega)
  have HSE0 := fun W => ch_seen ml ct vo A val.length cc false tt (ml + by_) cnt val W m0 t0 m1 t1 (wf_of (by omega))
  rw [HSN.out] at HSE0
  have HSE := Lib.hid HSE0
  have HWF : Hid ((Lit.int .i64 (ml + by_)).wf = true) := Lib.hid (wf_of (by omega))
  clear ho HV0 HSE0 hby hn hy hx0 hx1 m0 m1 c0 c1 v0 v1 t0 t1 hr0 hr1 hc
  go_enter Try.func6, Try.ntmps6
  go_wp2_with fail
  refine (HV.out _).mono ?_; rintro e w1 ⟨rfl, hb1⟩
  have q0 : w1.cell? ⟨w.heap.size, 0, none⟩ = some (.int .i64 ml) := (hb1.cell (p := ⟨w.heap.size, 0, none⟩) (by simp)).trans (by simp)
  have q1 : w1.cell? ⟨w.heap.size, 1, none⟩ = some (.int .i64 ct) := (hb1.cell (p := ⟨w.heap.size, 1, none⟩) (by simp)).trans (by simp)
  have q2 : w1.cell? ⟨w.heap.size, 2, none⟩ = some (.int .i64 vo) := (hb1.cell (p := ⟨w.heap.size, 2, none⟩) (by simp)).trans (by simp)
  have q3 : w1.cell? ⟨w.heap.size, 3, none⟩ = some (.slice A val.length cc) := (hb1.cell (p := ⟨w.heap.size, 3, none⟩) (by simp)).trans (by simp)
  have q4 : w1.cell? ⟨w.heap.size, 4, none⟩ = some (.bool false) := (hb1.cell (p := ⟨w.heap.size, 4, none⟩) (by simp)).trans (by simp)
  have q5 : w1.cell? ⟨w.heap.size, 5, none⟩ = some (.int .i64 tt) := (hb1.cell (p := ⟨w.heap.size, 5, none⟩) (by simp)).trans (by simp)
  have HB1 := Lib.hid (HB0.out.trans (hb1.mono HB0.out.size))
  have lw : w.heap.size < w1.heap.size := block_lt_of_cell q0
  clear hb1
  have ha1 : Below w1.heap.size w1 (w1.alloc (.cells #[.int .i64 (ml + by_), .int .i64 cnt] 25)) := (Below.refl _ _).alloc (Nat.le_refl _) _
  have k0 := (ha1.cell (p := ⟨w.heap.size, 0, none⟩) lw).trans q0
  have k1 := (ha1.cell (p := ⟨w.heap.size, 1, none⟩) lw).trans q1
  have k2 := (ha1.cell (p := ⟨w.heap.size, 2, none⟩) lw).trans q2
  have k3 := (ha1.cell (p := ⟨w.heap.size, 3, none⟩) lw).trans q3
  have k4 := (ha1.cell (p := ⟨w.heap.size, 4, none⟩) lw).trans q4
  have k5 := (ha1.cell (p := ⟨w.heap.size, 5, none⟩) lw).trans q5
  have s0 : (w1.alloc (.cells #[.int .i64 (ml + by_), .int .i64 cnt] 25)).cell? ⟨w1.heap.size, 0, none⟩ = some (.int .i64 (ml + by_)) := by simp
  have s1 : (w1.alloc (.cells #[.int .i64 (ml + by_), .int .i64 cnt] 25)).cell? ⟨w1.heap.size, 1, none⟩ = some (.int .i64 cnt) := by simp
  have HBA := Lib.hid (HB1.out.trans (ha1.mono HB1.out.size))
  have lz : (w1.alloc (.cells #[.int .i64 (ml + by_), .int .i64 cnt] 25)).heap.size = w1.heap.size + 1 := by simp
  have HLZ := Lib.hid lz
  have HROW : Hid (RowA ((w1.alloc (.cells #[.int .i64 (ml + by_), .int .i64 cnt] 25)).alloc (.cells #[.int .i64 ml, .int .i64 ct, .int .i64 vo, .slice A val.length cc, .bool false, .int .i64 tt] 28)) (some ⟨w1.heap.size + 1, 0, none⟩) [⟨⟨ml, ct, vo, val, false, tt⟩, A, cc⟩]) := Lib.hid (fun _ => ⟨_, _, rfl, by simp, fun j u hu => by
    have h := World.cell?_alloc_at (w := w1.alloc (.cells #[.int .i64 (ml + by_), .int .i64 cnt] 25)) #[.int .i64 ml, .int .i64 ct, .int .i64 vo, .slice A val.length cc, .bool false, .int .i64 tt] 28 (w1.heap.size + 1) j (by simp)
    rw [Nat.zero_add, h, ← hu]
    simp [rowV, Mv.cs]⟩)
  have hbv : Below w.heap.size w ((w1.alloc (.cells #[.int .i64 (ml + by_), .int .i64 cnt] 25)).alloc (.cells #[.int .i64 ml, .int .i64 ct, .int .i64 vo, .slice A val.length cc, .bool false, .int .i64 tt] 28)) := HBA.out.alloc HBA.out.size _
  have HOF := Lib.hid (ch_of (some ⟨w1.heap.size + 1, 0, none⟩) [⟨⟨ml, ct, vo, val, false, tt⟩, A, cc⟩] 1 _ HROW.out (by simp) (fun m hm => by
    simp at hm
    subst hm
    exact ⟨HBY.out.below hbv, HNN.out, fun _ _ _ => trivial, HYY.out⟩))
  have HBV := Lib.hid hbv
  have HOO : Hid (ofM [] [⟨ml, ct, vo, val, false, tt⟩] = (0, [⟨ml, ct, vo, val, false, tt⟩])) := Lib.hid (ofM_one HO.out)
  have lk : w.heap.size < (w1.alloc (.cells #[.int .i64 (ml + by_), .int .i64 cnt] 25)).heap.size := by simp; omega
  have ls : w1.heap.size < (w1.alloc (.cells #[.int .i64 (ml + by_), .int .i64 cnt] 25)).heap.size := by simp
  clear ha1 hbv lz HROW
  go_wp2_with fail
  refine HOF.out.mono ?_
  rintro e w2 (⟨hne, _⟩ | ⟨_, hri, b, v, L', rfl, hch, hmap, _, hb2⟩)
  · exact absurd (by show (ofM [] [⟨ml, ct, vo, val, false, tt⟩]).1 = 0; rw [HOO.out]) hne
  have hmap' : L'.map Mv.v = [⟨ml, ct, vo, val, false, tt⟩] := hmap.trans (by show (ofM [] [⟨ml, ct, vo, val, false, tt⟩]).2 = _; rw [HOO.out])
  have hok : ∀ x ∈ L', x.v.ok = true := fun x hx => by
    have hv : x.v ∈ L'.map Mv.v := List.mem_map_of_mem hx
    rw [hmap'] at hv
    simp at hv
    rw [hv]
    exact HO.out
  have hl1 : L'.length = 1 := by have := congrArg List.length hmap'; simpa using this
  have HG := Lib.hid (ch_get _ b v L' (ml + by_) cnt w2 hch (by omega) (by rw [hmap]; exact hri) hok HWF.out)
  have hbx := ((Below.refl _ (w1.alloc (.cells #[.int .i64 (ml + by_), .int .i64 cnt] 25))).alloc (Nat.le_refl _) (.cells #[.int .i64 ml, .int .i64 ct, .int .i64 vo, .slice A val.length cc, .bool false, .int .i64 tt] 28)).trans (hb2.mono (by simp))
  have n0 := (hbx.cell (p := ⟨w.heap.size, 0, none⟩) lk).trans k0
  have n1 := (hbx.cell (p := ⟨w.heap.size, 1, none⟩) lk).trans k1
  have n2 := (hbx.cell (p := ⟨w.heap.size, 2, none⟩) lk).trans k2
  have n3 := (hbx.cell (p := ⟨w.heap.size, 3, none⟩) lk).trans k3
  have n4 := (hbx.cell (p := ⟨w.heap.size, 4, none⟩) lk).trans k4
  have n5 := (hbx.cell (p := ⟨w.heap.size, 5, none⟩) lk).trans k5
  have z0 := (hbx.cell (p := ⟨w1.heap.size, 0, none⟩) ls).trans s0
  have z1 := (hbx.cell (p := ⟨w1.heap.size, 1, none⟩) ls).trans s1
  have HB2 := Lib.hid (HBV.out.trans (hb2.mono HBV.out.size))
  have HGM : Hid (getM (L'.map Mv.v) (ml + by_, cnt) = some ⟨ml, ct, vo, val, false, tt⟩) := Lib.hid (by rw [hmap', getM_one]; simp [HSN.out])
  have lk2 : w.heap.size < w2.heap.size := Nat.lt_of_lt_of_le lk hbx.size
  have ls2 : w1.heap.size < w2.heap.size := Nat.lt_of_lt_of_le ls hbx.size
  clear hch hmap hmap' hok hl1 hbx hb2 hri q0 q1 q2 q3 q4 q5 k0 k1 k2 k3 k4 k5 s0 s1 lk ls HOF HOO
  go_wp2_with fail
  refine HG.out.mono ?_
  rintro e w3 (⟨h1, _⟩ | ⟨x, _, hx, v3, rfl, ho3, hb3⟩)
  · rw [HGM.out] at h1; cases h1
  rw [HGM.out] at hx
  injection hx with hx
  rw [← hx] at ho3
  obtain ⟨A3, c3, rfl, _, hby3, _, _⟩ := own8_shape ho3
  have p0 := (hb3.cell (p := ⟨w.heap.size, 0, none⟩) lk2).trans n0
  have p1 := (hb3.cell (p := ⟨w.heap.size, 1, none⟩) lk2).trans n1
  have p2 := (hb3.cell (p := ⟨w.heap.size, 2, none⟩) lk2).trans n2
  have p3 := (hb3.cell (p := ⟨w.heap.size, 3, none⟩) lk2).trans n3
  have p4 := (hb3.cell (p := ⟨w.heap.size, 4, none⟩) lk2).trans n4
  have p5 := (hb3.cell (p := ⟨w.heap.size, 5, none⟩) lk2).trans n5
  have y0 := (hb3.cell (p := ⟨w1.heap.size, 0, none⟩) ls2).trans z0
  have y1 := (hb3.cell (p := ⟨w1.heap.size, 1, none⟩) ls2).trans z1
  have HB3 := Lib.hid (HB2.out.trans (hb3.mono HB2.out.size))
  have lk3 : w.heap.size < w3.heap.size := Nat.lt_of_lt_of_le lk2 hb3.size
  clear hb3 n0 n1 n2 n3 n4 n5 z0 z1
  go_wp2_with fail
  refine (HSE.out _).mono ?_; rintro e w4 ⟨rfl, hb4⟩
  have r3 := (hb4.cell (p := ⟨w.heap.size, 3, none⟩) lk3).trans p3
  have HB4 := Lib.hid (HB3.out.trans (hb4.mono HB3.out.size))
  have HSM := Lib.hid (lsame A3 val c3 A val cc w4 (by omega) (by omega) (hby3.below hb4) (HBY.out.below HB4.out))
  clear hb4 p0 p1 p2 p3 p4 p5 y0 y1 ho3 hby3
  go_wp2_with fail
  refine HSM.out.mono ?_
  rintro e w5 ⟨rfl, q, rfl⟩
  first | rw [show decide (val = val) = true from by simp] | rw [show decide True = true from by simp]
  have HB5 := Lib.hid (HB4.out.trans ((drewN_below w4 q).mono HB4.out.size))
  go_wp2_with fail
  refine (known15 _).mono ?_; rintro e w6 ⟨rfl, hb6⟩
  have HB6 := Lib.hid (HB5.out.trans (hb6.mono HB5.out.size))
  clear hb6 r3
  go_wp2
  go_ret
  exact ⟨rfl, HB6.out⟩
set_option maxRecDepth 100000 in
set_option maxHeartbeats 8000000 in
theorem ttl_pos1 (ml ct vo : Int) (A : Option Addr) (val : List Int) (cc : Nat) (tt by_ cnt : Int) (w : World) (hby : ByL w A val) (hn : A = none → val.length = 0) (hy : isBy val) (ho : okV ml ct vo val.length false tt = true) (hr0 : -281474976710656 ≤ by_) (hr1 : by_ ≤ 281474976710656) (hc : -9223372036854775808 ≤ cnt ∧ cnt ≤ 9223372036854775807) (hx0 : 0 < by_) (hx1 : tt ≠ 0) (hx2 : by_ < tt) :
    Calls Try.prog 6 #[verV ml ct vo A val.length cc false tt, .int .i64 by_, .int .i64 cnt] w fun e w' => e = .returned (.bool true) ∧ Below w.heap.size w w' := by
  have HB0 : Hid (Below w.heap.size w (w.alloc (verO ml ct vo A val.length cc false tt))) := Lib.hid (by (repeat' (first | (with_reducible exact Below.refl _ _) | (with_reducible assumption) | (with_reducible refine Below.trans ?_ (Below.mono (by with_reducible assumption) ?_)) | (with_reducible refine Below.alloc ?_ ?_ _) | (with_reducible refine Below.setCell ?_ ?_ _) | (with_reducible refine below_drewN ?_ _) | (with_reducible refine Below.drew ?_) | go_size)))
  have HV0 := fun W => ref_version ml ct vo A val.length cc false tt W
  have hobd := ok_bd (v := ⟨ml, ct, vo, val, false, tt⟩) ho
  rw [ho] at HV0
  have HV := Lib.hid HV0
  have HO : Hid (okV ml ct vo val.length false tt = true) := ho
  obtain ⟨m0, m1, c0, c1, v0, v1, vl, t0, t1⟩ := hobd
  simp only at m0 m1 c0 c1 v0 v1 vl t0 t1
  have l1 : decide ((2000 : Int) < (val.length : Int)) = false := by simp only [decide_eq_false_iff_not]; omega
  have HBY := Lib.hid hby
  have HNN := Lib.hid hn
  have HYY := Lib.hid hy
  have f1 : decide (by_ < -281474976710656) = false := by simp only [decide_eq_false_iff_not]; omega
  have f2 : decide (281474976710656 < by_) = false := by simp only [decide_eq_false_iff_not]; omega
  have wm : IntKind.i64.wrap (ml + by_) = ml + by_ := IntWalk.i64_in _ (by omega)
  have g0 : decide (0 < by_) = true := by simp only [decide_eq_true_eq]; omega
  have g1 : ((tt) == (0 : Int)) = false := by exact beq_no (by omega)
  have g2 : decide (by_ < tt) = true := by simp only [decide_eq_true_eq]; omega
  have HSN : Hid (seenB ⟨ml, ct, vo, val, false, tt⟩ (ml + by_) cnt = true) := Lib.hid (by
    have h1 : cmp2 ml ct (ml + by_) cnt ≤ 0 := cmp2_le.2 (by omega)
    simp [seenB, h1]; omega)
  have HSE0 := fun W => ch_seen ml ct vo A val.length cc false tt (ml + by_) cnt val W m0 t0 m1 t1 (wf_of (by omega))
  rw [HSN.out] at HSE0
  have HSE := Lib.hid HSE0
  have HWF : Hid ((Lit.int .i64 (ml + by_)).wf = true) := Lib.hid (wf_of (by omega))
  clear ho HV0 HSE0 hby hn hy hx0 hx1 hx2 m0 m1 c0 c1 v0 v1 t0 t1 hr0 hr1 hc
  go_enter Try.func6, Try.ntmps6
  go_wp2_with fail
  refine (HV.out _).mono ?_; rintro e w1 ⟨rfl, hb1⟩
  have q0 : w1.cell? ⟨w.heap.size, 0, none⟩ = some (.int .i64 ml) := (hb1.cell (p := ⟨w.heap.size, 0, none⟩) (by simp)).trans (by simp)
  have q1 : w1.cell? ⟨w.heap.size, 1, none⟩ = some (.int .i64 ct) := (hb1.cell (p := ⟨w.heap.size, 1, none⟩) (by simp)).trans (by simp)
  have q2 : w1.cell? ⟨w.heap.size, 2, none⟩ = some (.int .i64 vo) := (hb1.cell (p := ⟨w.heap.size, 2, none⟩) (by simp)).trans (by simp)
  have q3 : w1.cell? ⟨w.heap.size, 3, none⟩ = some (.slice A val.length cc) := (hb1.cell (p := ⟨w.heap.size, 3, none⟩) (by simp)).trans (by simp)
  have q4 : w1.cell? ⟨w.heap.size, 4, none⟩ = some (.bool false) := (hb1.cell (p := ⟨w.heap.size, 4, none⟩) (by simp)).trans (by simp)
  have q5 : w1.cell? ⟨w.heap.size, 5, none⟩ = some (.int .i64 tt) := (hb1.cell (p := ⟨w.heap.size, 5, none⟩) (by simp)).trans (by simp)
  have HB1 := Lib.hid (HB0.out.trans (hb1.mono HB0.out.size))
  have lw : w.heap.size < w1.heap.size := block_lt_of_cell q0
  clear hb1
  have ha1 : Below w1.heap.size w1 (w1.alloc (.cells #[.int .i64 (ml + by_), .int .i64 cnt] 25)) := (Below.refl _ _).alloc (Nat.le_refl _) _
  have k0 := (ha1.cell (p := ⟨w.heap.size, 0, none⟩) lw).trans q0
  have k1 := (ha1.cell (p := ⟨w.heap.size, 1, none⟩) lw).trans q1
  have k2 := (ha1.cell (p := ⟨w.heap.size, 2, none⟩) lw).trans q2
  have k3 := (ha1.cell (p := ⟨w.heap.size, 3, none⟩) lw).trans q3
  have k4 := (ha1.cell (p := ⟨w.heap.size, 4, none⟩) lw).trans q4
  have k5 := (ha1.cell (p := ⟨w.heap.size, 5, none⟩) lw).trans q5
  have s0 : (w1.alloc (.cells #[.int .i64 (ml + by_), .int .i64 cnt] 25)).cell? ⟨w1.heap.size, 0, none⟩ = some (.int .i64 (ml + by_)) := by simp
  have s1 : (w1.alloc (.cells #[.int .i64 (ml + by_), .int .i64 cnt] 25)).cell? ⟨w1.heap.size, 1, none⟩ = some (.int .i64 cnt) := by simp
  have HBA := Lib.hid (HB1.out.trans (ha1.mono HB1.out.size))
  have lz : (w1.alloc (.cells #[.int .i64 (ml + by_), .int .i64 cnt] 25)).heap.size = w1.heap.size + 1 := by simp
  have HLZ := Lib.hid lz
  have HROW : Hid (RowA ((w1.alloc (.cells #[.int .i64 (ml + by_), .int .i64 cnt] 25)).alloc (.cells #[.int .i64 ml, .int .i64 ct, .int .i64 vo, .slice A val.length cc, .bool false, .int .i64 tt] 28)) (some ⟨w1.heap.size + 1, 0, none⟩) [⟨⟨ml, ct, vo, val, false, tt⟩, A, cc⟩]) := Lib.hid (fun _ => ⟨_, _, rfl, by simp, fun j u hu => by
    have h := World.cell?_alloc_at (w := w1.alloc (.cells #[.int .i64 (ml + by_), .int .i64 cnt] 25)) #[.int .i64 ml, .int .i64 ct, .int .i64 vo, .slice A val.length cc, .bool false, .int .i64 tt] 28 (w1.heap.size + 1) j (by simp)
    rw [Nat.zero_add, h, ← hu]
    simp [rowV, Mv.cs]⟩)
  have hbv : Below w.heap.size w ((w1.alloc (.cells #[.int .i64 (ml + by_), .int .i64 cnt] 25)).alloc (.cells #[.int .i64 ml, .int .i64 ct, .int .i64 vo, .slice A val.length cc, .bool false, .int .i64 tt] 28)) := HBA.out.alloc HBA.out.size _
  have HOF := Lib.hid (ch_of (some ⟨w1.heap.size + 1, 0, none⟩) [⟨⟨ml, ct, vo, val, false, tt⟩, A, cc⟩] 1 _ HROW.out (by simp) (fun m hm => by
    simp at hm
    subst hm
    exact ⟨HBY.out.below hbv, HNN.out, fun _ _ _ => trivial, HYY.out⟩))
  have HBV := Lib.hid hbv
  have HOO : Hid (ofM [] [⟨ml, ct, vo, val, false, tt⟩] = (0, [⟨ml, ct, vo, val, false, tt⟩])) := Lib.hid (ofM_one HO.out)
  have lk : w.heap.size < (w1.alloc (.cells #[.int .i64 (ml + by_), .int .i64 cnt] 25)).heap.size := by simp; omega
  have ls : w1.heap.size < (w1.alloc (.cells #[.int .i64 (ml + by_), .int .i64 cnt] 25)).heap.size := by simp
  clear ha1 hbv lz HROW
  go_wp2_with fail
  refine HOF.out.mono ?_
  rintro e w2 (⟨hne, _⟩ | ⟨_, hri, b, v, L', rfl, hch, hmap, _, hb2⟩)
  · exact absurd (by show (ofM [] [⟨ml, ct, vo, val, false, tt⟩]).1 = 0; rw [HOO.out]) hne
  have hmap' : L'.map Mv.v = [⟨ml, ct, vo, val, false, tt⟩] := hmap.trans (by show (ofM [] [⟨ml, ct, vo, val, false, tt⟩]).2 = _; rw [HOO.out])
  have hok : ∀ x ∈ L', x.v.ok = true := fun x hx => by
    have hv : x.v ∈ L'.map Mv.v := List.mem_map_of_mem hx
    rw [hmap'] at hv
    simp at hv
    rw [hv]
    exact HO.out
  have hl1 : L'.length = 1 := by have := congrArg List.length hmap'; simpa using this
  have HG := Lib.hid (ch_get _ b v L' (ml + by_) cnt w2 hch (by omega) (by rw [hmap]; exact hri) hok HWF.out)
  have hbx := ((Below.refl _ (w1.alloc (.cells #[.int .i64 (ml + by_), .int .i64 cnt] 25))).alloc (Nat.le_refl _) (.cells #[.int .i64 ml, .int .i64 ct, .int .i64 vo, .slice A val.length cc, .bool false, .int .i64 tt] 28)).trans (hb2.mono (by simp))
  have n0 := (hbx.cell (p := ⟨w.heap.size, 0, none⟩) lk).trans k0
  have n1 := (hbx.cell (p := ⟨w.heap.size, 1, none⟩) lk).trans k1
  have n2 := (hbx.cell (p := ⟨w.heap.size, 2, none⟩) lk).trans k2
  have n3 := (hbx.cell (p := ⟨w.heap.size, 3, none⟩) lk).trans k3
  have n4 := (hbx.cell (p := ⟨w.heap.size, 4, none⟩) lk).trans k4
  have n5 := (hbx.cell (p := ⟨w.heap.size, 5, none⟩) lk).trans k5
  have z0 := (hbx.cell (p := ⟨w1.heap.size, 0, none⟩) ls).trans s0
  have z1 := (hbx.cell (p := ⟨w1.heap.size, 1, none⟩) ls).trans s1
  have HB2 := Lib.hid (HBV.out.trans (hb2.mono HBV.out.size))
  have HGM : Hid (getM (L'.map Mv.v) (ml + by_, cnt) = some ⟨ml, ct, vo, val, false, tt⟩) := Lib.hid (by rw [hmap', getM_one]; simp [HSN.out])
  have lk2 : w.heap.size < w2.heap.size := Nat.lt_of_lt_of_le lk hbx.size
  have ls2 : w1.heap.size < w2.heap.size := Nat.lt_of_lt_of_le ls hbx.size
  clear hch hmap hmap' hok hl1 hbx hb2 hri q0 q1 q2 q3 q4 q5 k0 k1 k2 k3 k4 k5 s0 s1 lk ls HOF HOO
  go_wp2_with fail
  refine HG.out.mono ?_
  rintro e w3 (⟨h1, _⟩ | ⟨x, _, hx, v3, rfl, ho3, hb3⟩)
  · rw [HGM.out] at h1; cases h1
  rw [HGM.out] at hx
  injection hx with hx
  rw [← hx] at ho3
  obtain ⟨A3, c3, rfl, _, hby3, _, _⟩ := own8_shape ho3
  have p0 := (hb3.cell (p := ⟨w.heap.size, 0, none⟩) lk2).trans n0
  have p1 := (hb3.cell (p := ⟨w.heap.size, 1, none⟩) lk2).trans n1
  have p2 := (hb3.cell (p := ⟨w.heap.size, 2, none⟩) lk2).trans n2
  have p3 := (hb3.cell (p := ⟨w.heap.size, 3, none⟩) lk2).trans n3
  have p4 := (hb3.cell (p := ⟨w.heap.size, 4, none⟩) lk2).trans n4
  have p5 := (hb3.cell (p := ⟨w.heap.size, 5, none⟩) lk2).trans n5
  have y0 := (hb3.cell (p := ⟨w1.heap.size, 0, none⟩) ls2).trans z0
  have y1 := (hb3.cell (p := ⟨w1.heap.size, 1, none⟩) ls2).trans z1
  have HB3 := Lib.hid (HB2.out.trans (hb3.mono HB2.out.size))
  have lk3 : w.heap.size < w3.heap.size := Nat.lt_of_lt_of_le lk2 hb3.size
  clear hb3 n0 n1 n2 n3 n4 n5 z0 z1
  go_wp2_with fail
  refine (HSE.out _).mono ?_; rintro e w4 ⟨rfl, hb4⟩
  have r3 := (hb4.cell (p := ⟨w.heap.size, 3, none⟩) lk3).trans p3
  have HB4 := Lib.hid (HB3.out.trans (hb4.mono HB3.out.size))
  have HSM := Lib.hid (lsame A3 val c3 A val cc w4 (by omega) (by omega) (hby3.below hb4) (HBY.out.below HB4.out))
  clear hb4 p0 p1 p2 p3 p4 p5 y0 y1 ho3 hby3
  go_wp2_with fail
  refine HSM.out.mono ?_
  rintro e w5 ⟨rfl, q, rfl⟩
  first | rw [show decide (val = val) = true from by simp] | rw [show decide True = true from by simp]
  have HB5 := Lib.hid (HB4.out.trans ((drewN_below w4 q).mono HB4.out.size))
  go_wp2_with fail
  refine (known15 _).mono ?_; rintro e w6 ⟨rfl, hb6⟩
  have HB6 := Lib.hid (HB5.out.trans (hb6.mono HB5.out.size))
  clear hb6 r3
  go_wp2
  go_ret
  exact ⟨rfl, HB6.out⟩
set_option maxRecDepth 100000 in
set_option maxHeartbeats 8000000 in
theorem ttl_over (ml ct vo : Int) (A : Option Addr) (val : List Int) (cc : Nat) (tt by_ cnt : Int) (w : World) (hby : ByL w A val) (hn : A = none → val.length = 0) (hy : isBy val) (ho : okV ml ct vo val.length false tt = true) (hr0 : -281474976710656 ≤ by_) (hr1 : by_ ≤ 281474976710656) (hc : -9223372036854775808 ≤ cnt ∧ cnt ≤ 9223372036854775807) (hx0 : 0 < by_) (hx1 : tt ≠ 0) (hx2 : tt ≤ by_) :
    Calls Try.prog 6 #[verV ml ct vo A val.length cc false tt, .int .i64 by_, .int .i64 cnt] w fun e w' => e = .returned (.bool true) ∧ Below w.heap.size w w' := by
  have HB0 : Hid (Below w.heap.size w (w.alloc (verO ml ct vo A val.length cc false tt))) := Lib.hid (by (repeat' (first | (with_reducible exact Below.refl _ _) | (with_reducible assumption) | (with_reducible refine Below.trans ?_ (Below.mono (by with_reducible assumption) ?_)) | (with_reducible refine Below.alloc ?_ ?_ _) | (with_reducible refine Below.setCell ?_ ?_ _) | (with_reducible refine below_drewN ?_ _) | (with_reducible refine Below.drew ?_) | go_size)))
  have HV0 := fun W => ref_version ml ct vo A val.length cc false tt W
  have hobd := ok_bd (v := ⟨ml, ct, vo, val, false, tt⟩) ho
  rw [ho] at HV0
  have HV := Lib.hid HV0
  have HO : Hid (okV ml ct vo val.length false tt = true) := ho
  obtain ⟨m0, m1, c0, c1, v0, v1, vl, t0, t1⟩ := hobd
  simp only at m0 m1 c0 c1 v0 v1 vl t0 t1
  have l1 : decide ((2000 : Int) < (val.length : Int)) = false := by simp only [decide_eq_false_iff_not]; omega
  have HBY := Lib.hid hby
  have HNN := Lib.hid hn
  have HYY := Lib.hid hy
  have f1 : decide (by_ < -281474976710656) = false := by simp only [decide_eq_false_iff_not]; omega
  have f2 : decide (281474976710656 < by_) = false := by simp only [decide_eq_false_iff_not]; omega
  have wm : IntKind.i64.wrap (ml + by_) = ml + by_ := IntWalk.i64_in _ (by omega)
  have g0 : decide (0 < by_) = true := by simp only [decide_eq_true_eq]; omega
  have g1 : ((tt) == (0 : Int)) = false := by exact beq_no (by omega)
  have g2 : decide (by_ < tt) = false := by simp only [decide_eq_false_iff_not]; omega
  have HSN : Hid (seenB ⟨ml, ct, vo, val, false, tt⟩ (ml + by_) cnt = false) := Lib.hid (by
    skip
    simp [seenB]; intro h1; have := cmp2_le.1 h1; omega)
  have HSE0 := fun W => ch_seen ml ct vo A val.length cc false tt (ml + by_) cnt val W m0 t0 m1 t1 (wf_of (by omega))
  rw [HSN.out] at HSE0
  have HSE := Lib.hid HSE0
  have HWF : Hid ((Lit.int .i64 (ml + by_)).wf = true) := Lib.hid (wf_of (by omega))
  clear ho HV0 HSE0 hby hn hy hx0 hx1 hx2 m0 m1 c0 c1 v0 v1 t0 t1 hr0 hr1 hc
  go_enter Try.func6, Try.ntmps6
  go_wp2_with fail
  refine (HV.out _).mono ?_; rintro e w1 ⟨rfl, hb1⟩
  have q0 : w1.cell? ⟨w.heap.size, 0, none⟩ = some (.int .i64 ml) := (hb1.cell (p := ⟨w.heap.size, 0, none⟩) (by simp)).trans (by simp)
  have q1 : w1.cell? ⟨w.heap.size, 1, none⟩ = some (.int .i64 ct) := (hb1.cell (p := ⟨w.heap.size, 1, none⟩) (by simp)).trans (by simp)
  have q2 : w1.cell? ⟨w.heap.size, 2, none⟩ = some (.int .i64 vo) := (hb1.cell (p := ⟨w.heap.size, 2, none⟩) (by simp)).trans (by simp)
  have q3 : w1.cell? ⟨w.heap.size, 3, none⟩ = some (.slice A val.length cc) := (hb1.cell (p := ⟨w.heap.size, 3, none⟩) (by simp)).trans (by simp)
  have q4 : w1.cell? ⟨w.heap.size, 4, none⟩ = some (.bool false) := (hb1.cell (p := ⟨w.heap.size, 4, none⟩) (by simp)).trans (by simp)
  have q5 : w1.cell? ⟨w.heap.size, 5, none⟩ = some (.int .i64 tt) := (hb1.cell (p := ⟨w.heap.size, 5, none⟩) (by simp)).trans (by simp)
  have HB1 := Lib.hid (HB0.out.trans (hb1.mono HB0.out.size))
  have lw : w.heap.size < w1.heap.size := block_lt_of_cell q0
  clear hb1
  have ha1 : Below w1.heap.size w1 (w1.alloc (.cells #[.int .i64 (ml + by_), .int .i64 cnt] 25)) := (Below.refl _ _).alloc (Nat.le_refl _) _
  have k0 := (ha1.cell (p := ⟨w.heap.size, 0, none⟩) lw).trans q0
  have k1 := (ha1.cell (p := ⟨w.heap.size, 1, none⟩) lw).trans q1
  have k2 := (ha1.cell (p := ⟨w.heap.size, 2, none⟩) lw).trans q2
  have k3 := (ha1.cell (p := ⟨w.heap.size, 3, none⟩) lw).trans q3
  have k4 := (ha1.cell (p := ⟨w.heap.size, 4, none⟩) lw).trans q4
  have k5 := (ha1.cell (p := ⟨w.heap.size, 5, none⟩) lw).trans q5
  have s0 : (w1.alloc (.cells #[.int .i64 (ml + by_), .int .i64 cnt] 25)).cell? ⟨w1.heap.size, 0, none⟩ = some (.int .i64 (ml + by_)) := by simp
  have s1 : (w1.alloc (.cells #[.int .i64 (ml + by_), .int .i64 cnt] 25)).cell? ⟨w1.heap.size, 1, none⟩ = some (.int .i64 cnt) := by simp
  have HBA := Lib.hid (HB1.out.trans (ha1.mono HB1.out.size))
  have lz : (w1.alloc (.cells #[.int .i64 (ml + by_), .int .i64 cnt] 25)).heap.size = w1.heap.size + 1 := by simp
  have HLZ := Lib.hid lz
  have HROW : Hid (RowA ((w1.alloc (.cells #[.int .i64 (ml + by_), .int .i64 cnt] 25)).alloc (.cells #[.int .i64 ml, .int .i64 ct, .int .i64 vo, .slice A val.length cc, .bool false, .int .i64 tt] 28)) (some ⟨w1.heap.size + 1, 0, none⟩) [⟨⟨ml, ct, vo, val, false, tt⟩, A, cc⟩]) := Lib.hid (fun _ => ⟨_, _, rfl, by simp, fun j u hu => by
    have h := World.cell?_alloc_at (w := w1.alloc (.cells #[.int .i64 (ml + by_), .int .i64 cnt] 25)) #[.int .i64 ml, .int .i64 ct, .int .i64 vo, .slice A val.length cc, .bool false, .int .i64 tt] 28 (w1.heap.size + 1) j (by simp)
    rw [Nat.zero_add, h, ← hu]
    simp [rowV, Mv.cs]⟩)
  have hbv : Below w.heap.size w ((w1.alloc (.cells #[.int .i64 (ml + by_), .int .i64 cnt] 25)).alloc (.cells #[.int .i64 ml, .int .i64 ct, .int .i64 vo, .slice A val.length cc, .bool false, .int .i64 tt] 28)) := HBA.out.alloc HBA.out.size _
  have HOF := Lib.hid (ch_of (some ⟨w1.heap.size + 1, 0, none⟩) [⟨⟨ml, ct, vo, val, false, tt⟩, A, cc⟩] 1 _ HROW.out (by simp) (fun m hm => by
    simp at hm
    subst hm
    exact ⟨HBY.out.below hbv, HNN.out, fun _ _ _ => trivial, HYY.out⟩))
  have HBV := Lib.hid hbv
  have HOO : Hid (ofM [] [⟨ml, ct, vo, val, false, tt⟩] = (0, [⟨ml, ct, vo, val, false, tt⟩])) := Lib.hid (ofM_one HO.out)
  have lk : w.heap.size < (w1.alloc (.cells #[.int .i64 (ml + by_), .int .i64 cnt] 25)).heap.size := by simp; omega
  have ls : w1.heap.size < (w1.alloc (.cells #[.int .i64 (ml + by_), .int .i64 cnt] 25)).heap.size := by simp
  clear ha1 hbv lz HROW
  go_wp2_with fail
  refine HOF.out.mono ?_
  rintro e w2 (⟨hne, _⟩ | ⟨_, hri, b, v, L', rfl, hch, hmap, _, hb2⟩)
  · exact absurd (by show (ofM [] [⟨ml, ct, vo, val, false, tt⟩]).1 = 0; rw [HOO.out]) hne
  have hmap' : L'.map Mv.v = [⟨ml, ct, vo, val, false, tt⟩] := hmap.trans (by show (ofM [] [⟨ml, ct, vo, val, false, tt⟩]).2 = _; rw [HOO.out])
  have hok : ∀ x ∈ L', x.v.ok = true := fun x hx => by
    have hv : x.v ∈ L'.map Mv.v := List.mem_map_of_mem hx
    rw [hmap'] at hv
    simp at hv
    rw [hv]
    exact HO.out
  have hl1 : L'.length = 1 := by have := congrArg List.length hmap'; simpa using this
  have HG := Lib.hid (ch_get _ b v L' (ml + by_) cnt w2 hch (by omega) (by rw [hmap]; exact hri) hok HWF.out)
  have hbx := ((Below.refl _ (w1.alloc (.cells #[.int .i64 (ml + by_), .int .i64 cnt] 25))).alloc (Nat.le_refl _) (.cells #[.int .i64 ml, .int .i64 ct, .int .i64 vo, .slice A val.length cc, .bool false, .int .i64 tt] 28)).trans (hb2.mono (by simp))
  have n0 := (hbx.cell (p := ⟨w.heap.size, 0, none⟩) lk).trans k0
  have n1 := (hbx.cell (p := ⟨w.heap.size, 1, none⟩) lk).trans k1
  have n2 := (hbx.cell (p := ⟨w.heap.size, 2, none⟩) lk).trans k2
  have n3 := (hbx.cell (p := ⟨w.heap.size, 3, none⟩) lk).trans k3
  have n4 := (hbx.cell (p := ⟨w.heap.size, 4, none⟩) lk).trans k4
  have n5 := (hbx.cell (p := ⟨w.heap.size, 5, none⟩) lk).trans k5
  have z0 := (hbx.cell (p := ⟨w1.heap.size, 0, none⟩) ls).trans s0
  have z1 := (hbx.cell (p := ⟨w1.heap.size, 1, none⟩) ls).trans s1
  have HB2 := Lib.hid (HBV.out.trans (hb2.mono HBV.out.size))
  have HGM : Hid (getM (L'.map Mv.v) (ml + by_, cnt) = none) := Lib.hid (by rw [hmap', getM_one]; simp [HSN.out])
  have lk2 : w.heap.size < w2.heap.size := Nat.lt_of_lt_of_le lk hbx.size
  have ls2 : w1.heap.size < w2.heap.size := Nat.lt_of_lt_of_le ls hbx.size
  clear hch hmap hmap' hok hl1 hbx hb2 hri q0 q1 q2 q3 q4 q5 k0 k1 k2 k3 k4 k5 s0 s1 lk ls HOF HOO
  go_wp2_with fail
  refine HG.out.mono ?_
  rintro e w3 (⟨_, rfl, hb3⟩ | ⟨x, _, hx, _⟩)
  rotate_left
  · rw [HGM.out] at hx; cases hx
  have p0 := (hb3.cell (p := ⟨w.heap.size, 0, none⟩) lk2).trans n0
  have p1 := (hb3.cell (p := ⟨w.heap.size, 1, none⟩) lk2).trans n1
  have p2 := (hb3.cell (p := ⟨w.heap.size, 2, none⟩) lk2).trans n2
  have p3 := (hb3.cell (p := ⟨w.heap.size, 3, none⟩) lk2).trans n3
  have p4 := (hb3.cell (p := ⟨w.heap.size, 4, none⟩) lk2).trans n4
  have p5 := (hb3.cell (p := ⟨w.heap.size, 5, none⟩) lk2).trans n5
  have y0 := (hb3.cell (p := ⟨w1.heap.size, 0, none⟩) ls2).trans z0
  have y1 := (hb3.cell (p := ⟨w1.heap.size, 1, none⟩) ls2).trans z1
  have HB3 := Lib.hid (HB2.out.trans (hb3.mono HB2.out.size))
  have lk3 : w.heap.size < w3.heap.size := Nat.lt_of_lt_of_le lk2 hb3.size
  clear hb3 n0 n1 n2 n3 n4 n5 z0 z1
  go_wp2_with fail
  refine (HSE.out _).mono ?_; rintro e w4 ⟨rfl, hb4⟩
  have r3 := (hb4.cell (p := ⟨w.heap.size, 3, none⟩) lk3).trans p3
  have HB4 := Lib.hid (HB3.out.trans (hb4.mono HB3.out.size))
  clear hb4 p0 p1 p2 p3 p4 p5 y0 y1
  go_wp2_with fail
  refine (known15 _).mono ?_; rintro e w6 ⟨rfl, hb6⟩
  have HB6 := Lib.hid (HB4.out.trans (hb6.mono HB4.out.size))
  clear hb6 r3
  go_wp2
  go_ret
  exact ⟨rfl, HB6.out⟩
set_option maxRecDepth 100000 in
set_option maxHeartbeats 8000000 in
theorem ttl_now0 (ml ct vo : Int) (A : Option Addr) (val : List Int) (cc : Nat) (tt by_ cnt : Int) (w : World) (hby : ByL w A val) (hn : A = none → val.length = 0) (hy : isBy val) (ho : okV ml ct vo val.length false tt = true) (hr0 : -281474976710656 ≤ by_) (hr1 : by_ ≤ 281474976710656) (hc : -9223372036854775808 ≤ cnt ∧ cnt ≤ 9223372036854775807) (hx0 : by_ = 0) (hx1 : ct ≤ cnt) (hx2 : tt = 0) :
    Calls Try.prog 6 #[verV ml ct vo A val.length cc false tt, .int .i64 by_, .int .i64 cnt] w fun e w' => e = .returned (.bool true) ∧ Below w.heap.size w w' := by
  have HB0 : Hid (Below w.heap.size w (w.alloc (verO ml ct vo A val.length cc false tt))) := Lib.hid (by (repeat' (first | (with_reducible exact Below.refl _ _) | (with_reducible assumption) | (with_reducible refine Below.trans ?_ (Below.mono (by with_reducible assumption) ?_)) | (with_reducible refine Below.alloc ?_ ?_ _) | (with_reducible refine Below.setCell ?_ ?_ _) | (with_reducible refine below_drewN ?_ _) | (with_reducible refine Below.drew ?_) | go_size)))
  have HV0 := fun W => ref_version ml ct vo A val.length cc false tt W
  have hobd := ok_bd (v := ⟨ml, ct, vo, val, false, tt⟩) ho
  rw [ho] at HV0
  have HV := Lib.hid HV0
  have HO : Hid (okV ml ct vo val.length false tt = true) := ho
  obtain ⟨m0, m1, c0, c1, v0, v1, vl, t0, t1⟩ := hobd
  simp only at m0 m1 c0 c1 v0 v1 vl t0 t1
  have l1 : decide ((2000 : Int) < (val.length : Int)) = false := by simp only [decide_eq_false_iff_not]; omega
  have HBY := Lib.hid hby
  have HNN := Lib.hid hn
  have HYY := Lib.hid hy
  have f1 : decide (by_ < -281474976710656) = false := by simp only [decide_eq_false_iff_not]; omega
  have f2 : decide (281474976710656 < by_) = false := by simp only [decide_eq_false_iff_not]; omega
  have wm : IntKind.i64.wrap (ml + by_) = ml + by_ := IntWalk.i64_in _ (by omega)
  have g0 : decide (0 < by_) = false := by simp only [decide_eq_false_iff_not]; omega
  have g1 : ((by_) == (0 : Int)) = true := by exact beq_of (by omega)
  have g2 : decide (ct ≤ cnt) = true := by simp only [decide_eq_true_eq]; omega
  have g3 : decide (cnt < ct) = false := by simp only [decide_eq_false_iff_not]; omega
  have g4 : ((tt) == (0 : Int)) = true := by exact beq_of (by omega)
  have HSN : Hid (seenB ⟨ml, ct, vo, val, false, tt⟩ (ml + by_) cnt = true) := Lib.hid (by
    have h1 : cmp2 ml ct (ml + by_) cnt ≤ 0 := cmp2_le.2 (by omega)
    simp [seenB, h1]; omega)
  have HSE0 := fun W => ch_seen ml ct vo A val.length cc false tt (ml + by_) cnt val W m0 t0 m1 t1 (wf_of (by omega))
  rw [HSN.out] at HSE0
  have HSE := Lib.hid HSE0
  have HWF : Hid ((Lit.int .i64 (ml + by_)).wf = true) := Lib.hid (wf_of (by omega))
  clear ho HV0 HSE0 hby hn hy hx0 hx1 hx2 m0 m1 c0 c1 v0 v1 t0 t1 hr0 hr1 hc
  go_enter Try.func6, Try.ntmps6
  go_wp2_with fail
  refine (HV.out _).mono ?_; rintro e w1 ⟨rfl, hb1⟩
  have q0 : w1.cell? ⟨w.heap.size, 0, none⟩ = some (.int .i64 ml) := (hb1.cell (p := ⟨w.heap.size, 0, none⟩) (by simp)).trans (by simp)
  have q1 : w1.cell? ⟨w.heap.size, 1, none⟩ = some (.int .i64 ct) := (hb1.cell (p := ⟨w.heap.size, 1, none⟩) (by simp)).trans (by simp)
  have q2 : w1.cell? ⟨w.heap.size, 2, none⟩ = some (.int .i64 vo) := (hb1.cell (p := ⟨w.heap.size, 2, none⟩) (by simp)).trans (by simp)
  have q3 : w1.cell? ⟨w.heap.size, 3, none⟩ = some (.slice A val.length cc) := (hb1.cell (p := ⟨w.heap.size, 3, none⟩) (by simp)).trans (by simp)
  have q4 : w1.cell? ⟨w.heap.size, 4, none⟩ = some (.bool false) := (hb1.cell (p := ⟨w.heap.size, 4, none⟩) (by simp)).trans (by simp)
  have q5 : w1.cell? ⟨w.heap.size, 5, none⟩ = some (.int .i64 tt) := (hb1.cell (p := ⟨w.heap.size, 5, none⟩) (by simp)).trans (by simp)
  have HB1 := Lib.hid (HB0.out.trans (hb1.mono HB0.out.size))
  have lw : w.heap.size < w1.heap.size := block_lt_of_cell q0
  clear hb1
  have ha1 : Below w1.heap.size w1 (w1.alloc (.cells #[.int .i64 (ml + by_), .int .i64 cnt] 25)) := (Below.refl _ _).alloc (Nat.le_refl _) _
  have k0 := (ha1.cell (p := ⟨w.heap.size, 0, none⟩) lw).trans q0
  have k1 := (ha1.cell (p := ⟨w.heap.size, 1, none⟩) lw).trans q1
  have k2 := (ha1.cell (p := ⟨w.heap.size, 2, none⟩) lw).trans q2
  have k3 := (ha1.cell (p := ⟨w.heap.size, 3, none⟩) lw).trans q3
  have k4 := (ha1.cell (p := ⟨w.heap.size, 4, none⟩) lw).trans q4
  have k5 := (ha1.cell (p := ⟨w.heap.size, 5, none⟩) lw).trans q5
  have s0 : (w1.alloc (.cells #[.int .i64 (ml + by_), .int .i64 cnt] 25)).cell? ⟨w1.heap.size, 0, none⟩ = some (.int .i64 (ml + by_)) := by simp
  have s1 : (w1.alloc (.cells #[.int .i64 (ml + by_), .int .i64 cnt] 25)).cell? ⟨w1.heap.size, 1, none⟩ = some (.int .i64 cnt) := by simp
  have HBA := Lib.hid (HB1.out.trans (ha1.mono HB1.out.size))
  have lz : (w1.alloc (.cells #[.int .i64 (ml + by_), .int .i64 cnt] 25)).heap.size = w1.heap.size + 1 := by simp
  have HLZ := Lib.hid lz
  have HROW : Hid (RowA ((w1.alloc (.cells #[.int .i64 (ml + by_), .int .i64 cnt] 25)).alloc (.cells #[.int .i64 ml, .int .i64 ct, .int .i64 vo, .slice A val.length cc, .bool false, .int .i64 tt] 28)) (some ⟨w1.heap.size + 1, 0, none⟩) [⟨⟨ml, ct, vo, val, false, tt⟩, A, cc⟩]) := Lib.hid (fun _ => ⟨_, _, rfl, by simp, fun j u hu => by
    have h := World.cell?_alloc_at (w := w1.alloc (.cells #[.int .i64 (ml + by_), .int .i64 cnt] 25)) #[.int .i64 ml, .int .i64 ct, .int .i64 vo, .slice A val.length cc, .bool false, .int .i64 tt] 28 (w1.heap.size + 1) j (by simp)
    rw [Nat.zero_add, h, ← hu]
    simp [rowV, Mv.cs]⟩)
  have hbv : Below w.heap.size w ((w1.alloc (.cells #[.int .i64 (ml + by_), .int .i64 cnt] 25)).alloc (.cells #[.int .i64 ml, .int .i64 ct, .int .i64 vo, .slice A val.length cc, .bool false, .int .i64 tt] 28)) := HBA.out.alloc HBA.out.size _
  have HOF := Lib.hid (ch_of (some ⟨w1.heap.size + 1, 0, none⟩) [⟨⟨ml, ct, vo, val, false, tt⟩, A, cc⟩] 1 _ HROW.out (by simp) (fun m hm => by
    simp at hm
    subst hm
    exact ⟨HBY.out.below hbv, HNN.out, fun _ _ _ => trivial, HYY.out⟩))
  have HBV := Lib.hid hbv
  have HOO : Hid (ofM [] [⟨ml, ct, vo, val, false, tt⟩] = (0, [⟨ml, ct, vo, val, false, tt⟩])) := Lib.hid (ofM_one HO.out)
  have lk : w.heap.size < (w1.alloc (.cells #[.int .i64 (ml + by_), .int .i64 cnt] 25)).heap.size := by simp; omega
  have ls : w1.heap.size < (w1.alloc (.cells #[.int .i64 (ml + by_), .int .i64 cnt] 25)).heap.size := by simp
  clear ha1 hbv lz HROW
  go_wp2_with fail
  refine HOF.out.mono ?_
  rintro e w2 (⟨hne, _⟩ | ⟨_, hri, b, v, L', rfl, hch, hmap, _, hb2⟩)
  · exact absurd (by show (ofM [] [⟨ml, ct, vo, val, false, tt⟩]).1 = 0; rw [HOO.out]) hne
  have hmap' : L'.map Mv.v = [⟨ml, ct, vo, val, false, tt⟩] := hmap.trans (by show (ofM [] [⟨ml, ct, vo, val, false, tt⟩]).2 = _; rw [HOO.out])
  have hok : ∀ x ∈ L', x.v.ok = true := fun x hx => by
    have hv : x.v ∈ L'.map Mv.v := List.mem_map_of_mem hx
    rw [hmap'] at hv
    simp at hv
    rw [hv]
    exact HO.out
  have hl1 : L'.length = 1 := by have := congrArg List.length hmap'; simpa using this
  have HG := Lib.hid (ch_get _ b v L' (ml + by_) cnt w2 hch (by omega) (by rw [hmap]; exact hri) hok HWF.out)
  have hbx := ((Below.refl _ (w1.alloc (.cells #[.int .i64 (ml + by_), .int .i64 cnt] 25))).alloc (Nat.le_refl _) (.cells #[.int .i64 ml, .int .i64 ct, .int .i64 vo, .slice A val.length cc, .bool false, .int .i64 tt] 28)).trans (hb2.mono (by simp))
  have n0 := (hbx.cell (p := ⟨w.heap.size, 0, none⟩) lk).trans k0
  have n1 := (hbx.cell (p := ⟨w.heap.size, 1, none⟩) lk).trans k1
  have n2 := (hbx.cell (p := ⟨w.heap.size, 2, none⟩) lk).trans k2
  have n3 := (hbx.cell (p := ⟨w.heap.size, 3, none⟩) lk).trans k3
  have n4 := (hbx.cell (p := ⟨w.heap.size, 4, none⟩) lk).trans k4
  have n5 := (hbx.cell (p := ⟨w.heap.size, 5, none⟩) lk).trans k5
  have z0 := (hbx.cell (p := ⟨w1.heap.size, 0, none⟩) ls).trans s0
  have z1 := (hbx.cell (p := ⟨w1.heap.size, 1, none⟩) ls).trans s1
  have HB2 := Lib.hid (HBV.out.trans (hb2.mono HBV.out.size))
  have HGM : Hid (getM (L'.map Mv.v) (ml + by_, cnt) = some ⟨ml, ct, vo, val, false, tt⟩) := Lib.hid (by rw [hmap', getM_one]; simp [HSN.out])
  have lk2 : w.heap.size < w2.heap.size := Nat.lt_of_lt_of_le lk hbx.size
  have ls2 : w1.heap.size < w2.heap.size := Nat.lt_of_lt_of_le ls hbx.size
  clear hch hmap hmap' hok hl1 hbx hb2 hri q0 q1 q2 q3 q4 q5 k0 k1 k2 k3 k4 k5 s0 s1 lk ls HOF HOO
  go_wp2_with fail
  refine HG.out.mono ?_
  rintro e w3 (⟨h1, _⟩ | ⟨x, _, hx, v3, rfl, ho3, hb3⟩)
  · rw [HGM.out] at h1; cases h1
  rw [HGM.out] at hx
  injection hx with hx
  rw [← hx] at ho3
  obtain ⟨A3, c3, rfl, _, hby3, _, _⟩ := own8_shape ho3
  have p0 := (hb3.cell (p := ⟨w.heap.size, 0, none⟩) lk2).trans n0
  have p1 := (hb3.cell (p := ⟨w.heap.size, 1, none⟩) lk2).trans n1
  have p2 := (hb3.cell (p := ⟨w.heap.size, 2, none⟩) lk2).trans n2
  have p3 := (hb3.cell (p := ⟨w.heap.size, 3, none⟩) lk2).trans n3
  have p4 := (hb3.cell (p := ⟨w.heap.size, 4, none⟩) lk2).trans n4
  have p5 := (hb3.cell (p := ⟨w.heap.size, 5, none⟩) lk2).trans n5
  have y0 := (hb3.cell (p := ⟨w1.heap.size, 0, none⟩) ls2).trans z0
  have y1 := (hb3.cell (p := ⟨w1.heap.size, 1, none⟩) ls2).trans z1
  have HB3 := Lib.hid (HB2.out.trans (hb3.mono HB2.out.size))
  have lk3 : w.heap.size < w3.heap.size := Nat.lt_of_lt_of_le lk2 hb3.size
  clear hb3 n0 n1 n2 n3 n4 n5 z0 z1
  go_wp2_with fail
  refine (HSE.out _).mono ?_; rintro e w4 ⟨rfl, hb4⟩
  have r3 := (hb4.cell (p := ⟨w.heap.size, 3, none⟩) lk3).trans p3
  have HB4 := Lib.hid (HB3.out.trans (hb4.mono HB3.out.size))
  have HSM := Lib.hid (lsame A3 val c3 A val cc w4 (by omega) (by omega) (hby3.below hb4) (HBY.out.below HB4.out))
  clear hb4 p0 p1 p2 p3 p4 p5 y0 y1 ho3 hby3
  go_wp2_with fail
  refine HSM.out.mono ?_
  rintro e w5 ⟨rfl, q, rfl⟩
  first | rw [show decide (val = val) = true from by simp] | rw [show decide True = true from by simp]
  have HB5 := Lib.hid (HB4.out.trans ((drewN_below w4 q).mono HB4.out.size))
  go_wp2_with fail
  refine (known15 _).mono ?_; rintro e w6 ⟨rfl, hb6⟩
  have HB6 := Lib.hid (HB5.out.trans (hb6.mono HB5.out.size))
  clear hb6 r3
  go_wp2
  go_ret
  exact ⟨rfl, HB6.out⟩
set_option maxRecDepth 100000 in
set_option maxHeartbeats 8000000 in
theorem ttl_now1 (ml ct vo : Int) (A : Option Addr) (val : List Int) (cc : Nat) (tt by_ cnt : Int) (w : World) (hby : ByL w A val) (hn : A = none → val.length = 0) (hy : isBy val) (ho : okV ml ct vo val.length false tt = true) (hr0 : -281474976710656 ≤ by_) (hr1 : by_ ≤ 281474976710656) (hc : -9223372036854775808 ≤ cnt ∧ cnt ≤ 9223372036854775807) (hx0 : by_ = 0) (hx1 : ct ≤ cnt) (hx2 : tt ≠ 0) :
    Calls Try.prog 6 #[verV ml ct vo A val.length cc false tt, .int .i64 by_, .int .i64 cnt] w fun e w' => e = .returned (.bool true) ∧ Below w.heap.size w w' := by
  have HB0 : Hid (Below w.heap.size w (w.alloc (verO ml ct vo A val.length cc false tt))) := Lib.hid (by (repeat' (first | (with_reducible exact Below.refl _ _) | (with_reducible assumption) | (with_reducible refine Below.trans ?_ (Below.mono (by with_reducible assumption) ?_)) | (with_reducible refine Below.alloc ?_ ?_ _) | (with_reducible refine Below.setCell ?_ ?_ _) | (with_reducible refine below_drewN ?_ _) | (with_reducible refine Below.drew ?_) | go_size)))
  have HV0 := fun W => ref_version ml ct vo A val.length cc false tt W
  have hobd := ok_bd (v := ⟨ml, ct, vo, val, false, tt⟩) ho
  rw [ho] at HV0
  have HV := Lib.hid HV0
  have HO : Hid (okV ml ct vo val.length false tt = true) := ho
  obtain ⟨m0, m1, c0, c1, v0, v1, vl, t0, t1⟩ := hobd
  simp only at m0 m1 c0 c1 v0 v1 vl t0 t1
  have l1 : decide ((2000 : Int) < (val.length : Int)) = false := by simp only [decide_eq_false_iff_not]; omega
  have HBY := Lib.hid hby
  have HNN := Lib.hid hn
  have HYY := Lib.hid hy
  have f1 : decide (by_ < -281474976710656) = false := by simp only [decide_eq_false_iff_not]; omega
  have f2 : decide (281474976710656 < by_) = false := by simp only [decide_eq_false_iff_not]; omega
  have wm : IntKind.i64.wrap (ml + by_) = ml + by_ := IntWalk.i64_in _ (by omega)
  have g0 : decide (0 < by_) = false := by simp only [decide_eq_false_iff_not]; omega
  have g1 : ((by_) == (0 : Int)) = true := by exact beq_of (by omega)
  have g2 : decide (ct ≤ cnt) = true := by simp only [decide_eq_true_eq]; omega
  have g3 : decide (cnt < ct) = false := by simp only [decide_eq_false_iff_not]; omega
  have g4 : ((tt) == (0 : Int)) = false := by exact beq_no (by omega)
  have g5 : decide (by_ < tt) = true := by simp only [decide_eq_true_eq]; omega
  have HSN : Hid (seenB ⟨ml, ct, vo, val, false, tt⟩ (ml + by_) cnt = true) := Lib.hid (by
    have h1 : cmp2 ml ct (ml + by_) cnt ≤ 0 := cmp2_le.2 (by omega)
    simp [seenB, h1]; omega)
  have HSE0 := fun W => ch_seen ml ct vo A val.length cc false tt (ml + by_) cnt val W m0 t0 m1 t1 (wf_of (by omega))
  rw [HSN.out] at HSE0
  have HSE := Lib.hid HSE0
  have HWF : Hid ((Lit.int .i64 (ml + by_)).wf = true) := Lib.hid (wf_of (by omega))
  clear ho HV0 HSE0 hby hn hy hx0 hx1 hx2 m0 m1 c0 c1 v0 v1 t0 t1 hr0 hr1 hc
  go_enter Try.func6, Try.ntmps6
  go_wp2_with fail
  refine (HV.out _).mono ?_; rintro e w1 ⟨rfl, hb1⟩
  have q0 : w1.cell? ⟨w.heap.size, 0, none⟩ = some (.int .i64 ml) := (hb1.cell (p := ⟨w.heap.size, 0, none⟩) (by simp)).trans (by simp)
  have q1 : w1.cell? ⟨w.heap.size, 1, none⟩ = some (.int .i64 ct) := (hb1.cell (p := ⟨w.heap.size, 1, none⟩) (by simp)).trans (by simp)
  have q2 : w1.cell? ⟨w.heap.size, 2, none⟩ = some (.int .i64 vo) := (hb1.cell (p := ⟨w.heap.size, 2, none⟩) (by simp)).trans (by simp)
  have q3 : w1.cell? ⟨w.heap.size, 3, none⟩ = some (.slice A val.length cc) := (hb1.cell (p := ⟨w.heap.size, 3, none⟩) (by simp)).trans (by simp)
  have q4 : w1.cell? ⟨w.heap.size, 4, none⟩ = some (.bool false) := (hb1.cell (p := ⟨w.heap.size, 4, none⟩) (by simp)).trans (by simp)
  have q5 : w1.cell? ⟨w.heap.size, 5, none⟩ = some (.int .i64 tt) := (hb1.cell (p := ⟨w.heap.size, 5, none⟩) (by simp)).trans (by simp)
  have HB1 := Lib.hid (HB0.out.trans (hb1.mono HB0.out.size))
  have lw : w.heap.size < w1.heap.size := block_lt_of_cell q0
  clear hb1
  have ha1 : Below w1.heap.size w1 (w1.alloc (.cells #[.int .i64 (ml + by_), .int .i64 cnt] 25)) := (Below.refl _ _).alloc (Nat.le_refl _) _
  have k0 := (ha1.cell (p := ⟨w.heap.size, 0, none⟩) lw).trans q0
  have k1 := (ha1.cell (p := ⟨w.heap.size, 1, none⟩) lw).trans q1
  have k2 := (ha1.cell (p := ⟨w.heap.size, 2, none⟩) lw).trans q2
  have k3 := (ha1.cell (p := ⟨w.heap.size, 3, none⟩) lw).trans q3
  have k4 := (ha1.cell (p := ⟨w.heap.size, 4, none⟩) lw).trans q4
  have k5 := (ha1.cell (p := ⟨w.heap.size, 5, none⟩) lw).trans q5
  have s0 : (w1.alloc (.cells #[.int .i64 (ml + by_), .int .i64 cnt] 25)).cell? ⟨w1.heap.size, 0, none⟩ = some (.int .i64 (ml + by_)) := by simp
  have s1 : (w1.alloc (.cells #[.int .i64 (ml + by_), .int .i64 cnt] 25)).cell? ⟨w1.heap.size, 1, none⟩ = some (.int .i64 cnt) := by simp
  have HBA := Lib.hid (HB1.out.trans (ha1.mono HB1.out.size))
  have lz : (w1.alloc (.cells #[.int .i64 (ml + by_), .int .i64 cnt] 25)).heap.size = w1.heap.size + 1 := by simp
  have HLZ := Lib.hid lz
  have HROW : Hid (RowA ((w1.alloc (.cells #[.int .i64 (ml + by_), .int .i64 cnt] 25)).alloc (.cells #[.int .i64 ml, .int .i64 ct, .int .i64 vo, .slice A val.length cc, .bool false, .int .i64 tt] 28)) (some ⟨w1.heap.size + 1, 0, none⟩) [⟨⟨ml, ct, vo, val, false, tt⟩, A, cc⟩]) := Lib.hid (fun _ => ⟨_, _, rfl, by simp, fun j u hu => by
    have h := World.cell?_alloc_at (w := w1.alloc (.cells #[.int .i64 (ml + by_), .int .i64 cnt] 25)) #[.int .i64 ml, .int .i64 ct, .int .i64 vo, .slice A val.length cc, .bool false, .int .i64 tt] 28 (w1.heap.size + 1) j (by simp)
    rw [Nat.zero_add, h, ← hu]
    simp [rowV, Mv.cs]⟩)
  have hbv : Below w.heap.size w ((w1.alloc (.cells #[.int .i64 (ml + by_), .int .i64 cnt] 25)).alloc (.cells #[.int .i64 ml, .int .i64 ct, .int .i64 vo, .slice A val.length cc, .bool false, .int .i64 tt] 28)) := HBA.out.alloc HBA.out.size _
  have HOF := Lib.hid (ch_of (some ⟨w1.heap.size + 1, 0, none⟩) [⟨⟨ml, ct, vo, val, false, tt⟩, A, cc⟩] 1 _ HROW.out (by simp) (fun m hm => by
    simp at hm
    subst hm
    exact ⟨HBY.out.below hbv, HNN.out, fun _ _ _ => trivial, HYY.out⟩))
  have HBV := Lib.hid hbv
  have HOO : Hid (ofM [] [⟨ml, ct, vo, val, false, tt⟩] = (0, [⟨ml, ct, vo, val, false, tt⟩])) := Lib.hid (ofM_one HO.out)
  have lk : w.heap.size < (w1.alloc (.cells #[.int .i64 (ml + by_), .int .i64 cnt] 25)).heap.size := by simp; omega
  have ls : w1.heap.size < (w1.alloc (.cells #[.int .i64 (ml + by_), .int .i64 cnt] 25)).heap.size := by simp
  clear ha1 hbv lz HROW
  go_wp2_with fail
  refine HOF.out.mono ?_
  rintro e w2 (⟨hne, _⟩ | ⟨_, hri, b, v, L', rfl, hch, hmap, _, hb2⟩)
  · exact absurd (by show (ofM [] [⟨ml, ct, vo, val, false, tt⟩]).1 = 0; rw [HOO.out]) hne
  have hmap' : L'.map Mv.v = [⟨ml, ct, vo, val, false, tt⟩] := hmap.trans (by show (ofM [] [⟨ml, ct, vo, val, false, tt⟩]).2 = _; rw [HOO.out])
  have hok : ∀ x ∈ L', x.v.ok = true := fun x hx => by
    have hv : x.v ∈ L'.map Mv.v := List.mem_map_of_mem hx
    rw [hmap'] at hv
    simp at hv
    rw [hv]
    exact HO.out
  have hl1 : L'.length = 1 := by have := congrArg List.length hmap'; simpa using this
  have HG := Lib.hid (ch_get _ b v L' (ml + by_) cnt w2 hch (by omega) (by rw [hmap]; exact hri) hok HWF.out)
  have hbx := ((Below.refl _ (w1.alloc (.cells #[.int .i64 (ml + by_), .int .i64 cnt] 25))).alloc (Nat.le_refl _) (.cells #[.int .i64 ml, .int .i64 ct, .int .i64 vo, .slice A val.length cc, .bool false, .int .i64 tt] 28)).trans (hb2.mono (by simp))
  have n0 := (hbx.cell (p := ⟨w.heap.size, 0, none⟩) lk).trans k0
  have n1 := (hbx.cell (p := ⟨w.heap.size, 1, none⟩) lk).trans k1
  have n2 := (hbx.cell (p := ⟨w.heap.size, 2, none⟩) lk).trans k2
  have n3 := (hbx.cell (p := ⟨w.heap.size, 3, none⟩) lk).trans k3
  have n4 := (hbx.cell (p := ⟨w.heap.size, 4, none⟩) lk).trans k4
  have n5 := (hbx.cell (p := ⟨w.heap.size, 5, none⟩) lk).trans k5
  have z0 := (hbx.cell (p := ⟨w1.heap.size, 0, none⟩) ls).trans s0
  have z1 := (hbx.cell (p := ⟨w1.heap.size, 1, none⟩) ls).trans s1
  have HB2 := Lib.hid (HBV.out.trans (hb2.mono HBV.out.size))
  have HGM : Hid (getM (L'.map Mv.v) (ml + by_, cnt) = some ⟨ml, ct, vo, val, false, tt⟩) := Lib.hid (by rw [hmap', getM_one]; simp [HSN.out])
  have lk2 : w.heap.size < w2.heap.size := Nat.lt_of_lt_of_le lk hbx.size
  have ls2 : w1.heap.size < w2.heap.size := Nat.lt_of_lt_of_le ls hbx.size
  clear hch hmap hmap' hok hl1 hbx hb2 hri q0 q1 q2 q3 q4 q5 k0 k1 k2 k3 k4 k5 s0 s1 lk ls HOF HOO
  go_wp2_with fail
  refine HG.out.mono ?_
  rintro e w3 (⟨h1, _⟩ | ⟨x, _, hx, v3, rfl, ho3, hb3⟩)
  · rw [HGM.out] at h1; cases h1
  rw [HGM.out] at hx
  injection hx with hx
  rw [← hx] at ho3
  obtain ⟨A3, c3, rfl, _, hby3, _, _⟩ := own8_shape ho3
  have p0 := (hb3.cell (p := ⟨w.heap.size, 0, none⟩) lk2).trans n0
  have p1 := (hb3.cell (p := ⟨w.heap.size, 1, none⟩) lk2).trans n1
  have p2 := (hb3.cell (p := ⟨w.heap.size, 2, none⟩) lk2).trans n2
  have p3 := (hb3.cell (p := ⟨w.heap.size, 3, none⟩) lk2).trans n3
  have p4 := (hb3.cell (p := ⟨w.heap.size, 4, none⟩) lk2).trans n4
  have p5 := (hb3.cell (p := ⟨w.heap.size, 5, none⟩) lk2).trans n5
  have y0 := (hb3.cell (p := ⟨w1.heap.size, 0, none⟩) ls2).trans z0
  have y1 := (hb3.cell (p := ⟨w1.heap.size, 1, none⟩) ls2).trans z1
  have HB3 := Lib.hid (HB2.out.trans (hb3.mono HB2.out.size))
  have lk3 : w.heap.size < w3.heap.size := Nat.lt_of_lt_of_le lk2 hb3.size
  clear hb3 n0 n1 n2 n3 n4 n5 z0 z1
  go_wp2_with fail
  refine (HSE.out _).mono ?_; rintro e w4 ⟨rfl, hb4⟩
  have r3 := (hb4.cell (p := ⟨w.heap.size, 3, none⟩) lk3).trans p3
  have HB4 := Lib.hid (HB3.out.trans (hb4.mono HB3.out.size))
  have HSM := Lib.hid (lsame A3 val c3 A val cc w4 (by omega) (by omega) (hby3.below hb4) (HBY.out.below HB4.out))
  clear hb4 p0 p1 p2 p3 p4 p5 y0 y1 ho3 hby3
  go_wp2_with fail
  refine HSM.out.mono ?_
  rintro e w5 ⟨rfl, q, rfl⟩
  first | rw [show decide (val = val) = true from by simp] | rw [show decide True = true from by simp]
  have HB5 := Lib.hid (HB4.out.trans ((drewN_below w4 q).mono HB4.out.size))
  go_wp2_with fail
  refine (known15 _).mono ?_; rintro e w6 ⟨rfl, hb6⟩
  have HB6 := Lib.hid (HB5.out.trans (hb6.mono HB5.out.size))
  clear hb6 r3
  go_wp2
  go_ret
  exact ⟨rfl, HB6.out⟩
theorem chainTTL_any (ml ct vo : Int) (A : Option Addr) (val : List Int) (cc : Nat) (gn : Bool) (tt by_ cnt : Int) (w : World) (hby : ByL w A val) (hn : A = none → val.length = 0) (hy : isBy val) (hc : -9223372036854775808 ≤ cnt ∧ cnt ≤ 9223372036854775807) :
    Calls Try.prog 6 #[verV ml ct vo A val.length cc gn tt, .int .i64 by_, .int .i64 cnt] w fun e w' => e = .returned (.bool true) ∧ Below w.heap.size w w' := by
  cases ho : okV ml ct vo val.length gn tt with
  | false => exact ttl_no ml ct vo A val cc gn tt by_ cnt w hby hn hy ho
  | true =>
    by_cases h0 : by_ < -281474976710656
    · exact ttl_far ml ct vo A val cc gn tt by_ cnt w hby hn hy ho (.inl h0)
    by_cases h1 : 281474976710656 < by_
    · exact ttl_far ml ct vo A val cc gn tt by_ cnt w hby hn hy ho (.inr h1)
    cases gn with
    | true => exact ttl_gone ml ct vo A val cc tt by_ cnt w hby hn hy ho (by omega) (by omega) hc
    | false =>
      by_cases h2 : by_ < 0
      · exact ttl_neg ml ct vo A val cc tt by_ cnt w hby hn hy ho (by omega) (by omega) hc h2
      by_cases h3 : by_ = 0
      · by_cases h4 : cnt < ct
        · exact ttl_ahead ml ct vo A val cc tt by_ cnt w hby hn hy ho (by omega) (by omega) hc h3 h4
        by_cases h5 : tt = 0
        · exact ttl_now0 ml ct vo A val cc tt by_ cnt w hby hn hy ho (by omega) (by omega) hc h3 (by omega) h5
        · exact ttl_now1 ml ct vo A val cc tt by_ cnt w hby hn hy ho (by omega) (by omega) hc h3 (by omega) h5
      · by_cases h5 : tt = 0
        · exact ttl_pos0 ml ct vo A val cc tt by_ cnt w hby hn hy ho (by omega) (by omega) hc (by omega) h5
        by_cases h6 : by_ < tt
        · exact ttl_pos1 ml ct vo A val cc tt by_ cnt w hby hn hy ho (by omega) (by omega) hc (by omega) h5 h6
        · exact ttl_over ml ct vo A val cc tt by_ cnt w hby hn hy ho (by omega) (by omega) hc (by omega) h5 (by omega)
set_option maxRecDepth 100000 in
theorem chainTTL_lifted (os : Os) (started : os.Started) (H : Type) (enc : TypeId × Value → H) :
    ReturnsInHanded {} Try.checked os 6 .any (Rows.chainTTLSpec.pre6 enc Try.prog Try.f6 Rows.chainTTLRow.domain false) (Rows.chainTTLSpec.post enc Try.prog Try.f6 false true false false) := by
  refine returnsInHanded_of_change_sized (C := Try.checked) law_own started (by kernel_rfl) Try.func6
    (ChangeSpec.witness6 (enc := enc) (C := Try.checked) false ⟨#[], #[verV 0 0 0 none 0 0 false 0, .int .i64 0, .int .i64 0], []⟩ 8 (by kernel_rfl) (by kernel_rfl) (by kernel_rfl) (by kernel_rfl)) ?_
  intro W base args ds gs before hval0 hW hcnd hsz0 _
  have hval : ∀ (j : Nat) t v, Try.f6.params[j]? = some t → args[j]? = some v → Value.okWide Try.prog W .any base t v := hval0
  have hsz : (DataW.weightsEach Try.prog (Try.f6.params.toList ++ Rows.chainTTLSpec.plain.varTypes Try.prog) (ds ++ gs)).all (· ≤ reachBytes) = true := hsz0
  have hW' := hW
  obtain ⟨p, q, hA0, hV, rfl, hfz, hnd⟩ := hW
  have hA : DataW.TrodAll enc Try.prog W 0 (fun _ => true) true Try.f6.params.toList args.toList ds p := hA0
  rw [Try.params6] at hA hval hsz
  have hsame : (Rows.chainTTLSpec.fn H (ds ++ gs)).results = [.lit (.bool true)] ∧ (Rows.chainTTLSpec.fn H (ds ++ gs)).args = ds ∧ (Rows.chainTTLSpec.fn H (ds ++ gs)).vars = [] → ∀ W', Below W.heap.size W W' → Rows.chainTTLSpec.post enc Try.prog Try.f6 false true false false W args (.bool true) W' :=
    fun h W' hb => law_post (tb := 4) hW' law_laid (by kernel_rfl) rfl Try.underlying4 h.1 h.2.1 rfl h.2.2 hb
  obtain ⟨v0, vs0, d0, ds0, p0, q0, hargs, rfl, rfl, h0, r0⟩ := trodAll_cons hA
  obtain ⟨v1, vs1, d1, ds1, p1, q1, rfl, rfl, rfl, h1, r1⟩ := trodAll_cons r0
  obtain ⟨v2, vs2, d2, ds2, p2, q2, rfl, rfl, rfl, h2, r2⟩ := trodAll_cons r1
  obtain ⟨rfl, rfl, rfl⟩ := trodAll_nil r2
  obtain rfl : args = #[v0, v1, v2] := by cases args; simp_all
  obtain ⟨rfl, rfl⟩ := trodVars_none hV
  have hpost := hsame ⟨rfl, rfl, rfl⟩
  clear hsame hA0 hval0 hsz0
  obtain ⟨⟨⟨ml, ct, vo, val, gn, tt⟩, A, cc⟩, rfl, hin, _⟩ := open_version (hval 0 28 v0 rfl rfl) h0
  obtain ⟨a1, rfl, rfl, rfl, wf1⟩ := open_int Try.underlying3 (hval 1 3 v1 rfl rfl) h1
  obtain ⟨a2, rfl, rfl, rfl, wf2⟩ := open_int Try.underlying3 (hval 2 3 v2 rfl rfl) h2
  exact (chainTTL_any ml ct vo A val cc gn tt a1 a2 W hin.at_.b hin.at_.n hin.at_.y (int_bd wf2)).mono fun e W' ⟨he, hb⟩ => ⟨_, he, hpost W' hb⟩
theorem chainTTL_holds : Rows.ChainTTLSaid :=
  OpenClaim.holds_of_wide 6 Try.f6 rfl rfl rfl rfl rfl rfl rfl ⟨rfl, rfl, rfl, rfl, rfl⟩ rfl rfl rfl rfl rfl (by kernel_rfl) Try.func6 (by kernel_rfl)
    (of_decide_eq_true (by kernel_rfl)) (by unfold Func.isWrapper; first | (rw [if_pos (by decide +kernel)]; kernel_rfl) | (rw [if_neg (by decide +kernel)]; exact ⟨rfl, rfl⟩))
    (fun os started H enc _ => chainTTL_lifted os started H enc)
end Go.Proofs.Ytfjnjababehmmaa
