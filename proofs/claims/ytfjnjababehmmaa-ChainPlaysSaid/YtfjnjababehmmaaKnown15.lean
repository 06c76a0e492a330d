/- Stage 15: known: two versions. -/
import Derived.Test.YtfjnjababehmmaaChOf
import Derived.Test.YtfjnjababehmmaaChTrim2
import Derived.Test.YtfjnjababehmmaaLSame14
import Derived.Test.YtfjnjababehmmaaChRef
import Derived.Lib.SmallJoins
set_option linter.unusedSimpArgs false
set_option linter.unusedVariables false
namespace Go.Proofs.Ytfjnjababehmmaa
open Go.RowKit Go.Sort Go.Joins

def kV1 : Vs := ⟨5, 0, 0, [97], false, 10⟩
def kV2 : Vs := ⟨7, 0, 0, [98], false, 0⟩
theorem known_of : ofM [] [kV1, kV2] = (0, [kV1, kV2]) := by rfl
theorem map_two {L : List Mv} {a b : Vs} (h : L.map Mv.v = [a, b]) : ∃ x y, L = [x, y] ∧ x.v = a ∧ y.v = b := by
  match L, h with
  | [x, y], h => simp at h; exact ⟨x, y, rfl, h.1, h.2⟩
theorem at_oneF (w : World) (cs : Array Value) (t : TypeId) (fr : Nat × Nat) (o2 o3 : Obj) (k : Nat) : (((w.alloc (.cells cs t fr)).alloc o2).alloc o3).cell? ⟨w.heap.size, k, none⟩ = cs[k]? := by
  rw [World.cell?_alloc_past _ _ _ (by simp; omega), World.cell?_alloc_past _ _ _ (by simp), World.cell?_alloc_mark]
theorem at_twoF (w : World) (o1 : Obj) (cs : Array Value) (t : TypeId) (fr : Nat × Nat) (o3 : Obj) (k : Nat) : (((w.alloc o1).alloc (.cells cs t fr)).alloc o3).cell? ⟨w.heap.size + 1, k, none⟩ = cs[k]? := by
  rw [World.cell?_alloc_past _ _ _ (by simp)]
  have h := World.cell?_alloc_mark (w.alloc o1) cs t fr k
  rw [World.size_alloc] at h
  exact h
set_option maxRecDepth 100000 in
set_option maxHeartbeats 8000000 in
theorem known15 (w : World) : Calls Try.prog 13 #[] w fun e w' => e = .returned (.bool true) ∧ Below w.heap.size w w' := by
  obtain ⟨W0, hW0⟩ : ∃ W0, W0 = ((w.alloc (.cells #[.int .u8 97] 5 (1, 2))).alloc (.cells #[.int .u8 98] 5 (1, 2))).alloc (.cells #[.int .i64 5, .int .i64 0, .int .i64 0, .slice (some ⟨w.heap.size, 0, none⟩) 1 1, .bool false, .int .i64 10, .int .i64 7, .int .i64 0, .int .i64 0, .slice (some ⟨w.heap.size + 1, 0, none⟩) 1 1, .bool false, .int .i64 0] 28) := ⟨_, rfl⟩
  have hB0 : Below w.heap.size w W0 := by rw [hW0]; (repeat' (first | (with_reducible exact Below.refl _ _) | (with_reducible assumption) | (with_reducible refine Below.trans ?_ (Below.mono (by with_reducible assumption) ?_)) | (with_reducible refine Below.alloc ?_ ?_ _) | (with_reducible refine Below.setCell ?_ ?_ _) | (with_reducible refine below_drewN ?_ _) | (with_reducible refine Below.drew ?_) | go_size))
  have hz : W0.heap.size = w.heap.size + 1 + 1 + 1 := by rw [hW0]; simp
  have hrow : RowA W0 (some ⟨w.heap.size + 1 + 1, 0, none⟩) [⟨kV1, some ⟨w.heap.size, 0, none⟩, 1⟩, ⟨kV2, some ⟨w.heap.size + 1, 0, none⟩, 1⟩] := fun _ => by
    refine ⟨_, _, rfl, by omega, fun j u hu => ?_⟩
    rw [Nat.zero_add, hW0]
    have h := World.cell?_alloc_at (w := (w.alloc (.cells #[.int .u8 97] 5 (1, 2))).alloc (.cells #[.int .u8 98] 5 (1, 2))) #[.int .i64 5, .int .i64 0, .int .i64 0, .slice (some ⟨w.heap.size, 0, none⟩) 1 1, .bool false, .int .i64 10, .int .i64 7, .int .i64 0, .int .i64 0, .slice (some ⟨w.heap.size + 1, 0, none⟩) 1 1, .bool false, .int .i64 0] 28 (w.heap.size + 1 + 1) j (by simp)
    rw [h, ← hu]
    simp [rowV, Mv.cs, kV1, kV2]
  have hby : ∀ m ∈ [(⟨kV1, some ⟨w.heap.size, 0, none⟩, 1⟩ : Mv), ⟨kV2, some ⟨w.heap.size + 1, 0, none⟩, 1⟩], m.At (fun _ => True) W0 := fun m hm => by
    simp at hm
    rcases hm with rfl | rfl
    · refine ⟨fun _ => ⟨_, _, rfl, by omega, fun j u hu => ?_⟩, (fun e => by cases e), fun _ _ _ => trivial, fun x hx => by simp [kV1] at hx; omega⟩
      rw [Nat.zero_add, hW0, at_oneF, ← hu]
      simp [bC, kV1]
    · refine ⟨fun _ => ⟨_, _, rfl, by omega, fun j u hu => ?_⟩, (fun e => by cases e), fun _ _ _ => trivial, fun x hx => by simp [kV2] at hx; omega⟩
      rw [Nat.zero_add, hW0, at_twoF, ← hu]
      simp [bC, kV2]
  have HOF := Lib.hid (ch_of (some ⟨w.heap.size + 1 + 1, 0, none⟩) [⟨kV1, some ⟨w.heap.size, 0, none⟩, 1⟩, ⟨kV2, some ⟨w.heap.size + 1, 0, none⟩, 1⟩] 2 W0 hrow (by simp) hby)
  have hcv := run_convert_bytes_const_at (P := Try.prog) w 26 5 #[.int .u8 97] 1 1 w.heap.size rfl Try.underlying26 Try.underlying5
  have hcv2 := run_convert_bytes_const_at (P := Try.prog) (w.alloc (.cells #[.int .u8 97] 5 (1, 2))) 26 5 #[.int .u8 98] 1 1 (w.heap.size + 1) (by simp) Try.underlying26 Try.underlying5
  have HB0 := Lib.hid hB0
  have HW0 := Lib.hid hW0
  clear hrow hby hB0 hz hW0
  go_enter Try.func13, Try.ntmps13
  go_wp2_with fail
  rw [← HW0.out]
  refine HOF.out.mono ?_
  rintro e w1 (⟨h1, _, _⟩ | ⟨_, hri, b, v, L, rfl, hch, hmap, _, hb1⟩)
  · exact absurd rfl h1
  have hmap' : L.map Mv.v = [kV1, kV2] := hmap
  obtain ⟨x1, x2, rfl, hv1, hv2⟩ := map_two hmap'
  have hri' : Rise ([x1, x2].map Mv.v) := by rw [hmap']; exact hri
  have HB1 := Lib.hid (HB0.out.trans (hb1.mono HB0.out.size))
  have z1 := HB1.out.size
  have HCH := Lib.hid (hch.mono (P' := fun i => w.heap.size ≤ i) (fun i _ hi => by have := HB0.out.size; omega))
  have s1 := stand_t hri' (6, 0)
  rw [hmap'] at s1
  have s2 := stand_t hri' (4, 9)
  rw [hmap'] at s2
  have s3 := stand_t hri' (7, 0)
  rw [hmap'] at s3
  have HS3 := Lib.hid s3
  have HG1 := Lib.hid (ch_get_seen _ b v [x1, x2] 6 0 0 x1 w1 hch (by simp) s1 rfl (by rw [hv1]; rfl) (by rw [hv1]; rfl) (by rfl))
  have HG2 := Lib.hid (fun W (hc : Ch (fun i => w.heap.size ≤ i) W b v [x1, x2]) => ch_get_none _ b v [x1, x2] 4 9 W hc (by simp) s2)
  have hT : ∀ W, Ch (fun i => w.heap.size ≤ i) W b v [x1, x2] → Calls Try.prog 26 #[.pointer (some ⟨b, 0, none⟩), .agg #[.int .i64 7, .int .i64 0]] W fun e w' => e = .returned (.int .i64 1) ∧ TrimPost (fun i => w.heap.size ≤ i) b v [x1, x2] 1 W w' := fun W hc => (ch_trim _ b v [x1, x2] 7 0 1 x2 true W hc (by simp) HS3.out rfl (by rw [hv2]; rfl) (by rfl) (by rw [hv2]; rfl)).mono (fun e w' h => h)
  have HT := Lib.hid hT
  clear hT
  have HV1 := Lib.hid hv1
  have HV2 := Lib.hid hv2
  clear hch hmap hmap' hv1 hv2 hri hri' s1 s2 s3 hb1 HOF HW0 HS3
  go_wp2_with fail
  refine HG1.out.mono ?_
  rintro e w2 ⟨v2, rfl, ho2, hb2⟩
  have HC2 := Lib.hid (HCH.out.below hb2)
  have HB2 := Lib.hid (HB1.out.trans (hb2.mono HB1.out.size))
  have HO2 := Lib.hid ho2
  clear ho2 hb2
  go_wp2_with fail
  refine (HG2.out _ HC2.out).mono ?_
  rintro e w3 ⟨rfl, hb3⟩
  have HC3 := Lib.hid (HC2.out.below hb3)
  have HB3 := Lib.hid (HB2.out.trans (hb3.mono HB2.out.size))
  have HO3 := Lib.hid (row_below HO2.out hb3)
  clear hb3
  go_wp2_with fail
  refine (HT.out _ HC3.out).mono ?_
  rintro e w4 ⟨rfl, v4, hc4, hb4⟩
  have hc5 : Ch (fun i => w.heap.size ≤ i) w4 b v4 [x2] := hc4
  have z3 := HB3.out.size
  have hfoot : ∀ i, FootC b v i → w.heap.size ≤ i ∧ i < w1.heap.size := fun i hi => by
    rcases hi with rfl | hi
    · exact ⟨HCH.out.pb, HCH.out.lt⟩
    · exact ⟨HCH.out.pv i hi, (World.ownsRow.lt HCH.out.row i hi).2⟩
  have HB4 := Lib.hid (HB3.out.trans (hb4.below (fun i hi => (hfoot i hi).1) HB3.out.size))
  have ho4 := hb4.row HO3.out (fun i hi hf => by have := (World.ownsRow.lt HO3.out i hi).1; have := (hfoot i hf).2; omega)
  have hv1 := HV1.out
  rw [hv1] at ho4
  obtain ⟨A5, c5, rfl, _, hby5, _, _⟩ := own8_shape ho4
  have hal : Below w4.heap.size w4 (w4.alloc (.cells #[.int .u8 97] 5 (1, 2))) := (Below.refl _ _).alloc (Nat.le_refl _) _
  have hkb : ByL (w4.alloc (.cells #[.int .u8 97] 5 (1, 2))) (some ⟨w4.heap.size, 0, none⟩) [97] := fun _ => ⟨_, _, rfl, by simp, fun j u hu => by
    rw [Nat.zero_add, World.cell?_alloc_mark, ← hu]
    simp [bC]⟩
  have HSM := Lib.hid (lsame A5 [97] c5 (some ⟨w4.heap.size, 0, none⟩) [97] 1 _ (by simp) (by simp) (hby5.below hal) hkb)
  have HC5 := Lib.hid (hc5.below hal)
  have HB5 := Lib.hid (HB4.out.trans (hal.mono HB4.out.size))
  have hcv3 := run_convert_bytes_const_at (P := Try.prog) w4 26 5 #[.int .u8 97] 1 1 w4.heap.size rfl Try.underlying26 Try.underlying5
  have HV22 : Hid (∀ x ∈ [x2], x.v.val.length ≤ 100000) := Lib.hid (fun x hx => by
    simp at hx
    subst hx
    rw [HV2.out]
    simp [kV2])
  clear hc4 hc5 hb4 ho4 hv1 hby5 hal hkb HC3 HB3 HO3 HO2 HC2 HB2 HT HG2 HG1 HCH hcv hcv2 hfoot
  show _
  go_wp2_with fail
  refine HSM.out.mono ?_
  rintro e w5 ⟨rfl, q, rfl⟩
  have HA := Lib.hid (ch_all _ b v4 [x2] ((w4.alloc (.cells #[.int .u8 97] 5 (1, 2))).drewN q) (HC5.out.below (drewN_below _ q)) (by simp) HV22.out)
  have HB6 := Lib.hid (HB5.out.trans ((drewN_below _ q).mono HB5.out.size))
  clear HSM HC5 HB5 hcv3
  go_wp2_with fail
  refine HA.out.mono ?_
  rintro e w6 ⟨v6, L6, rfl, hcp, hm6, hb6⟩
  have HB7 := Lib.hid (HB6.out.trans (hb6.mono HB6.out.size))
  obtain ⟨A6, c6, rfl⟩ := row_shapeV hcp.row
  have hl6 : L6.length = 1 := by have := congrArg List.length hm6; simpa using this
  rw [hl6]
  clear hcp hm6 hb6 HA HB6 hl6
  go_wp2
  go_ret
  exact ⟨by simp, HB7.out⟩
end Go.Proofs.Ytfjnjababehmmaa
