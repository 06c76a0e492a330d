/- stream, the reference: NewIn, Own, Done (written by gen/strh.py). -/
import Derived.Test.YtdffldlcbihjmaaDoorFrEnc
import Derived.Test.YtdffldlcbihjmaaDoorG17c
import Derived.Test.YtdffldlcbihjmaaDoorG18a
import Derived.Test.YtdffldlcbihjmaaDoorLSame18
import Derived.Test.YtdffldlcbihjmaaDoorRecordsR
import Derived.Test.YtdffldlcbihjmaaDoorRefList
import Derived.Test.YtdffldlcbihjmaaDoorWdIs2
/- wire.Encode (written by gen/wdenc.py). -/
set_option linter.unusedSimpArgs false
set_option linter.unusedVariables false
namespace Go.Proofs.YtdffldlcbihjmaaDoor
open Go.RowKit Go.Sort

theorem Row8.base {base b2 : Nat} {w : World} {g cap m : Nat} {l : List Int} (h : Row8 base w g cap m l) (hb : b2 ≤ base) : Row8 b2 w g cap m l := ⟨own_base hb h.own, h.len⟩
/-- A word in the block behind w, and a writer. -/
structure St8 (w W : World) (wb : Nat) (v : Value) (l : List Int) (k o s m1 c1 m2 c2 : Int) (vr : Value) : Prop where
  wr : Wr W wb v l
  x : Wd8 W w.heap.size k o s m1 c1 m2 c2 vr
  bel : Below w.heap.size w W
  ge : ∀ i, Foot wb v i → w.heap.size < i
theorem St8.below {w W W' : World} {wb : Nat} {v : Value} {l : List Int} {k o s m1 c1 m2 c2 : Int} {vr : Value} (h : St8 w W wb v l k o s m1 c1 m2 c2 vr) (q : Below W.heap.size W W') : St8 w W' wb v l k o s m1 c1 m2 c2 vr :=
  ⟨h.wr.below q, h.x.below q, h.bel.trans (q.mono h.bel.size), h.ge⟩
theorem St8.step {w W W' : World} {wb : Nat} {v v' : Value} {l l' : List Int} {k o s m1 c1 m2 c2 : Int} {vr : Value} (h : St8 w W wb v l k o s m1 c1 m2 c2 vr) (q : WrPost wb v l' W W' v') : St8 w W' wb v' l' k o s m1 c1 m2 c2 vr := by
  refine ⟨q.wr, h.x.but q.but (fun hf => absurd (h.ge _ hf) (Nat.lt_irrefl _)), h.bel.trans (q.but.below (fun i hi => Nat.le_of_lt (h.ge i hi)) h.bel.size), fun i hi => ?_⟩
  rcases hi with rfl | hi
  · exact h.ge _ (.inl rfl)
  · rcases q.fresh i hi with r | r
    · exact h.ge i (.inr r)
    · exact Nat.lt_of_lt_of_le h.x.lt r
theorem encW_nums (k o s m1 c1 m2 c2 : Int) (L : List Mr) : encW (wdOf k o s m1 c1 m2 c2 L) = numsE [k, o, s] ++ (if k = 1 then lsV (L.map Mr.r) else if k = 3 then numsE [m1, c1, m2, c2] else []) := rfl
set_option maxRecDepth 100000 in
set_option maxHeartbeats 4000000 in
theorem wd_enc_no (k o s m1 c1 m2 c2 : Int) (A : Option Addr) (c : Nat) (L : List Mr) (w : World) (hrow : RowAt w (.slice A L.length c) L) (hkb : ∀ m ∈ L, isBy m.r.key) (hl : L.length ≤ 100000) (h : okW (wdOf k o s m1 c1 m2 c2 L) = false) :
    Calls Tryd.prog 13 #[wdV k o s m1 c1 m2 c2 (.slice A L.length c)] w fun e w' => e = .returned (.tuple #[.slice none 0 0, .int .i64 1]) ∧ Below w.heap.size w w' := by
  have hb0 : Below w.heap.size w (w.alloc (.cells (wdC k o s m1 c1 m2 c2 (.slice A L.length c)) 26)) := by (repeat' (first | (with_reducible exact Below.refl _ _) | (with_reducible assumption) | (with_reducible refine Below.trans ?_ (Below.mono (by with_reducible assumption) ?_)) | (with_reducible refine Below.alloc ?_ ?_ _) | (with_reducible refine Below.setCell ?_ ?_ _) | (with_reducible refine below_drewN ?_ _) | (with_reducible refine Below.drew ?_) | go_size))
  have HI := Lib.hid (wd_is k o s m1 c1 m2 c2 A c L _ (hrow.below hb0) hkb hl)
  rw [h] at HI
  have HB0 := Lib.hid hb0
  clear h hrow hkb hl hb0
  go_enter Tryd.func13, Tryd.ntmps13
  go_wp2_with fail
  refine HI.out.mono ?_; rintro e w1 ⟨rfl, k1⟩
  have HB1 := Lib.hid (HB0.out.trans (k1.mono HB0.out.size))
  clear k1 HI
  go_wp2
  go_ret2
  exact ⟨rfl, HB1.out⟩
/-- A word's bytes, as they are told. -/
def EncRes (W : Wd) (w w' : World) (e : Ending) : Prop := ∃ g2 cap2, e = .returned (.tuple #[.slice (some ⟨g2, 0, none⟩) (12 + (encW W).length) cap2, .int .i64 0]) ∧ Row8 w.heap.size w' g2 cap2 (12 + (encW W).length) (frE (encW W))
set_option maxRecDepth 100000 in
set_option maxHeartbeats 4000000 in
theorem wd_enc_2 (o s m1 c1 m2 c2 : Int) (A : Option Addr) (c : Nat) (L : List Mr) (w : World) (ht : Nib w) (hrow : RowAt w (.slice A L.length c) L) (hat : ∀ m ∈ L, m.At (fun _ => True) w) (hkb : ∀ m ∈ L, isBy m.r.key ∧ isBy m.r.val) (hl : L.length ≤ 100000) (h : okW (wdOf 2 o s m1 c1 m2 c2 L) = true) :
    Calls Tryd.prog 13 #[wdV 2 o s m1 c1 m2 c2 (.slice A L.length c)] w fun e w' => EncRes (wdOf 2 o s m1 c1 m2 c2 L) w w' e ∧ Below w.heap.size w w' := by
  have hb0 : Below w.heap.size w (w.alloc (.cells (wdC 2 o s m1 c1 m2 c2 (.slice A L.length c)) 26)) := by (repeat' (first | (with_reducible exact Below.refl _ _) | (with_reducible assumption) | (with_reducible refine Below.trans ?_ (Below.mono (by with_reducible assumption) ?_)) | (with_reducible refine Below.alloc ?_ ?_ _) | (with_reducible refine Below.setCell ?_ ?_ _) | (with_reducible refine below_drewN ?_ _) | (with_reducible refine Below.drew ?_) | go_size))
  have HI := Lib.hid (wd_is 2 o s m1 c1 m2 c2 A c L _ (hrow.below hb0) (fun m hm => (hkb m hm).1) hl)
  rw [h] at HI
  have X0 := Lib.hid (Wd8.new w 26 2 o s m1 c1 m2 c2 (.slice A L.length c))
  have HB0 := Lib.hid hb0
  have HBD := Lib.hid (encW_bd h)
  have HBY : Hid (isBy (encW (wdOf 2 o s m1 c1 m2 c2 L))) := Lib.hid (encW_by (fun r hr => by
    obtain ⟨m, hm, rfl⟩ := List.mem_map.1 hr
    exact hkb m hm))
  have HT := Lib.hid (fun (W : World) (q : Below w.heap.size w W) => ht.below q)
  have hh := headW_bd (okW_kind h).1
  have HZ : Hid (∀ x ∈ [(2 : Int), o, s], 0 ≤ x ∧ x ≤ 4611686018427387904) := Lib.hid (by
    have q : 0 ≤ o ∧ o < 5 ∧ 0 ≤ s ∧ s ≤ 1099511627776 := hh
    intro x hx
    simp at hx
    rcases hx with rfl | rfl | rfl <;> omega)
  have HZL := Lib.hid (numsE_len _ HZ.out)
  clear ht h hb0 hrow hat hkb hl hh
  go_enter Tryd.func13, Tryd.ntmps13
  go_wp2_with fail
  refine HI.out.mono ?_; rintro e w1 ⟨rfl, k1⟩
  have hb1 := HB0.out.trans (k1.mono HB0.out.size)
  have x1 := X0.out.below k1
  have S0 : St8 w (w1.alloc (.cells #[.slice none 0 0] 96)) w1.heap.size (.slice none 0 0) [] 2 o s m1 c1 m2 c2 (.slice A L.length c) :=
    ⟨Wr.new w1 _, x1.below ((Below.refl _ _).alloc (Nat.le_refl _) _), hb1.alloc hb1.size _, fun i hi => by
      rcases hi with rfl | hi
      · exact x1.lt
      · simp [Value.ownBlock] at hi⟩
  have S1 := S0.below ((Below.refl _ _).alloc (Nat.le_refl _) (.cells #[.int .i64 2, .int .i64 o, .int .i64 s] 3))
  obtain ⟨y0, y1, y2, y3, y4, y5, y6, y7, ylt⟩ := x1
  have HC := Lib.hid (wr_nums w1.heap.size (w1.heap.size + 1) 3 (.slice none 0 0) [] [2, o, s] _ S1.wr (by rintro (hk | hk) <;> first | omega | simp [Value.ownBlock] at hk) (by simp) (by intro j q; rcases (show j = 0 ∨ j = 1 ∨ j = 2 from by simp at q; omega) with rfl | rfl | rfl <;> simp) HZ.out (by simp) (by have := HZL.out; simp only [List.nil_append]; simp at this; omega))
  have HS1 := Lib.hid S1
  clear S0 S1 k1 hb1 HI X0 HB0
  go_wp2_with fail
  refine HC.out.mono ?_; rintro e w2 ⟨rfl, v2, hw2⟩
  have hs2 := HS1.out.step hw2
  rw [List.nil_append] at hs2
  have HS2 := Lib.hid hs2
  clear hw2 HC HS1 y0 y1 y2 y3 y4 y5 y6 y7 ylt
  obtain ⟨y0, y1, y2, y3, y4, y5, y6, y7, ylt⟩ := hs2.x
  have hwl := hs2.wr.lt
  clear hs2
  have HEW : Hid (numsE [(2 : Int), o, s] = encW (wdOf 2 o s m1 c1 m2 c2 L)) := Lib.hid (by rw [encW_nums, if_neg (by decide), if_neg (by decide), List.append_nil])
  have hS := HS2.out
  rw [HEW.out] at hS
  have HSE := Lib.hid hS
  have HO := Lib.hid (wr_out w1.heap.size v2 _ _ hS.wr (by have := HBD.out; omega))
  clear hS
  go_wp2_with fail
  refine HO.out.mono ?_; rintro e w5 ⟨⟨g, cap, rfl, hown⟩, k5⟩
  have s5 := HSE.out.below k5
  have kA : Below w5.heap.size w5 (w5.alloc (.cells #[.slice (some ⟨g, 0, none⟩) (encW (wdOf 2 o s m1 c1 m2 c2 L)).length cap] 28)) := (Below.refl _ _).alloc (Nat.le_refl _) _
  have HBA := Lib.hid (s5.bel.trans (kA.mono s5.bel.size))
  obtain ⟨A5, c5, e5, hy5, _⟩ := Own8.bytes hown
  obtain ⟨rfl, rfl⟩ : some (⟨g, 0, none⟩ : Addr) = A5 ∧ cap = c5 := by injection e5 with q1 q2 q3; exact ⟨q1, q3⟩
  have HFE := Lib.hid (fr_encode w5.heap.size 1 cap (some ⟨g, 0, none⟩) (encW (wdOf 2 o s m1 c1 m2 c2 L)) _ (HT.out _ HBA.out) (by simp) (by simp) (hy5.below kA) HBY.out HBD.out.1 (by have := HBD.out; omega))
  have hw5 : w.heap.size ≤ w5.heap.size := s5.bel.size
  clear hown k5 s5 kA hy5 HO HSE
  go_wp2_with fail
  refine HFE.out.mono ?_; rintro e w6 ⟨⟨g6, cap6, rfl, hr6⟩, k6⟩
  have HB6 := Lib.hid (HBA.out.trans (k6.mono HBA.out.size))
  have HR6 := Lib.hid (hr6.base (b2 := w.heap.size) (by simp; omega))
  clear hr6 k6 HFE
  go_wp2
  go_ret2
  exact ⟨⟨g6, cap6, rfl, HR6.out⟩, HB6.out⟩
set_option maxRecDepth 100000 in
set_option maxHeartbeats 4000000 in
theorem wd_enc_3 (o s m1 c1 m2 c2 : Int) (A : Option Addr) (c : Nat) (L : List Mr) (w : World) (ht : Nib w) (hrow : RowAt w (.slice A L.length c) L) (hat : ∀ m ∈ L, m.At (fun _ => True) w) (hkb : ∀ m ∈ L, isBy m.r.key ∧ isBy m.r.val) (hl : L.length ≤ 100000) (h : okW (wdOf 3 o s m1 c1 m2 c2 L) = true) :
    Calls Tryd.prog 13 #[wdV 3 o s m1 c1 m2 c2 (.slice A L.length c)] w fun e w' => EncRes (wdOf 3 o s m1 c1 m2 c2 L) w w' e ∧ Below w.heap.size w w' := by
  have hb0 : Below w.heap.size w (w.alloc (.cells (wdC 3 o s m1 c1 m2 c2 (.slice A L.length c)) 26)) := by (repeat' (first | (with_reducible exact Below.refl _ _) | (with_reducible assumption) | (with_reducible refine Below.trans ?_ (Below.mono (by with_reducible assumption) ?_)) | (with_reducible refine Below.alloc ?_ ?_ _) | (with_reducible refine Below.setCell ?_ ?_ _) | (with_reducible refine below_drewN ?_ _) | (with_reducible refine Below.drew ?_) | go_size))
  have HI := Lib.hid (wd_is 3 o s m1 c1 m2 c2 A c L _ (hrow.below hb0) (fun m hm => (hkb m hm).1) hl)
  rw [h] at HI
  have X0 := Lib.hid (Wd8.new w 26 3 o s m1 c1 m2 c2 (.slice A L.length c))
  have HB0 := Lib.hid hb0
  have HBD := Lib.hid (encW_bd h)
  have HBY : Hid (isBy (encW (wdOf 3 o s m1 c1 m2 c2 L))) := Lib.hid (encW_by (fun r hr => by
    obtain ⟨m, hm, rfl⟩ := List.mem_map.1 hr
    exact hkb m hm))
  have HT := Lib.hid (fun (W : World) (q : Below w.heap.size w W) => ht.below q)
  have hh := headW_bd (okW_kind h).1
  have HZ : Hid (∀ x ∈ [(3 : Int), o, s], 0 ≤ x ∧ x ≤ 4611686018427387904) := Lib.hid (by
    have q : 0 ≤ o ∧ o < 5 ∧ 0 ≤ s ∧ s ≤ 1099511627776 := hh
    intro x hx
    simp at hx
    rcases hx with rfl | rfl | rfl <;> omega)
  have HZL := Lib.hid (numsE_len _ HZ.out)
  have HZ4 : Hid (∀ x ∈ [m1, c1, m2, c2], 0 ≤ x ∧ x ≤ 4611686018427387904) := Lib.hid (by
    rcases (okW_kind h).2 with ⟨q, _⟩ | ⟨q, _⟩ | ⟨_, q1, q2, _⟩
    · exact absurd q (by simp [wdOf])
    · exact absurd q (by simp [wdOf])
    · have b1 : 0 ≤ m1 ∧ m1 ≤ 281474976710655 ∧ 0 ≤ c1 ∧ c1 ≤ 65535 := stamp_bdW q1
      have b2 : 0 ≤ m2 ∧ m2 ≤ 281474976710655 ∧ 0 ≤ c2 ∧ c2 ≤ 65535 := stamp_bdW q2
      intro x hx
      simp at hx
      rcases hx with rfl | rfl | rfl | rfl <;> omega)
  have HZ4L := Lib.hid (numsE_len _ HZ4.out)
  clear ht h hb0 hrow hat hkb hl hh
  go_enter Tryd.func13, Tryd.ntmps13
  go_wp2_with fail
  refine HI.out.mono ?_; rintro e w1 ⟨rfl, k1⟩
  have hb1 := HB0.out.trans (k1.mono HB0.out.size)
  have x1 := X0.out.below k1
  have S0 : St8 w (w1.alloc (.cells #[.slice none 0 0] 96)) w1.heap.size (.slice none 0 0) [] 3 o s m1 c1 m2 c2 (.slice A L.length c) :=
    ⟨Wr.new w1 _, x1.below ((Below.refl _ _).alloc (Nat.le_refl _) _), hb1.alloc hb1.size _, fun i hi => by
      rcases hi with rfl | hi
      · exact x1.lt
      · simp [Value.ownBlock] at hi⟩
  have S1 := S0.below ((Below.refl _ _).alloc (Nat.le_refl _) (.cells #[.int .i64 3, .int .i64 o, .int .i64 s] 3))
  obtain ⟨y0, y1, y2, y3, y4, y5, y6, y7, ylt⟩ := x1
  have HC := Lib.hid (wr_nums w1.heap.size (w1.heap.size + 1) 3 (.slice none 0 0) [] [3, o, s] _ S1.wr (by rintro (hk | hk) <;> first | omega | simp [Value.ownBlock] at hk) (by simp) (by intro j q; rcases (show j = 0 ∨ j = 1 ∨ j = 2 from by simp at q; omega) with rfl | rfl | rfl <;> simp) HZ.out (by simp) (by have := HZL.out; simp only [List.nil_append]; simp at this; omega))
  have HS1 := Lib.hid S1
  clear S0 S1 k1 hb1 HI X0 HB0
  go_wp2_with fail
  refine HC.out.mono ?_; rintro e w2 ⟨rfl, v2, hw2⟩
  have hs2 := HS1.out.step hw2
  rw [List.nil_append] at hs2
  have HS2 := Lib.hid hs2
  clear hw2 HC HS1 y0 y1 y2 y3 y4 y5 y6 y7 ylt
  obtain ⟨y0, y1, y2, y3, y4, y5, y6, y7, ylt⟩ := hs2.x
  have hwl := hs2.wr.lt
  clear hs2
  have S3 := HS2.out.below ((Below.refl _ _).alloc (Nat.le_refl _) (.cells #[.int .i64 m1, .int .i64 c1, .int .i64 m2, .int .i64 c2] 3))
  have HC4 := Lib.hid (wr_nums w1.heap.size w2.heap.size 4 v2 _ [m1, c1, m2, c2] _ S3.wr (fun hf => by have := HS2.out.wr.foot_lt _ hf; omega) (by simp) (by intro j q; rcases (show j = 0 ∨ j = 1 ∨ j = 2 ∨ j = 3 from by simp at q; omega) with rfl | rfl | rfl | rfl <;> simp) HZ4.out (by simp) (by have h1 := HZL.out; have h2 := HZ4L.out; simp only [List.length_append]; simp at h1 h2; omega))
  have HS3 := Lib.hid S3
  clear S3
  go_wp2_with fail
  refine HC4.out.mono ?_; rintro e w4 ⟨rfl, v4, hw4⟩
  have HS4 := Lib.hid (HS3.out.step hw4)
  clear hw4 HC4 HS3 HS2
  have HEW : Hid (numsE [(3 : Int), o, s] ++ numsE [m1, c1, m2, c2] = encW (wdOf 3 o s m1 c1 m2 c2 L)) := Lib.hid (by rw [encW_nums, if_neg (by decide), if_pos rfl])
  have hS := HS4.out
  rw [HEW.out] at hS
  have HSE := Lib.hid hS
  have HO := Lib.hid (wr_out w1.heap.size v4 _ _ hS.wr (by have := HBD.out; omega))
  clear hS
  go_wp2_with fail
  refine HO.out.mono ?_; rintro e w5 ⟨⟨g, cap, rfl, hown⟩, k5⟩
  have s5 := HSE.out.below k5
  have kA : Below w5.heap.size w5 (w5.alloc (.cells #[.slice (some ⟨g, 0, none⟩) (encW (wdOf 3 o s m1 c1 m2 c2 L)).length cap] 28)) := (Below.refl _ _).alloc (Nat.le_refl _) _
  have HBA := Lib.hid (s5.bel.trans (kA.mono s5.bel.size))
  obtain ⟨A5, c5, e5, hy5, _⟩ := Own8.bytes hown
  obtain ⟨rfl, rfl⟩ : some (⟨g, 0, none⟩ : Addr) = A5 ∧ cap = c5 := by injection e5 with q1 q2 q3; exact ⟨q1, q3⟩
  have HFE := Lib.hid (fr_encode w5.heap.size 1 cap (some ⟨g, 0, none⟩) (encW (wdOf 3 o s m1 c1 m2 c2 L)) _ (HT.out _ HBA.out) (by simp) (by simp) (hy5.below kA) HBY.out HBD.out.1 (by have := HBD.out; omega))
  have hw5 : w.heap.size ≤ w5.heap.size := s5.bel.size
  clear hown k5 s5 kA hy5 HO HSE
  go_wp2_with fail
  refine HFE.out.mono ?_; rintro e w6 ⟨⟨g6, cap6, rfl, hr6⟩, k6⟩
  have HB6 := Lib.hid (HBA.out.trans (k6.mono HBA.out.size))
  have HR6 := Lib.hid (hr6.base (b2 := w.heap.size) (by simp; omega))
  clear hr6 k6 HFE
  go_wp2
  go_ret2
  exact ⟨⟨g6, cap6, rfl, HR6.out⟩, HB6.out⟩
set_option maxRecDepth 100000 in
set_option maxHeartbeats 4000000 in
theorem wd_enc_1 (o s m1 c1 m2 c2 : Int) (A : Option Addr) (c : Nat) (L : List Mr) (w : World) (ht : Nib w) (hrow : RowAt w (.slice A L.length c) L) (hat : ∀ m ∈ L, m.At (fun _ => True) w) (hkb : ∀ m ∈ L, isBy m.r.key ∧ isBy m.r.val) (hl : L.length ≤ 100000) (h : okW (wdOf 1 o s m1 c1 m2 c2 L) = true) :
    Calls Tryd.prog 13 #[wdV 1 o s m1 c1 m2 c2 (.slice A L.length c)] w fun e w' => EncRes (wdOf 1 o s m1 c1 m2 c2 L) w w' e ∧ Below w.heap.size w w' := by
  have hb0 : Below w.heap.size w (w.alloc (.cells (wdC 1 o s m1 c1 m2 c2 (.slice A L.length c)) 26)) := by (repeat' (first | (with_reducible exact Below.refl _ _) | (with_reducible assumption) | (with_reducible refine Below.trans ?_ (Below.mono (by with_reducible assumption) ?_)) | (with_reducible refine Below.alloc ?_ ?_ _) | (with_reducible refine Below.setCell ?_ ?_ _) | (with_reducible refine below_drewN ?_ _) | (with_reducible refine Below.drew ?_) | go_size))
  have HI := Lib.hid (wd_is 1 o s m1 c1 m2 c2 A c L _ (hrow.below hb0) (fun m hm => (hkb m hm).1) hl)
  rw [h] at HI
  have X0 := Lib.hid (Wd8.new w 26 1 o s m1 c1 m2 c2 (.slice A L.length c))
  have HB0 := Lib.hid hb0
  have HBD := Lib.hid (encW_bd h)
  have HBY : Hid (isBy (encW (wdOf 1 o s m1 c1 m2 c2 L))) := Lib.hid (encW_by (fun r hr => by
    obtain ⟨m, hm, rfl⟩ := List.mem_map.1 hr
    exact hkb m hm))
  have HT := Lib.hid (fun (W : World) (q : Below w.heap.size w W) => ht.below q)
  have hh := headW_bd (okW_kind h).1
  have HZ : Hid (∀ x ∈ [(1 : Int), o, s], 0 ≤ x ∧ x ≤ 4611686018427387904) := Lib.hid (by
    have q : 0 ≤ o ∧ o < 5 ∧ 0 ≤ s ∧ s ≤ 1099511627776 := hh
    intro x hx
    simp at hx
    rcases hx with rfl | rfl | rfl <;> omega)
  have HZL := Lib.hid (numsE_len _ HZ.out)
  have HLST : Hid (∀ W, Below w.heap.size w W → Calls Tryd.prog 49 #[.slice A L.length c] W fun e w' => LsRes (L.map Mr.r) w' e ∧ Below W.heap.size W w') := Lib.hid (fun W q => rec_list _ L W (hrow.below q) (fun m hm => (hat m hm).below q) (fun m hm => (hkb m hm).1) hl)
  have HLC : Hid (lsC (L.map Mr.r) = 0) := Lib.hid (by
    rcases (okW_kind h).2 with ⟨_, _, q, _, q64⟩ | ⟨q, _⟩ | ⟨q, _⟩
    · exact lsC_ok q64 (rowB_ok _ _ _ q)
    · exact absurd q (by simp [wdOf])
    · exact absurd q (by simp [wdOf]))
  clear ht h hb0 hrow hat hkb hl hh
  go_enter Tryd.func13, Tryd.ntmps13
  go_wp2_with fail
  refine HI.out.mono ?_; rintro e w1 ⟨rfl, k1⟩
  have hb1 := HB0.out.trans (k1.mono HB0.out.size)
  have x1 := X0.out.below k1
  have S0 : St8 w (w1.alloc (.cells #[.slice none 0 0] 96)) w1.heap.size (.slice none 0 0) [] 1 o s m1 c1 m2 c2 (.slice A L.length c) :=
    ⟨Wr.new w1 _, x1.below ((Below.refl _ _).alloc (Nat.le_refl _) _), hb1.alloc hb1.size _, fun i hi => by
      rcases hi with rfl | hi
      · exact x1.lt
      · simp [Value.ownBlock] at hi⟩
  have S1 := S0.below ((Below.refl _ _).alloc (Nat.le_refl _) (.cells #[.int .i64 1, .int .i64 o, .int .i64 s] 3))
  obtain ⟨y0, y1, y2, y3, y4, y5, y6, y7, ylt⟩ := x1
  have HC := Lib.hid (wr_nums w1.heap.size (w1.heap.size + 1) 3 (.slice none 0 0) [] [1, o, s] _ S1.wr (by rintro (hk | hk) <;> first | omega | simp [Value.ownBlock] at hk) (by simp) (by intro j q; rcases (show j = 0 ∨ j = 1 ∨ j = 2 from by simp at q; omega) with rfl | rfl | rfl <;> simp) HZ.out (by simp) (by have := HZL.out; simp only [List.nil_append]; simp at this; omega))
  have HS1 := Lib.hid S1
  clear S0 S1 k1 hb1 HI X0 HB0
  go_wp2_with fail
  refine HC.out.mono ?_; rintro e w2 ⟨rfl, v2, hw2⟩
  have hs2 := HS1.out.step hw2
  rw [List.nil_append] at hs2
  have HS2 := Lib.hid hs2
  clear hw2 HC HS1 y0 y1 y2 y3 y4 y5 y6 y7 ylt
  obtain ⟨y0, y1, y2, y3, y4, y5, y6, y7, ylt⟩ := hs2.x
  have hwl := hs2.wr.lt
  clear hs2
  go_wp2_with fail
  refine (HLST.out _ HS2.out.bel).mono ?_; rintro e w3 ⟨⟨Al, cl, rfl, hyl, hnl, _, _⟩, k3⟩
  have hs3 := HS2.out.below k3
  have hll := lsV_len (L.map Mr.r)
  have HRW := Lib.hid (wr_raw w1.heap.size cl Al v2 _ (lsV (L.map Mr.r)) w3 hs3.wr (by rw [numsE_cons, List.length_append]; have := encN_len0 (1 : Int).toNat; omega) hyl (fun q => (hnl q).1) (by have := HZL.out; simp only [List.length_append]; simp at this; omega))
  rw [HLC.out]
  have HS3 := Lib.hid hs3
  clear hs3 k3 hyl hnl HLST HS2
  go_wp2_with fail
  refine HRW.out.mono ?_; rintro e w4 ⟨rfl, v4, hw4⟩
  have HS4 := Lib.hid (HS3.out.step hw4)
  clear hw4 HRW HS3
  have HEW : Hid (numsE [(1 : Int), o, s] ++ lsV (L.map Mr.r) = encW (wdOf 1 o s m1 c1 m2 c2 L)) := Lib.hid (by rw [encW_nums, if_pos rfl])
  have hS := HS4.out
  rw [HEW.out] at hS
  have HSE := Lib.hid hS
  have HO := Lib.hid (wr_out w1.heap.size v4 _ _ hS.wr (by have := HBD.out; omega))
  clear hS
  go_wp2_with fail
  refine HO.out.mono ?_; rintro e w5 ⟨⟨g, cap, rfl, hown⟩, k5⟩
  have s5 := HSE.out.below k5
  have kA : Below w5.heap.size w5 (w5.alloc (.cells #[.slice (some ⟨g, 0, none⟩) (encW (wdOf 1 o s m1 c1 m2 c2 L)).length cap] 28)) := (Below.refl _ _).alloc (Nat.le_refl _) _
  have HBA := Lib.hid (s5.bel.trans (kA.mono s5.bel.size))
  obtain ⟨A5, c5, e5, hy5, _⟩ := Own8.bytes hown
  obtain ⟨rfl, rfl⟩ : some (⟨g, 0, none⟩ : Addr) = A5 ∧ cap = c5 := by injection e5 with q1 q2 q3; exact ⟨q1, q3⟩
  have HFE := Lib.hid (fr_encode w5.heap.size 1 cap (some ⟨g, 0, none⟩) (encW (wdOf 1 o s m1 c1 m2 c2 L)) _ (HT.out _ HBA.out) (by simp) (by simp) (hy5.below kA) HBY.out HBD.out.1 (by have := HBD.out; omega))
  have hw5 : w.heap.size ≤ w5.heap.size := s5.bel.size
  clear hown k5 s5 kA hy5 HO HSE
  go_wp2_with fail
  refine HFE.out.mono ?_; rintro e w6 ⟨⟨g6, cap6, rfl, hr6⟩, k6⟩
  have HB6 := Lib.hid (HBA.out.trans (k6.mono HBA.out.size))
  have HR6 := Lib.hid (hr6.base (b2 := w.heap.size) (by simp; omega))
  clear hr6 k6 HFE
  go_wp2
  go_ret2
  exact ⟨⟨g6, cap6, rfl, HR6.out⟩, HB6.out⟩
theorem wd_enc (k o s m1 c1 m2 c2 : Int) (A : Option Addr) (c : Nat) (L : List Mr) (w : World) (ht : Nib w) (hrow : RowAt w (.slice A L.length c) L) (hat : ∀ m ∈ L, m.At (fun _ => True) w) (hkb : ∀ m ∈ L, isBy m.r.key ∧ isBy m.r.val) (hl : L.length ≤ 100000) (h : okW (wdOf k o s m1 c1 m2 c2 L) = true) :
    Calls Tryd.prog 13 #[wdV k o s m1 c1 m2 c2 (.slice A L.length c)] w fun e w' => EncRes (wdOf k o s m1 c1 m2 c2 L) w w' e ∧ Below w.heap.size w w' := by
  rcases (okW_kind h).2 with ⟨q, _⟩ | ⟨q, _⟩ | ⟨q, _⟩
  · have q' : k = 1 := q
    subst q'
    exact wd_enc_1 o s m1 c1 m2 c2 A c L w ht hrow hat hkb hl h
  · have q' : k = 2 := q
    subst q'
    exact wd_enc_2 o s m1 c1 m2 c2 A c L w ht hrow hat hkb hl h
  · have q' : k = 3 := q
    subst q'
    exact wd_enc_3 o s m1 c1 m2 c2 A c L w ht hrow hat hkb hl h
end Go.Proofs.YtdffldlcbihjmaaDoor

/- The reference's Encode of a word (written by gen/refwdenc.py). -/
namespace Go.Proofs.YtdffldlcbihjmaaDoor
open Go.RowKit Go.Sort

theorem ref_frame_n (cc n : Nat) (A : Option Addr) (p : List Int) (w : World) (hn : p.length = n) (hp : ByL w A p) (hb : isBy p) (hp0 : 0 < p.length) (hl : p.length ≤ 262144) :
    Calls Tryd.prog 56 #[.slice A n cc] w fun e w' => (∃ g2 cap2, e = .returned (.tuple #[.slice (some ⟨g2, 0, none⟩) (12 + n) cap2, .int .i64 0]) ∧ Row8 w.heap.size w' g2 cap2 (12 + n) (frE p)) ∧ Below w.heap.size w w' := by
  subst hn
  exact ref_frame cc A p w hp hb hp0 hl
theorem enc_res_of {W : Wd} {P : List Int} {n : Nat} {w w' : World} {e : Ending} (h : encW W = P) (hn : P.length = n) (hr : ∃ g2 cap2, e = .returned (.tuple #[.slice (some ⟨g2, 0, none⟩) (12 + n) cap2, .int .i64 0]) ∧ Row8 w.heap.size w' g2 cap2 (12 + n) (frE P)) : EncRes W w w' e := by
  subst hn h
  exact hr
set_option maxRecDepth 100000 in
set_option maxHeartbeats 4000000 in
theorem rwd_enc_no (k o s m1 c1 m2 c2 : Int) (A : Option Addr) (c : Nat) (L : List Mr) (w : World) (hrow : RowAt w (.slice A L.length c) L) (hkb : ∀ m ∈ L, isBy m.r.key) (hl : L.length ≤ 100000) (h : okW (wdOf k o s m1 c1 m2 c2 L) = false) :
    Calls Tryd.prog 14 #[wdV k o s m1 c1 m2 c2 (.slice A L.length c)] w fun e w' => e = .returned (.tuple #[.slice none 0 0, .int .i64 1]) ∧ Below w.heap.size w w' := by
  have hb0 : Below w.heap.size w (w.alloc (.cells (wdC k o s m1 c1 m2 c2 (.slice A L.length c)) 34)) := by (repeat' (first | (with_reducible exact Below.refl _ _) | (with_reducible assumption) | (with_reducible refine Below.trans ?_ (Below.mono (by with_reducible assumption) ?_)) | (with_reducible refine Below.alloc ?_ ?_ _) | (with_reducible refine Below.setCell ?_ ?_ _) | (with_reducible refine below_drewN ?_ _) | (with_reducible refine Below.drew ?_) | go_size))
  have HI := Lib.hid (ref17_is k o s m1 c1 m2 c2 A c L _ (hrow.below hb0) hkb hl)
  rw [h] at HI
  have X0 := Lib.hid (Wd8.new w 34 k o s m1 c1 m2 c2 (.slice A L.length c))
  have HB0 := Lib.hid hb0
  clear h hrow hkb hl hb0
  go_enter Tryd.func14, Tryd.ntmps14
  go_wp2_with fail
  refine HI.out.mono ?_; rintro e w1 ⟨rfl, k1⟩
  have HB1 := Lib.hid (HB0.out.trans (k1.mono HB0.out.size))
  clear k1 HI
  go_wp2
  go_ret2
  exact ⟨rfl, HB1.out⟩
set_option maxRecDepth 100000 in
set_option maxHeartbeats 4000000 in
theorem rwd_enc_2 (o s m1 c1 m2 c2 : Int) (A : Option Addr) (c : Nat) (L : List Mr) (w : World) (hrow : RowAt w (.slice A L.length c) L) (hat : ∀ m ∈ L, m.At (fun _ => True) w) (hkb : ∀ m ∈ L, isBy m.r.key ∧ isBy m.r.val) (hl : L.length ≤ 100000) (h : okW (wdOf 2 o s m1 c1 m2 c2 L) = true) :
    Calls Tryd.prog 14 #[wdV 2 o s m1 c1 m2 c2 (.slice A L.length c)] w fun e w' => EncRes (wdOf 2 o s m1 c1 m2 c2 L) w w' e ∧ Below w.heap.size w w' := by
  obtain ⟨i0, hi0, hz0, hz1, hz2⟩ := info_parts u8_info
  have hb0 : Below w.heap.size w (w.alloc (.cells (wdC 2 o s m1 c1 m2 c2 (.slice A L.length c)) 34)) := by (repeat' (first | (with_reducible exact Below.refl _ _) | (with_reducible assumption) | (with_reducible refine Below.trans ?_ (Below.mono (by with_reducible assumption) ?_)) | (with_reducible refine Below.alloc ?_ ?_ _) | (with_reducible refine Below.setCell ?_ ?_ _) | (with_reducible refine below_drewN ?_ _) | (with_reducible refine Below.drew ?_) | go_size))
  have HI := Lib.hid (ref17_is 2 o s m1 c1 m2 c2 A c L _ (hrow.below hb0) (fun m hm => (hkb m hm).1) hl)
  rw [h] at HI
  have X0 := Lib.hid (Wd8.new w 34 2 o s m1 c1 m2 c2 (.slice A L.length c))
  have HB0 := Lib.hid hb0
  have HBD := Lib.hid (encW_bd h)
  have HBY : Hid (isBy (encW (wdOf 2 o s m1 c1 m2 c2 L))) := Lib.hid (encW_by (fun r hr => by
    obtain ⟨m, hm, rfl⟩ := List.mem_map.1 hr
    exact hkb m hm))
  have hh := headW_bd (okW_kind h).1
  have HZ : Hid (∀ x ∈ [(2 : Int), o, s], 0 ≤ x ∧ x ≤ 4611686018427387904) := Lib.hid (by
    have q : 0 ≤ o ∧ o < 5 ∧ 0 ≤ s ∧ s ≤ 1099511627776 := hh
    intro x hx
    simp at hx
    rcases hx with rfl | rfl | rfl <;> omega)
  have HZL := Lib.hid (numsE_len _ HZ.out)
  have HZ3 : Hid (∀ (g : Nat) (W : World), g < W.heap.size → (∀ (j : Nat) (q : j < [(2 : Int), o, s].length), W.cell? ⟨g, j, none⟩ = some (.int .i64 [(2 : Int), o, s][j])) → Calls Tryd.prog 54 #[.slice (some ⟨g, 0, none⟩) 3 3] W fun e w' => Told8 (numsE [(2 : Int), o, s]) W w' e ∧ Below W.heap.size W w') := Lib.hid (fun g W hg hq => ref_nums g 3 [2, o, s] W hg (by simp) hq HZ.out (by simp) (by have := HZL.out; simp at this; omega))
  obtain ⟨P0, hP0⟩ : ∃ P0, numsE [(2 : Int), o, s] = P0 := ⟨_, rfl⟩
  have HP0 := Lib.hid hP0
  rw [hP0] at HZ3
  clear h hb0 hrow hat hkb hl hh hP0
  go_enter Tryd.func14, Tryd.ntmps14
  go_wp2_with fail
  refine HI.out.mono ?_; rintro e w1 ⟨rfl, k1⟩
  have hb1 := HB0.out.trans (k1.mono HB0.out.size)
  have x1 := X0.out.below k1
  have kA : Below w1.heap.size w1 (w1.alloc (.cells #[.int .i64 2, .int .i64 o, .int .i64 s] 3)) := (Below.refl _ _).alloc (Nat.le_refl _) _
  have HXA := Lib.hid (x1.below kA)
  have HBA := Lib.hid (hb1.trans (kA.mono hb1.size))
  obtain ⟨y0, y1, y2, y3, y4, y5, y6, y7, ylt⟩ := x1
  have HN := Lib.hid (HZ3.out w1.heap.size (w1.alloc (.cells #[.int .i64 2, .int .i64 o, .int .i64 s] 3)) (by simp) (by intro j q; rcases (show j = 0 ∨ j = 1 ∨ j = 2 from by simp at q; omega) with rfl | rfl | rfl <;> simp))
  have hw1 := hb1.size
  clear k1 hb1 kA HI X0 HB0 HZ3
  go_wp2_with fail
  refine HN.out.mono ?_; rintro e w2 ⟨⟨g, cap, rfl, hown⟩, k2⟩
  have HG2 : Hid (G8 w w2 (.slice (some ⟨g, 0, none⟩) P0.length cap) P0) := Lib.hid ⟨own_base (base' := w.heap.size) (by simp; omega) hown, HBA.out.trans (k2.mono HBA.out.size)⟩
  have HX2 := Lib.hid (HXA.out.below k2)
  clear hown k2 HN HXA HBA y0 y1 y2 y3 y4 y5 y6 y7 ylt hw1
  obtain ⟨y0, y1, y2, y3, y4, y5, y6, y7, ylt⟩ := HX2.out
  have HEW : Hid (encW (wdOf 2 o s m1 c1 m2 c2 L) = P0) := Lib.hid (by rw [encW_nums, if_neg (by decide), if_neg (by decide), List.append_nil, HP0.out])
  have HLN : Hid ((P0).length = P0.length) := Lib.hid (by first | rfl | exact List.length_append)
  have HF : Hid (Calls Tryd.prog 56 #[.slice (some ⟨g, 0, none⟩) (P0.length) cap] w2 fun e w' => (∃ g2 cap2, e = .returned (.tuple #[.slice (some ⟨g2, 0, none⟩) (12 + (P0.length)) cap2, .int .i64 0]) ∧ Row8 w2.heap.size w' g2 cap2 (12 + (P0.length)) (frE (P0))) ∧ Below w2.heap.size w2 w') := Lib.hid (by
    have hgr := HG2.out.row
    have hby := HBY.out
    have hbd := HBD.out
    rw [HEW.out] at hby hbd
    obtain ⟨A5, c5, e5, hy5, _⟩ := Own8.bytes hgr
    obtain ⟨rfl, rfl⟩ : some (⟨g, 0, none⟩ : Addr) = A5 ∧ cap = c5 := by injection e5 with q1 q2 q3; exact ⟨q1, q3⟩
    exact ref_frame_n cap _ _ (P0) w2 HLN.out hy5 hby hbd.1 (by omega))
  have HBZ := Lib.hid HG2.out.hb
  clear HG2
  go_wp2_with fail
  refine HF.out.mono ?_; rintro e w6 ⟨⟨g6, cap6, rfl, hr6⟩, k6⟩
  have HB6 := Lib.hid (HBZ.out.trans (k6.mono HBZ.out.size))
  have HR6 := Lib.hid (hr6.base (b2 := w.heap.size) HBZ.out.size)
  clear hr6 k6 HF
  go_wp2
  go_ret2
  exact ⟨enc_res_of HEW.out (by first | exact HLN.out | rfl) ⟨g6, cap6, rfl, HR6.out⟩, HB6.out⟩
set_option maxRecDepth 100000 in
set_option maxHeartbeats 4000000 in
theorem rwd_enc_3 (o s m1 c1 m2 c2 : Int) (A : Option Addr) (c : Nat) (L : List Mr) (w : World) (hrow : RowAt w (.slice A L.length c) L) (hat : ∀ m ∈ L, m.At (fun _ => True) w) (hkb : ∀ m ∈ L, isBy m.r.key ∧ isBy m.r.val) (hl : L.length ≤ 100000) (h : okW (wdOf 3 o s m1 c1 m2 c2 L) = true) :
    Calls Tryd.prog 14 #[wdV 3 o s m1 c1 m2 c2 (.slice A L.length c)] w fun e w' => EncRes (wdOf 3 o s m1 c1 m2 c2 L) w w' e ∧ Below w.heap.size w w' := by
  obtain ⟨i0, hi0, hz0, hz1, hz2⟩ := info_parts u8_info
  have hb0 : Below w.heap.size w (w.alloc (.cells (wdC 3 o s m1 c1 m2 c2 (.slice A L.length c)) 34)) := by (repeat' (first | (with_reducible exact Below.refl _ _) | (with_reducible assumption) | (with_reducible refine Below.trans ?_ (Below.mono (by with_reducible assumption) ?_)) | (with_reducible refine Below.alloc ?_ ?_ _) | (with_reducible refine Below.setCell ?_ ?_ _) | (with_reducible refine below_drewN ?_ _) | (with_reducible refine Below.drew ?_) | go_size))
  have HI := Lib.hid (ref17_is 3 o s m1 c1 m2 c2 A c L _ (hrow.below hb0) (fun m hm => (hkb m hm).1) hl)
  rw [h] at HI
  have X0 := Lib.hid (Wd8.new w 34 3 o s m1 c1 m2 c2 (.slice A L.length c))
  have HB0 := Lib.hid hb0
  have HBD := Lib.hid (encW_bd h)
  have HBY : Hid (isBy (encW (wdOf 3 o s m1 c1 m2 c2 L))) := Lib.hid (encW_by (fun r hr => by
    obtain ⟨m, hm, rfl⟩ := List.mem_map.1 hr
    exact hkb m hm))
  have hh := headW_bd (okW_kind h).1
  have HZ : Hid (∀ x ∈ [(3 : Int), o, s], 0 ≤ x ∧ x ≤ 4611686018427387904) := Lib.hid (by
    have q : 0 ≤ o ∧ o < 5 ∧ 0 ≤ s ∧ s ≤ 1099511627776 := hh
    intro x hx
    simp at hx
    rcases hx with rfl | rfl | rfl <;> omega)
  have HZL := Lib.hid (numsE_len _ HZ.out)
  have HZ3 : Hid (∀ (g : Nat) (W : World), g < W.heap.size → (∀ (j : Nat) (q : j < [(3 : Int), o, s].length), W.cell? ⟨g, j, none⟩ = some (.int .i64 [(3 : Int), o, s][j])) → Calls Tryd.prog 54 #[.slice (some ⟨g, 0, none⟩) 3 3] W fun e w' => Told8 (numsE [(3 : Int), o, s]) W w' e ∧ Below W.heap.size W w') := Lib.hid (fun g W hg hq => ref_nums g 3 [3, o, s] W hg (by simp) hq HZ.out (by simp) (by have := HZL.out; simp at this; omega))
  obtain ⟨P0, hP0⟩ : ∃ P0, numsE [(3 : Int), o, s] = P0 := ⟨_, rfl⟩
  have HP0 := Lib.hid hP0
  have HZ4 : Hid (∀ x ∈ [m1, c1, m2, c2], 0 ≤ x ∧ x ≤ 4611686018427387904) := Lib.hid (by
    rcases (okW_kind h).2 with ⟨q, _⟩ | ⟨q, _⟩ | ⟨_, q1, q2, _⟩
    · exact absurd q (by simp [wdOf])
    · exact absurd q (by simp [wdOf])
    · have b1 : 0 ≤ m1 ∧ m1 ≤ 281474976710655 ∧ 0 ≤ c1 ∧ c1 ≤ 65535 := stamp_bdW q1
      have b2 : 0 ≤ m2 ∧ m2 ≤ 281474976710655 ∧ 0 ≤ c2 ∧ c2 ≤ 65535 := stamp_bdW q2
      intro x hx
      simp at hx
      rcases hx with rfl | rfl | rfl | rfl <;> omega)
  have HZ4L := Lib.hid (numsE_len _ HZ4.out)
  have HN4 : Hid (∀ (g : Nat) (W : World), g < W.heap.size → (∀ (j : Nat) (q : j < [m1, c1, m2, c2].length), W.cell? ⟨g, j, none⟩ = some (.int .i64 [m1, c1, m2, c2][j])) → Calls Tryd.prog 54 #[.slice (some ⟨g, 0, none⟩) 4 4] W fun e w' => Told8 (numsE [m1, c1, m2, c2]) W w' e ∧ Below W.heap.size W w') := Lib.hid (fun g W hg hq => ref_nums g 4 [m1, c1, m2, c2] W hg (by simp) hq HZ4.out (by simp) (by have := HZ4L.out; simp at this; omega))
  obtain ⟨Q, hQ⟩ : ∃ Q, numsE [m1, c1, m2, c2] = Q := ⟨_, rfl⟩
  have HQE := Lib.hid hQ
  have HQ : Hid (0 < Q.length ∧ Q.length ≤ 1000) := Lib.hid (by
    have h1 := HZ4L.out
    have h2 := encN_len0 m1.toNat
    rw [← hQ]
    refine ⟨by rw [numsE_cons, List.length_append]; omega, by simp at h1; omega⟩)
  have HPM : Hid (P0.length ≤ 1000) := Lib.hid (by rw [← hP0]; have := HZL.out; simp at this; omega)
  rw [hQ] at HN4
  clear hQ
  rw [hP0] at HZ3
  clear h hb0 hrow hat hkb hl hh hP0
  go_enter Tryd.func14, Tryd.ntmps14
  go_wp2_with fail
  refine HI.out.mono ?_; rintro e w1 ⟨rfl, k1⟩
  have hb1 := HB0.out.trans (k1.mono HB0.out.size)
  have x1 := X0.out.below k1
  have kA : Below w1.heap.size w1 (w1.alloc (.cells #[.int .i64 3, .int .i64 o, .int .i64 s] 3)) := (Below.refl _ _).alloc (Nat.le_refl _) _
  have HXA := Lib.hid (x1.below kA)
  have HBA := Lib.hid (hb1.trans (kA.mono hb1.size))
  obtain ⟨y0, y1, y2, y3, y4, y5, y6, y7, ylt⟩ := x1
  have HN := Lib.hid (HZ3.out w1.heap.size (w1.alloc (.cells #[.int .i64 3, .int .i64 o, .int .i64 s] 3)) (by simp) (by intro j q; rcases (show j = 0 ∨ j = 1 ∨ j = 2 from by simp at q; omega) with rfl | rfl | rfl <;> simp))
  have hw1 := hb1.size
  clear k1 hb1 kA HI X0 HB0 HZ3
  go_wp2_with fail
  refine HN.out.mono ?_; rintro e w2 ⟨⟨g, cap, rfl, hown⟩, k2⟩
  have HG2 : Hid (G8 w w2 (.slice (some ⟨g, 0, none⟩) P0.length cap) P0) := Lib.hid ⟨own_base (base' := w.heap.size) (by simp; omega) hown, HBA.out.trans (k2.mono HBA.out.size)⟩
  have HX2 := Lib.hid (HXA.out.below k2)
  clear hown k2 HN HXA HBA y0 y1 y2 y3 y4 y5 y6 y7 ylt hw1
  obtain ⟨y0, y1, y2, y3, y4, y5, y6, y7, ylt⟩ := HX2.out
  have kB : Below w2.heap.size w2 (w2.alloc (.cells #[.int .i64 m1, .int .i64 c1, .int .i64 m2, .int .i64 c2] 3)) := (Below.refl _ _).alloc (Nat.le_refl _) _
  have HGB := Lib.hid (HG2.out.below kB)
  have HXB := Lib.hid (HX2.out.below kB)
  have HC4 := Lib.hid (HN4.out w2.heap.size (w2.alloc (.cells #[.int .i64 m1, .int .i64 c1, .int .i64 m2, .int .i64 c2] 3)) (by simp) (by intro j q; rcases (show j = 0 ∨ j = 1 ∨ j = 2 ∨ j = 3 from by simp at q; omega) with rfl | rfl | rfl | rfl <;> simp))
  clear kB HG2 HN4
  go_wp2_with fail
  refine HC4.out.mono ?_; rintro e w3 ⟨⟨gq, cq, rfl, hownq⟩, k3⟩
  have HG3 := Lib.hid (HGB.out.below k3)
  have hrow3 := HG3.out.row
  have hsrc3 := (show ∀ j u, (bC Q)[j]? = some u → w3.cell? ((⟨gq, 0, none⟩ : Addr).add j) = some u from Own8.src hownq)
  have z3 := HG3.out.hb.size
  clear hownq k3 HC4 HGB HX2 HXB y0 y1 y2 y3 y4 y5 y6 y7 ylt
  have hq0 := HQ.out.1
  have hqm := HQ.out.2
  have hp0m := HPM.out
  go_wp2_with (at_builtin; refine wpList_append_lies _ rfl (.tmp 33) (.tmp 47) _ rfl w.heap.size 5 i0 _ 1 1 Tryd.underlying28 hi0 hz0 hz1 hz2 rfl (by decide) (.slice (some ⟨g, 0, none⟩) P0.length cap) P0.length _ rfl hrow3 ⟨gq, 0, none⟩ Q.length cq (bC Q) rfl (by rw [bC_len]; omega) hsrc3 (bC_one _) hq0 (by unfold maxLen; omega) (by first | omega | (simp; omega)) (by first | omega | (simp; omega)) _ rfl ?_; intro gz capz w4 hown4 hg4 hat4 hlt4)
  have HG4 : Hid (G8 w w4 (.slice (some ⟨gz, 0, none⟩) (P0.length + Q.length) capz) (P0 ++ Q)) := Lib.hid (HG3.out.app (Below.refl _ _) rfl hown4 hg4)
  clear hown4 hg4 hat4 hlt4 hrow3 hsrc3 HG3
  have HEW : Hid (encW (wdOf 3 o s m1 c1 m2 c2 L) = P0 ++ Q) := Lib.hid (by rw [encW_nums, if_neg (by decide), if_pos rfl, HP0.out, HQE.out])
  have HLN : Hid ((P0 ++ Q).length = P0.length + Q.length) := Lib.hid (by first | rfl | exact List.length_append)
  have HF : Hid (Calls Tryd.prog 56 #[.slice (some ⟨gz, 0, none⟩) (P0.length + Q.length) capz] w4 fun e w' => (∃ g2 cap2, e = .returned (.tuple #[.slice (some ⟨g2, 0, none⟩) (12 + (P0.length + Q.length)) cap2, .int .i64 0]) ∧ Row8 w4.heap.size w' g2 cap2 (12 + (P0.length + Q.length)) (frE (P0 ++ Q))) ∧ Below w4.heap.size w4 w') := Lib.hid (by
    have hgr := HG4.out.row
    have hby := HBY.out
    have hbd := HBD.out
    rw [HEW.out] at hby hbd
    obtain ⟨A5, c5, e5, hy5, _⟩ := Own8.bytes hgr
    obtain ⟨rfl, rfl⟩ : some (⟨gz, 0, none⟩ : Addr) = A5 ∧ capz = c5 := by injection e5 with q1 q2 q3; exact ⟨q1, q3⟩
    exact ref_frame_n capz _ _ (P0 ++ Q) w4 HLN.out hy5 hby hbd.1 (by omega))
  have HBZ := Lib.hid HG4.out.hb
  clear HG4
  go_wp2_with fail
  refine HF.out.mono ?_; rintro e w6 ⟨⟨g6, cap6, rfl, hr6⟩, k6⟩
  have HB6 := Lib.hid (HBZ.out.trans (k6.mono HBZ.out.size))
  have HR6 := Lib.hid (hr6.base (b2 := w.heap.size) HBZ.out.size)
  clear hr6 k6 HF
  go_wp2
  go_ret2
  exact ⟨enc_res_of HEW.out (by first | exact HLN.out | rfl) ⟨g6, cap6, rfl, HR6.out⟩, HB6.out⟩
set_option maxRecDepth 100000 in
set_option maxHeartbeats 4000000 in
theorem rwd_enc_1 (o s m1 c1 m2 c2 : Int) (A : Option Addr) (c : Nat) (L : List Mr) (w : World) (hrow : RowAt w (.slice A L.length c) L) (hat : ∀ m ∈ L, m.At (fun _ => True) w) (hkb : ∀ m ∈ L, isBy m.r.key ∧ isBy m.r.val) (hl : L.length ≤ 100000) (h : okW (wdOf 1 o s m1 c1 m2 c2 L) = true) :
    Calls Tryd.prog 14 #[wdV 1 o s m1 c1 m2 c2 (.slice A L.length c)] w fun e w' => EncRes (wdOf 1 o s m1 c1 m2 c2 L) w w' e ∧ Below w.heap.size w w' := by
  obtain ⟨i0, hi0, hz0, hz1, hz2⟩ := info_parts u8_info
  have hb0 : Below w.heap.size w (w.alloc (.cells (wdC 1 o s m1 c1 m2 c2 (.slice A L.length c)) 34)) := by (repeat' (first | (with_reducible exact Below.refl _ _) | (with_reducible assumption) | (with_reducible refine Below.trans ?_ (Below.mono (by with_reducible assumption) ?_)) | (with_reducible refine Below.alloc ?_ ?_ _) | (with_reducible refine Below.setCell ?_ ?_ _) | (with_reducible refine below_drewN ?_ _) | (with_reducible refine Below.drew ?_) | go_size))
  have HI := Lib.hid (ref17_is 1 o s m1 c1 m2 c2 A c L _ (hrow.below hb0) (fun m hm => (hkb m hm).1) hl)
  rw [h] at HI
  have X0 := Lib.hid (Wd8.new w 34 1 o s m1 c1 m2 c2 (.slice A L.length c))
  have HB0 := Lib.hid hb0
  have HBD := Lib.hid (encW_bd h)
  have HBY : Hid (isBy (encW (wdOf 1 o s m1 c1 m2 c2 L))) := Lib.hid (encW_by (fun r hr => by
    obtain ⟨m, hm, rfl⟩ := List.mem_map.1 hr
    exact hkb m hm))
  have hh := headW_bd (okW_kind h).1
  have HZ : Hid (∀ x ∈ [(1 : Int), o, s], 0 ≤ x ∧ x ≤ 4611686018427387904) := Lib.hid (by
    have q : 0 ≤ o ∧ o < 5 ∧ 0 ≤ s ∧ s ≤ 1099511627776 := hh
    intro x hx
    simp at hx
    rcases hx with rfl | rfl | rfl <;> omega)
  have HZL := Lib.hid (numsE_len _ HZ.out)
  have HZ3 : Hid (∀ (g : Nat) (W : World), g < W.heap.size → (∀ (j : Nat) (q : j < [(1 : Int), o, s].length), W.cell? ⟨g, j, none⟩ = some (.int .i64 [(1 : Int), o, s][j])) → Calls Tryd.prog 54 #[.slice (some ⟨g, 0, none⟩) 3 3] W fun e w' => Told8 (numsE [(1 : Int), o, s]) W w' e ∧ Below W.heap.size W w') := Lib.hid (fun g W hg hq => ref_nums g 3 [1, o, s] W hg (by simp) hq HZ.out (by simp) (by have := HZL.out; simp at this; omega))
  obtain ⟨P0, hP0⟩ : ∃ P0, numsE [(1 : Int), o, s] = P0 := ⟨_, rfl⟩
  have HP0 := Lib.hid hP0
  have HLST : Hid (∀ W, Below w.heap.size w W → Calls Tryd.prog 55 #[.slice A L.length c] W fun e w' => LsRes (L.map Mr.r) w' e ∧ Below W.heap.size W w') := Lib.hid (fun W q => ref_list _ L W (hrow.below q) (fun m hm => (hat m hm).below q) (fun m hm => (hkb m hm).1) hl)
  have HLC : Hid (lsC (L.map Mr.r) = 0 ∧ 0 < (lsV (L.map Mr.r)).length) := Lib.hid (by
    rcases (okW_kind h).2 with ⟨_, _, q, _, q64⟩ | ⟨q, _⟩ | ⟨q, _⟩
    · refine ⟨lsC_ok q64 (rowB_ok _ _ _ q), ?_⟩
      have h9 : lsV (L.map Mr.r) = encN (L.map Mr.r).length ++ bodyE (L.map Mr.r) := (ls_yes (by have : (L.map Mr.r).length ≤ 64 := q64; omega) (rowB_ok _ _ _ q)).1
      rw [h9, List.length_append]
      have := encN_len0 (L.map Mr.r).length
      omega
    · exact absurd q (by simp [wdOf])
    · exact absurd q (by simp [wdOf]))
  have HPM : Hid (P0.length ≤ 1000) := Lib.hid (by rw [← hP0]; have := HZL.out; simp at this; omega)
  rw [hP0] at HZ3
  clear h hb0 hrow hat hkb hl hh hP0
  go_enter Tryd.func14, Tryd.ntmps14
  go_wp2_with fail
  refine HI.out.mono ?_; rintro e w1 ⟨rfl, k1⟩
  have hb1 := HB0.out.trans (k1.mono HB0.out.size)
  have x1 := X0.out.below k1
  have kA : Below w1.heap.size w1 (w1.alloc (.cells #[.int .i64 1, .int .i64 o, .int .i64 s] 3)) := (Below.refl _ _).alloc (Nat.le_refl _) _
  have HXA := Lib.hid (x1.below kA)
  have HBA := Lib.hid (hb1.trans (kA.mono hb1.size))
  obtain ⟨y0, y1, y2, y3, y4, y5, y6, y7, ylt⟩ := x1
  have HN := Lib.hid (HZ3.out w1.heap.size (w1.alloc (.cells #[.int .i64 1, .int .i64 o, .int .i64 s] 3)) (by simp) (by intro j q; rcases (show j = 0 ∨ j = 1 ∨ j = 2 from by simp at q; omega) with rfl | rfl | rfl <;> simp))
  have hw1 := hb1.size
  clear k1 hb1 kA HI X0 HB0 HZ3
  go_wp2_with fail
  refine HN.out.mono ?_; rintro e w2 ⟨⟨g, cap, rfl, hown⟩, k2⟩
  have HG2 : Hid (G8 w w2 (.slice (some ⟨g, 0, none⟩) P0.length cap) P0) := Lib.hid ⟨own_base (base' := w.heap.size) (by simp; omega) hown, HBA.out.trans (k2.mono HBA.out.size)⟩
  have HX2 := Lib.hid (HXA.out.below k2)
  clear hown k2 HN HXA HBA y0 y1 y2 y3 y4 y5 y6 y7 ylt hw1
  obtain ⟨y0, y1, y2, y3, y4, y5, y6, y7, ylt⟩ := HX2.out
  go_wp2_with fail
  refine (HLST.out _ HG2.out.hb).mono ?_; rintro e w3 ⟨⟨Al, cq, rfl, hyl, hnl, hql, hqc⟩, k3⟩
  have HG3 := Lib.hid (HG2.out.below k3)
  have hll := lsV_len (L.map Mr.r)
  rw [HLC.out.1]
  obtain ⟨Q, hQ⟩ : ∃ Q, lsV (L.map Mr.r) = Q := ⟨_, rfl⟩
  have HQE := Lib.hid hQ
  have HQ : Hid (0 < Q.length ∧ Q.length ≤ 80000) := Lib.hid (by rw [← hQ]; exact ⟨HLC.out.2, hll⟩)
  rw [hQ] at hyl ⊢
  obtain ⟨Bq, Oq, rfl, _⟩ := hyl HQ.out.1
  have hrow3 := HG3.out.row
  have hsrc3 := hyl.cells
  have z3 := HG3.out.hb.size
  clear hQ hll hyl hnl hql hqc k3 HLST HLC HG2 HX2 y0 y1 y2 y3 y4 y5 y6 y7 ylt
  have hq0 := HQ.out.1
  have hqm := HQ.out.2
  have hp0m := HPM.out
  go_wp2_with (at_builtin; refine wpList_append_lies _ rfl (.tmp 28) (.tmp 29) _ rfl w.heap.size 5 i0 _ 1 1 Tryd.underlying28 hi0 hz0 hz1 hz2 rfl (by decide) (.slice (some ⟨g, 0, none⟩) P0.length cap) P0.length _ rfl hrow3 ⟨Bq, Oq, none⟩ Q.length cq (bC Q) rfl (by rw [bC_len]; omega) hsrc3 (bC_one _) hq0 (by unfold maxLen; omega) (by first | omega | (simp; omega)) (by first | omega | (simp; omega)) _ rfl ?_; intro gz capz w4 hown4 hg4 hat4 hlt4)
  have HG4 : Hid (G8 w w4 (.slice (some ⟨gz, 0, none⟩) (P0.length + Q.length) capz) (P0 ++ Q)) := Lib.hid (HG3.out.app (Below.refl _ _) rfl hown4 hg4)
  clear hown4 hg4 hat4 hlt4 hrow3 hsrc3 HG3
  have HEW : Hid (encW (wdOf 1 o s m1 c1 m2 c2 L) = P0 ++ Q) := Lib.hid (by rw [encW_nums, if_pos rfl, HP0.out, HQE.out])
  have HLN : Hid ((P0 ++ Q).length = P0.length + Q.length) := Lib.hid (by first | rfl | exact List.length_append)
  have HF : Hid (Calls Tryd.prog 56 #[.slice (some ⟨gz, 0, none⟩) (P0.length + Q.length) capz] w4 fun e w' => (∃ g2 cap2, e = .returned (.tuple #[.slice (some ⟨g2, 0, none⟩) (12 + (P0.length + Q.length)) cap2, .int .i64 0]) ∧ Row8 w4.heap.size w' g2 cap2 (12 + (P0.length + Q.length)) (frE (P0 ++ Q))) ∧ Below w4.heap.size w4 w') := Lib.hid (by
    have hgr := HG4.out.row
    have hby := HBY.out
    have hbd := HBD.out
    rw [HEW.out] at hby hbd
    obtain ⟨A5, c5, e5, hy5, _⟩ := Own8.bytes hgr
    obtain ⟨rfl, rfl⟩ : some (⟨gz, 0, none⟩ : Addr) = A5 ∧ capz = c5 := by injection e5 with q1 q2 q3; exact ⟨q1, q3⟩
    exact ref_frame_n capz _ _ (P0 ++ Q) w4 HLN.out hy5 hby hbd.1 (by omega))
  have HBZ := Lib.hid HG4.out.hb
  clear HG4
  go_wp2_with fail
  refine HF.out.mono ?_; rintro e w6 ⟨⟨g6, cap6, rfl, hr6⟩, k6⟩
  have HB6 := Lib.hid (HBZ.out.trans (k6.mono HBZ.out.size))
  have HR6 := Lib.hid (hr6.base (b2 := w.heap.size) HBZ.out.size)
  clear hr6 k6 HF
  go_wp2
  go_ret2
  exact ⟨enc_res_of HEW.out (by first | exact HLN.out | rfl) ⟨g6, cap6, rfl, HR6.out⟩, HB6.out⟩
theorem rwd_enc (k o s m1 c1 m2 c2 : Int) (A : Option Addr) (c : Nat) (L : List Mr) (w : World) (hrow : RowAt w (.slice A L.length c) L) (hat : ∀ m ∈ L, m.At (fun _ => True) w) (hkb : ∀ m ∈ L, isBy m.r.key ∧ isBy m.r.val) (hl : L.length ≤ 100000) (h : okW (wdOf k o s m1 c1 m2 c2 L) = true) :
    Calls Tryd.prog 14 #[wdV k o s m1 c1 m2 c2 (.slice A L.length c)] w fun e w' => EncRes (wdOf k o s m1 c1 m2 c2 L) w w' e ∧ Below w.heap.size w w' := by
  rcases (okW_kind h).2 with ⟨q, _⟩ | ⟨q, _⟩ | ⟨q, _⟩
  · have q' : k = 1 := q
    subst q'
    exact rwd_enc_1 o s m1 c1 m2 c2 A c L w hrow hat hkb hl h
  · have q' : k = 2 := q
    subst q'
    exact rwd_enc_2 o s m1 c1 m2 c2 A c L w hrow hat hkb hl h
  · have q' : k = 3 := q
    subst q'
    exact rwd_enc_3 o s m1 c1 m2 c2 A c L w hrow hat hkb hl h
end Go.Proofs.YtdffldlcbihjmaaDoor

/- records, heavy of package meridianlaw18: whether two rows of records are one (written by gen/recs18.py). -/
namespace Go.Proofs.YtdffldlcbihjmaaDoor
open Go.RowKit

theorem sameRB_iff18 {a b : Rc} (ha : isBy a.key) (hb : isBy b.key) : sameRB a.o a.s (strB a.key) a.ml a.ct a.vo a.val a.gone a.tt b.o b.s (strB b.key) b.ml b.ct b.vo b.val b.gone b.tt = true ↔ a = b := by
  obtain ⟨o, s, key, ml, ct, vo, val, gone, tt⟩ := a
  obtain ⟨o', s', key', ml', ct', vo', val', gone', tt'⟩ := b
  simp only [sameRB, sameVB, Bool.and_eq_true, decide_eq_true_eq, Rc.mk.injEq, strB_inj ha hb]
set_option maxRecDepth 100000 in
set_option maxHeartbeats 4000000 in
theorem law_recs18 (v v' : Value) (L L' : List Mr) (w : World) (h : RowAt w v L) (h' : RowAt w v' L') (ha : ∀ m ∈ L, m.At (fun _ => True) w) (ha' : ∀ m ∈ L', m.At (fun _ => True) w) (hb : ∀ m ∈ L, isBy m.r.val) (hbk : ∀ m ∈ L, isBy m.r.key) (hb' : ∀ m ∈ L', isBy m.r.key ∧ isBy m.r.val) (hl : L.length ≤ 100000) :
    Calls Tryd.prog 42 #[v, v'] w fun e w' => (∃ b, e = .returned (.bool b) ∧ (b = true ↔ L.map Mr.r = L'.map Mr.r)) ∧ Below w.heap.size w w' := by
  obtain ⟨A, c, rfl, hc⟩ := h.ex
  obtain ⟨A', c', rfl, hc'⟩ := h'.ex
  by_cases hll : L'.length = L.length
  rotate_left
  · have t0 : ((L.length : Int) != (L'.length : Int)) = true := by simp only [bne_iff_ne, ne_eq]; omega
    have t0' : (L.length != L'.length) = true := by simp only [bne_iff_ne, ne_eq]; omega
    have HN : Hid (¬ L.map Mr.r = L'.map Mr.r) := Lib.hid (fun q => hll (by have := congrArg List.length q; simpa using this.symm))
    clear h h' hc hc' ha ha' hb hbk hb' hll hl
    go_enter Tryd.func42, Tryd.ntmps42
    go_wp2
    go_ret
    exact ⟨⟨false, rfl, by simp; exact HN.out⟩, Below.refl _ _⟩
  have HC := Lib.hid (And.intro hc hc')
  have HA := Lib.hid (And.intro ha (And.intro ha' (And.intro hb (And.intro hbk hb'))))
  have HLL := Lib.hid hll
  have hni : (L.length : Int) ≤ 100000 := by omega
  rw [hll]
  clear h h' hc hc' ha ha' hb hbk hb' hl hll
  go_enter Tryd.func42, Tryd.ntmps42
  go_wp2
  go_loopw [5] (fun i wr => ∃ k : Nat, k ≤ L.length ∧ i = .int .i64 k ∧ Below w.heap.size w wr ∧ Hid ((L.map Mr.r).take k = (L'.map Mr.r).take k)) (fun i _ => L.length - (intOf i).toNat)
  case atStart => exact ⟨0, Nat.zero_le _, rfl, Below.refl _ _, Lib.hid rfl⟩
  case round =>
    obtain ⟨k, hk, rfl, hB, HTK⟩ := hrel
    by_cases hlt : k < L.length
    · have lk : (k : Int) < (L.length : Int) := by omega
      obtain ⟨B, O, rfl, hBl, hcell⟩ := HC.out.1 (by omega)
      obtain ⟨B', O', rfl, hBl', hcell'⟩ := HC.out.2 (by have := HLL.out; omega)
      have hlt' : k < L'.length := by have := HLL.out; omega
      have hx : L[k]? = some L[k] := List.getElem?_eq_getElem hlt
      have hx' : L'[k]? = some L'[k] := List.getElem?_eq_getElem hlt'
      have hm := HA.out.1 L[k] (List.getElem_mem hlt)
      have hm' := HA.out.2.1 L'[k] (List.getElem_mem hlt')
      have hbv := HA.out.2.2.1 L[k] (List.getElem_mem hlt)
      have hbkk := HA.out.2.2.2.1 L[k] (List.getElem_mem hlt)
      have hbv' := HA.out.2.2.2.2 L'[k] (List.getElem_mem hlt')
      have HTN : Hid (L[k].r = L'[k].r → (L.map Mr.r).take (k + 1) = (L'.map Mr.r).take (k + 1)) := Lib.hid (fun q => by
        rw [List.take_succ_eq_append_getElem (by simpa using hlt), List.take_succ_eq_append_getElem (by simpa using hlt'), HTK.out]
        simp [q])
      have HTF : Hid (L[k].r ≠ L'[k].r → ¬ L.map Mr.r = L'.map Mr.r) := Lib.hid (fun q e => q (by
        have := congrArg (fun l => l[k]?) e
        simpa [hlt, hlt'] using this))
      clear HTK
      generalize L[k] = x at *
      generalize L'[k] = x' at *
      have HKEEP : Hid (∀ W, Below w.heap.size w W → W.cell? ⟨B, O + k * 9, none⟩ = some (.int .i64 x.r.o) ∧ W.cell? ⟨B, O + k * 9 + 1, none⟩ = some (.int .i64 x.r.s) ∧ W.cell? ⟨B, O + k * 9 + 2, none⟩ = some (.string (strB x.r.key)) ∧ W.cell? ⟨B, O + k * 9 + 3, none⟩ = some (.int .i64 x.r.ml) ∧ W.cell? ⟨B, O + k * 9 + 4, none⟩ = some (.int .i64 x.r.ct) ∧ W.cell? ⟨B, O + k * 9 + 5, none⟩ = some (.int .i64 x.r.vo) ∧ W.cell? ⟨B, O + k * 9 + 6, none⟩ = some (.slice x.A x.r.val.length x.c) ∧ W.cell? ⟨B, O + k * 9 + 7, none⟩ = some (.bool x.r.gone) ∧ W.cell? ⟨B, O + k * 9 + 8, none⟩ = some (.int .i64 x.r.tt) ∧ W.cell? ⟨B', O' + k * 9, none⟩ = some (.int .i64 x'.r.o) ∧ W.cell? ⟨B', O' + k * 9 + 1, none⟩ = some (.int .i64 x'.r.s) ∧ W.cell? ⟨B', O' + k * 9 + 2, none⟩ = some (.string (strB x'.r.key)) ∧ W.cell? ⟨B', O' + k * 9 + 3, none⟩ = some (.int .i64 x'.r.ml) ∧ W.cell? ⟨B', O' + k * 9 + 4, none⟩ = some (.int .i64 x'.r.ct) ∧ W.cell? ⟨B', O' + k * 9 + 5, none⟩ = some (.int .i64 x'.r.vo) ∧ W.cell? ⟨B', O' + k * 9 + 6, none⟩ = some (.slice x'.A x'.r.val.length x'.c) ∧ W.cell? ⟨B', O' + k * 9 + 7, none⟩ = some (.bool x'.r.gone) ∧ W.cell? ⟨B', O' + k * 9 + 8, none⟩ = some (.int .i64 x'.r.tt)) := Lib.hid (fun W hW => ⟨((hW.cell (p := ⟨B, O + k * 9, none⟩) hBl).trans (hcell (k * 9) _ (by have := rowM_at hx 0 (by omega); rwa [Nat.add_zero] at this))), (by rw [Nat.add_assoc]; exact (hW.cell (p := ⟨B, O + (k * 9 + 1), none⟩) hBl).trans (hcell _ _ (rowM_at hx 1 (by omega)))), (by rw [Nat.add_assoc]; exact (hW.cell (p := ⟨B, O + (k * 9 + 2), none⟩) hBl).trans (hcell _ _ (rowM_at hx 2 (by omega)))), (by rw [Nat.add_assoc]; exact (hW.cell (p := ⟨B, O + (k * 9 + 3), none⟩) hBl).trans (hcell _ _ (rowM_at hx 3 (by omega)))), (by rw [Nat.add_assoc]; exact (hW.cell (p := ⟨B, O + (k * 9 + 4), none⟩) hBl).trans (hcell _ _ (rowM_at hx 4 (by omega)))), (by rw [Nat.add_assoc]; exact (hW.cell (p := ⟨B, O + (k * 9 + 5), none⟩) hBl).trans (hcell _ _ (rowM_at hx 5 (by omega)))), (by rw [Nat.add_assoc]; exact (hW.cell (p := ⟨B, O + (k * 9 + 6), none⟩) hBl).trans (hcell _ _ (rowM_at hx 6 (by omega)))), (by rw [Nat.add_assoc]; exact (hW.cell (p := ⟨B, O + (k * 9 + 7), none⟩) hBl).trans (hcell _ _ (rowM_at hx 7 (by omega)))), (by rw [Nat.add_assoc]; exact (hW.cell (p := ⟨B, O + (k * 9 + 8), none⟩) hBl).trans (hcell _ _ (rowM_at hx 8 (by omega)))), ((hW.cell (p := ⟨B', O' + k * 9, none⟩) hBl').trans (hcell' (k * 9) _ (by have := rowM_at hx' 0 (by omega); rwa [Nat.add_zero] at this))), (by rw [Nat.add_assoc]; exact (hW.cell (p := ⟨B', O' + (k * 9 + 1), none⟩) hBl').trans (hcell' _ _ (rowM_at hx' 1 (by omega)))), (by rw [Nat.add_assoc]; exact (hW.cell (p := ⟨B', O' + (k * 9 + 2), none⟩) hBl').trans (hcell' _ _ (rowM_at hx' 2 (by omega)))), (by rw [Nat.add_assoc]; exact (hW.cell (p := ⟨B', O' + (k * 9 + 3), none⟩) hBl').trans (hcell' _ _ (rowM_at hx' 3 (by omega)))), (by rw [Nat.add_assoc]; exact (hW.cell (p := ⟨B', O' + (k * 9 + 4), none⟩) hBl').trans (hcell' _ _ (rowM_at hx' 4 (by omega)))), (by rw [Nat.add_assoc]; exact (hW.cell (p := ⟨B', O' + (k * 9 + 5), none⟩) hBl').trans (hcell' _ _ (rowM_at hx' 5 (by omega)))), (by rw [Nat.add_assoc]; exact (hW.cell (p := ⟨B', O' + (k * 9 + 6), none⟩) hBl').trans (hcell' _ _ (rowM_at hx' 6 (by omega)))), (by rw [Nat.add_assoc]; exact (hW.cell (p := ⟨B', O' + (k * 9 + 7), none⟩) hBl').trans (hcell' _ _ (rowM_at hx' 7 (by omega)))), (by rw [Nat.add_assoc]; exact (hW.cell (p := ⟨B', O' + (k * 9 + 8), none⟩) hBl').trans (hcell' _ _ (rowM_at hx' 8 (by omega))))⟩)
      obtain ⟨bb, hbb⟩ : ∃ bb, sameRB x.r.o x.r.s (strB x.r.key) x.r.ml x.r.ct x.r.vo x.r.val x.r.gone x.r.tt x'.r.o x'.r.s (strB x'.r.key) x'.r.ml x'.r.ct x'.r.vo x'.r.val x'.r.gone x'.r.tt = bb := ⟨_, rfl⟩
      have HBB : Hid (bb = true ↔ x.r = x'.r) := Lib.hid (by rw [← hbb]; exact sameRB_iff18 hbkk hbv'.1)
      have HS : Hid (∀ W, Below w.heap.size w W → Calls Tryd.prog 76 #[recV x.r.o x.r.s (strB x.r.key) x.r.ml x.r.ct x.r.vo x.A x.r.val.length x.c x.r.gone x.r.tt, recV x'.r.o x'.r.s (strB x'.r.key) x'.r.ml x'.r.ct x'.r.vo x'.A x'.r.val.length x'.c x'.r.gone x'.r.tt] W fun e w' => e = .returned (.bool bb) ∧ Below W.heap.size W w') := Lib.hid (fun W hW => by
        have q := ref_same x.r.o x.r.s (strB x.r.key) x.r.ml x.r.ct x.r.vo x.r.val x.r.gone x.r.tt x.A x.c x'.r.o x'.r.s (strB x'.r.key) x'.r.ml x'.r.ct x'.r.vo x'.r.val x'.r.gone x'.r.tt x'.A x'.c W (hm.b.below hW) hbv hm.n (hm'.b.below hW) hbv'.2 hm'.n
        rw [hbb] at q
        exact q)
      clear hbb
      have hi1 : ((k : Int).toNat) = k := by simp
      have lk' : (k : Int) < (L'.length : Int) := by omega
      have HB1 := Lib.hid hB
      clear hm hm' hbv hbkk hbv' hcell hcell' hx hx' hB hlt'
      go_wp2_with fail
      refine wp_region_held_drew (S := fun w' => w'.cell? ⟨B, O + k * 9, none⟩ = some (.int .i64 x.r.o) ∧ w'.cell? ⟨B, O + k * 9 + 1, none⟩ = some (.int .i64 x.r.s) ∧ w'.cell? ⟨B, O + k * 9 + 2, none⟩ = some (.string (strB x.r.key)) ∧ w'.cell? ⟨B, O + k * 9 + 3, none⟩ = some (.int .i64 x.r.ml) ∧ w'.cell? ⟨B, O + k * 9 + 4, none⟩ = some (.int .i64 x.r.ct) ∧ w'.cell? ⟨B, O + k * 9 + 5, none⟩ = some (.int .i64 x.r.vo) ∧ w'.cell? ⟨B, O + k * 9 + 6, none⟩ = some (.slice x.A x.r.val.length x.c) ∧ w'.cell? ⟨B, O + k * 9 + 7, none⟩ = some (.bool x.r.gone) ∧ w'.cell? ⟨B, O + k * 9 + 8, none⟩ = some (.int .i64 x.r.tt) ∧ w'.cell? ⟨B', O' + k * 9, none⟩ = some (.int .i64 x'.r.o) ∧ w'.cell? ⟨B', O' + k * 9 + 1, none⟩ = some (.int .i64 x'.r.s) ∧ w'.cell? ⟨B', O' + k * 9 + 2, none⟩ = some (.string (strB x'.r.key)) ∧ w'.cell? ⟨B', O' + k * 9 + 3, none⟩ = some (.int .i64 x'.r.ml) ∧ w'.cell? ⟨B', O' + k * 9 + 4, none⟩ = some (.int .i64 x'.r.ct) ∧ w'.cell? ⟨B', O' + k * 9 + 5, none⟩ = some (.int .i64 x'.r.vo) ∧ w'.cell? ⟨B', O' + k * 9 + 6, none⟩ = some (.slice x'.A x'.r.val.length x'.c) ∧ w'.cell? ⟨B', O' + k * 9 + 7, none⟩ = some (.bool x'.r.gone) ∧ w'.cell? ⟨B', O' + k * 9 + 8, none⟩ = some (.int .i64 x'.r.tt)) (by kernel_rfl) ?_ (fun hHeld => ?_)
      · exact HKEEP.out _ HB1.out.drew
      refine wpAnyH_take (i := 0) (v := ?_) rfl (by kernel_rfl) (by kernel_rfl) (by kernel_rfl) (fun _ _ _ h => h) (Or.inl ⟨by rfl, ?_⟩) (by assumption) ?_
      rotate_left
      · intro w' hSw; (try dsimp only at hSw); go_simp; (try with_reducible rfl)
      (try simp only [Act.put, List.setIfInBounds_toArray, List.set_cons_zero, List.set_cons_succ, List.getElem_toArray, List.getElem_cons_succ, List.getElem_cons_zero])
      refine wpAnyH_take (i := 1) (v := ?_) rfl (by kernel_rfl) (by kernel_rfl) (by kernel_rfl) (fun _ _ _ h => h) (Or.inl ⟨by rfl, ?_⟩) (by assumption) ?_
      rotate_left
      · intro w' hSw; (try dsimp only at hSw); go_simp; (try with_reducible rfl)
      (try simp only [Act.put, List.setIfInBounds_toArray, List.set_cons_zero, List.set_cons_succ, List.getElem_toArray, List.getElem_cons_succ, List.getElem_cons_zero])
      refine wpAnyH_take (i := 2) (v := ?_) rfl (by kernel_rfl) (by kernel_rfl) (by kernel_rfl) (fun _ _ _ h => h) (Or.inl ⟨by rfl, ?_⟩) (by assumption) ?_
      rotate_left
      · intro w' hSw; (try dsimp only at hSw); go_simp; (try with_reducible rfl)
      (try simp only [Act.put, List.setIfInBounds_toArray, List.set_cons_zero, List.set_cons_succ, List.getElem_toArray, List.getElem_cons_succ, List.getElem_cons_zero])
      refine wpAnyH_take (i := 3) (v := ?_) rfl (by kernel_rfl) (by kernel_rfl) (by kernel_rfl) (fun _ _ _ h => h) (Or.inl ⟨by rfl, ?_⟩) (by assumption) ?_
      rotate_left
      · intro w' hSw; (try dsimp only at hSw); go_simp; (try with_reducible rfl)
      (try simp only [Act.put, List.setIfInBounds_toArray, List.set_cons_zero, List.set_cons_succ, List.getElem_toArray, List.getElem_cons_succ, List.getElem_cons_zero])
      refine wpAnyH_take (i := 4) (v := ?_) rfl (by kernel_rfl) (by kernel_rfl) (by kernel_rfl) (fun _ _ _ h => h) (Or.inl ⟨by rfl, ?_⟩) (by assumption) ?_
      rotate_left
      · intro w' hSw; (try dsimp only at hSw); go_simp; (try with_reducible rfl)
      (try simp only [Act.put, List.setIfInBounds_toArray, List.set_cons_zero, List.set_cons_succ, List.getElem_toArray, List.getElem_cons_succ, List.getElem_cons_zero])
      refine wpAnyH_take (i := 5) (v := ?_) rfl (by kernel_rfl) (by kernel_rfl) (by kernel_rfl) (fun _ _ _ h => h) (Or.inl ⟨by rfl, ?_⟩) (by assumption) ?_
      rotate_left
      · intro w' hSw; (try dsimp only at hSw); go_simp; (try with_reducible rfl)
      (try simp only [Act.put, List.setIfInBounds_toArray, List.set_cons_zero, List.set_cons_succ, List.getElem_toArray, List.getElem_cons_succ, List.getElem_cons_zero])
      refine wpAnyH_take (i := 6) (v := ?_) rfl (by kernel_rfl) (by kernel_rfl) (by kernel_rfl) (fun _ _ _ h => h) (Or.inl ⟨by rfl, ?_⟩) (by assumption) ?_
      rotate_left
      · intro w' hSw; (try dsimp only at hSw); go_simp; (try with_reducible rfl)
      (try simp only [Act.put, List.setIfInBounds_toArray, List.set_cons_zero, List.set_cons_succ, List.getElem_toArray, List.getElem_cons_succ, List.getElem_cons_zero])
      refine wpAnyH_take (i := 7) (v := ?_) rfl (by kernel_rfl) (by kernel_rfl) (by kernel_rfl) (fun _ _ _ h => h) (Or.inl ⟨by rfl, ?_⟩) (by assumption) ?_
      rotate_left
      · intro w' hSw; (try dsimp only at hSw); go_simp; (try with_reducible rfl)
      (try simp only [Act.put, List.setIfInBounds_toArray, List.set_cons_zero, List.set_cons_succ, List.getElem_toArray, List.getElem_cons_succ, List.getElem_cons_zero])
      refine wpAnyH_ready (rs := [8]) (by kernel_rfl) (by simp) ?_
      refine AllReadyH.cons rfl (fun K hK => ?_) AllReadyH.nil
      go_simp
      (go_at_call 76; refine (HS.out _ HB1.out.drew).mono ?_; rintro e W2 ⟨rfl, k2⟩; have HB2 := HB1.out.drew.trans (k2.mono HB1.out.drew.size))
      (try dsimp only)
      refine hK.out _ _ ?_ (fun hHeld => ?_)
      · exact HKEEP.out _ HB2
      clear hK K
      (try simp only [Act.put, List.setIfInBounds_toArray, List.set_cons_zero, List.set_cons_succ, List.getElem_toArray, List.getElem_cons_succ, List.getElem_cons_zero])
      refine wpAnyH_take (i := 9) (v := ?_) rfl (by kernel_rfl) (by kernel_rfl) (by kernel_rfl) (fun _ _ _ h => h) (Or.inl ⟨by rfl, ?_⟩) (by assumption) ?_
      rotate_left
      · intro w' hSw; (try dsimp only at hSw); go_simp; (try with_reducible rfl)
      (try simp only [Act.put, List.setIfInBounds_toArray, List.set_cons_zero, List.set_cons_succ, List.getElem_toArray, List.getElem_cons_succ, List.getElem_cons_zero])
      refine wpAnyH_done (by kernel_rfl) ?_ _
      cases bb
      · have HNE := Lib.hid (HTF.out (fun q => by have := HBB.out.2 q; cases this))
        have HB2' := Lib.hid HB2
        clear HB2 HTF HTN HBB
        go_wp2
        go_ret
        exact ⟨⟨false, rfl, by simp; exact HNE.out⟩, HB2'.out⟩
      · have HNE := Lib.hid (HTN.out (HBB.out.1 rfl))
        clear HTF HTN HBB
        go_wp2
        go_roundw
        case rel => exact ⟨k + 1, by omega, by go_num, HB2, HNE⟩
        case measure => simp [intOf]; omega
    · obtain rfl : k = L.length := by omega
      have HB1 := Lib.hid hB
      have HEQ : Hid (L.map Mr.r = L'.map Mr.r) := Lib.hid (by
        have h1 := HTK.out
        rw [List.take_of_length_le (by simp), List.take_of_length_le (by simp; have := HLL.out; omega)] at h1
        exact h1)
      clear hB hlt HTK
      go_wp2
      go_ret
      exact ⟨⟨true, rfl, by simp; exact HEQ.out⟩, HB1.out⟩
set_option maxRecDepth 100000 in
set_option maxHeartbeats 4000000 in
theorem law_heavy18 (v : Value) (L : List Mr) (w : World) (h : RowAt w v L) (hs : ∀ m ∈ L, m.r.val.length ≤ 281474976710656 ∧ m.r.key.length ≤ 281474976710656) (hl : L.length ≤ maxLen) :
    Calls Tryd.prog 23 #[v] w fun e w' => (∃ b, e = .returned (.bool b) ∧ (b = false → L.length ≤ 400)) ∧ ∃ q, w' = w.drewN q := by
  obtain ⟨A, c, rfl, hc⟩ := h.ex
  have HC := Lib.hid hc
  have HS := Lib.hid hs
  have hni : (L.length : Int) ≤ 9223372036854775807 := by unfold maxLen at hl; omega
  clear h hc hs hl
  go_enter Tryd.func23, Tryd.ntmps23
  go_wp2
  go_loopw [3, 4] (fun u i wr => ∃ k m : Nat, k ≤ L.length ∧ i = .int .i64 k ∧ u = .int .i64 m ∧ 20 * k ≤ m ∧ m ≤ 8000 ∧ ∃ q, wr = w.drewN q) (fun _ i _ => L.length - (intOf i).toNat)
  case atStart => exact ⟨0, 0, Nat.zero_le _, rfl, rfl, by omega, by omega, 0, rfl⟩
  case round =>
    obtain ⟨k, m, hk, rfl, rfl, h20, hm, q, rfl⟩ := hrel
    by_cases hlt : k < L.length
    · have lk : (k : Int) < (L.length : Int) := by omega
      have hi1 : ((k : Int).toNat) = k := by simp
      obtain ⟨B, O, rfl, hBl, hcell⟩ := HC.out (by omega)
      have hx : L[k]? = some L[k] := List.getElem?_eq_getElem hlt
      have hsz := HS.out L[k] (List.getElem_mem hlt)
      generalize L[k] = x at *
      have a2 : (w.drewN q).cell? ⟨B, O + k * 9 + 2, none⟩ = some (.string (strB x.r.key)) := by rw [Nat.add_assoc]; exact hcell _ _ (rowM_at hx 2 (by omega))
      have a6 : (w.drewN q).cell? ⟨B, O + k * 9 + 6, none⟩ = some (.slice x.A x.r.val.length x.c) := by rw [Nat.add_assoc]; exact hcell _ _ (rowM_at hx 6 (by omega))
      have a6' : (w.drewN q).cell? ⟨B, O + k * 9 + 3 + 3, none⟩ = some (.slice x.A x.r.val.length x.c) := a6
      have hks : (strB x.r.key).size = x.r.key.length := strB_size _
      have HKS := Lib.hid hks
      obtain ⟨kn, hkn⟩ : ∃ kn, (strB x.r.key).size = kn := ⟨_, rfl⟩
      have hknb : kn ≤ 281474976710656 := by rw [← hkn, hks]; exact hsz.2
      have hvb : x.r.val.length ≤ 281474976710656 := hsz.1
      have HKN := Lib.hid hkn
      generalize x.r.val.length = vn at *
      generalize strB x.r.key = K8 at *
      have e0 : IntKind.i64.wrap ((m : Int) + 20) = (m : Int) + 20 := IntWalk.i64_in _ (by omega)
      have e1 : IntKind.i64.wrap ((m : Int) + 20 + (kn : Int)) = (m : Int) + 20 + (kn : Int) := IntWalk.i64_in _ (by omega)
      have e2 : IntKind.i64.wrap ((m : Int) + 20 + (kn : Int) + (vn : Int)) = (m : Int) + 20 + (kn : Int) + (vn : Int) := IntWalk.i64_in _ (by omega)
      clear hx hcell hsz hks
      subst hkn
      by_cases hh : 8000 < m + 20 + K8.size + vn
      · have t1 : decide ((8000 : Int) < (m : Int) + 20 + (K8.size : Int) + (vn : Int)) = true := by simp; omega
        clear hh
        go_wp2
        refine wp_region_held_drew (S := fun w' => w'.cell? ⟨B, O + k * 9 + 2, none⟩ = some (.string K8) ∧ w'.cell? ⟨B, O + k * 9 + 3 + 3, none⟩ = some (.slice x.A vn x.c)) (by kernel_rfl) ?_ (fun hHeld => ?_)
        · exact ⟨a2, a6'⟩
        refine wpAnyH_take (i := 0) (v := ?_) rfl (by kernel_rfl) (by kernel_rfl) (by kernel_rfl) (fun _ _ _ h => h) (Or.inl ⟨by rfl, ?_⟩) (by assumption) ?_
        rotate_left
        · intro w' hSw; (try dsimp only at hSw); go_simp; (try with_reducible rfl)
        (try simp only [Act.put, List.setIfInBounds_toArray, List.set_cons_zero, List.set_cons_succ, List.getElem_toArray, List.getElem_cons_succ, List.getElem_cons_zero])
        refine wpAnyH_take (i := 1) (v := ?_) rfl (by kernel_rfl) (by kernel_rfl) (by kernel_rfl) (fun _ _ _ h => h) (Or.inl ⟨by rfl, ?_⟩) (by assumption) ?_
        rotate_left
        · intro w' hSw; (try dsimp only at hSw); go_simp; (try with_reducible rfl)
        (try simp only [Act.put, List.setIfInBounds_toArray, List.set_cons_zero, List.set_cons_succ, List.getElem_toArray, List.getElem_cons_succ, List.getElem_cons_zero])
        refine wpAnyH_take (i := 2) (v := ?_) rfl (by kernel_rfl) (by kernel_rfl) (by kernel_rfl) (fun _ _ _ h => h) (Or.inl ⟨by rfl, ?_⟩) (by assumption) ?_
        rotate_left
        · intro w' hSw; (try dsimp only at hSw); go_simp; (try with_reducible rfl)
        (try simp only [Act.put, List.setIfInBounds_toArray, List.set_cons_zero, List.set_cons_succ, List.getElem_toArray, List.getElem_cons_succ, List.getElem_cons_zero])
        refine wpAnyH_take (i := 3) (v := ?_) rfl (by kernel_rfl) (by kernel_rfl) (by kernel_rfl) (fun _ _ _ h => h) (Or.inl ⟨by rfl, ?_⟩) (by assumption) ?_
        rotate_left
        · intro w' hSw; (try dsimp only at hSw); go_simp; (try with_reducible rfl)
        (try simp only [Act.put, List.setIfInBounds_toArray, List.set_cons_zero, List.set_cons_succ, List.getElem_toArray, List.getElem_cons_succ, List.getElem_cons_zero])
        refine wpAnyH_take (i := 4) (v := ?_) rfl (by kernel_rfl) (by kernel_rfl) (by kernel_rfl) (fun _ _ _ h => h) (Or.inl ⟨by rfl, ?_⟩) (by assumption) ?_
        rotate_left
        · intro w' hSw; (try dsimp only at hSw); go_simp; (try with_reducible rfl)
        (try simp only [Act.put, List.setIfInBounds_toArray, List.set_cons_zero, List.set_cons_succ, List.getElem_toArray, List.getElem_cons_succ, List.getElem_cons_zero])
        refine wpAnyH_take (i := 5) (v := ?_) rfl (by kernel_rfl) (by kernel_rfl) (by kernel_rfl) (fun _ _ _ h => h) (Or.inl ⟨by rfl, ?_⟩) (by assumption) ?_
        rotate_left
        · intro w' hSw; (try dsimp only at hSw); go_simp; (try with_reducible rfl)
        (try simp only [Act.put, List.setIfInBounds_toArray, List.set_cons_zero, List.set_cons_succ, List.getElem_toArray, List.getElem_cons_succ, List.getElem_cons_zero])
        refine wpAnyH_take (i := 6) (v := ?_) rfl (by kernel_rfl) (by kernel_rfl) (by kernel_rfl) (fun _ _ _ h => h) (Or.inl ⟨by rfl, ?_⟩) (by assumption) ?_
        rotate_left
        · intro w' hSw; (try dsimp only at hSw); go_simp; (try with_reducible rfl)
        (try simp only [Act.put, List.setIfInBounds_toArray, List.set_cons_zero, List.set_cons_succ, List.getElem_toArray, List.getElem_cons_succ, List.getElem_cons_zero])
        refine wpAnyH_take (i := 7) (v := ?_) rfl (by kernel_rfl) (by kernel_rfl) (by kernel_rfl) (fun _ _ _ h => h) (Or.inl ⟨by rfl, ?_⟩) (by assumption) ?_
        rotate_left
        · intro w' hSw; (try dsimp only at hSw); go_simp; (try with_reducible rfl)
        (try simp only [Act.put, List.setIfInBounds_toArray, List.set_cons_zero, List.set_cons_succ, List.getElem_toArray, List.getElem_cons_succ, List.getElem_cons_zero])
        refine wpAnyH_take (i := 8) (v := ?_) rfl (by kernel_rfl) (by kernel_rfl) (by kernel_rfl) (fun _ _ _ h => h) (Or.inl ⟨by rfl, ?_⟩) (by assumption) ?_
        rotate_left
        · intro w' hSw; (try dsimp only at hSw); go_simp; (try with_reducible rfl)
        (try simp only [Act.put, List.setIfInBounds_toArray, List.set_cons_zero, List.set_cons_succ, List.getElem_toArray, List.getElem_cons_succ, List.getElem_cons_zero])
        refine wpAnyH_take (i := 9) (v := ?_) rfl (by kernel_rfl) (by kernel_rfl) (by kernel_rfl) (fun _ _ _ h => h) (Or.inl ⟨by rfl, ?_⟩) (by assumption) ?_
        rotate_left
        · intro w' hSw; (try dsimp only at hSw); go_simp; (try with_reducible rfl)
        (try simp only [Act.put, List.setIfInBounds_toArray, List.set_cons_zero, List.set_cons_succ, List.getElem_toArray, List.getElem_cons_succ, List.getElem_cons_zero])
        refine wpAnyH_take (i := 10) (v := ?_) rfl (by kernel_rfl) (by kernel_rfl) (by kernel_rfl) (fun _ _ _ h => h) (Or.inl ⟨by rfl, ?_⟩) (by assumption) ?_
        rotate_left
        · intro w' hSw; (try dsimp only at hSw); go_simp; (try with_reducible rfl)
        (try simp only [Act.put, List.setIfInBounds_toArray, List.set_cons_zero, List.set_cons_succ, List.getElem_toArray, List.getElem_cons_succ, List.getElem_cons_zero])
        refine wpAnyH_take (i := 11) (v := ?_) rfl (by kernel_rfl) (by kernel_rfl) (by kernel_rfl) (fun _ _ _ h => h) (Or.inl ⟨by rfl, ?_⟩) (by assumption) ?_
        rotate_left
        · intro w' hSw; (try dsimp only at hSw); go_simp; (try with_reducible rfl)
        (try simp only [Act.put, List.setIfInBounds_toArray, List.set_cons_zero, List.set_cons_succ, List.getElem_toArray, List.getElem_cons_succ, List.getElem_cons_zero])
        refine wpAnyH_take (i := 12) (v := ?_) rfl (by kernel_rfl) (by kernel_rfl) (by kernel_rfl) (fun _ _ _ h => h) (Or.inl ⟨by rfl, ?_⟩) (by assumption) ?_
        rotate_left
        · intro w' hSw; (try dsimp only at hSw); go_simp; (try with_reducible rfl)
        (try simp only [Act.put, List.setIfInBounds_toArray, List.set_cons_zero, List.set_cons_succ, List.getElem_toArray, List.getElem_cons_succ, List.getElem_cons_zero])
        refine wpAnyH_take (i := 13) (v := ?_) rfl (by kernel_rfl) (by kernel_rfl) (by kernel_rfl) (fun _ _ _ h => h) (Or.inl ⟨by rfl, ?_⟩) (by assumption) ?_
        rotate_left
        · intro w' hSw; (try dsimp only at hSw); go_simp; (try with_reducible rfl)
        (try simp only [Act.put, List.setIfInBounds_toArray, List.set_cons_zero, List.set_cons_succ, List.getElem_toArray, List.getElem_cons_succ, List.getElem_cons_zero])
        refine wpAnyH_take (i := 14) (v := ?_) rfl (by kernel_rfl) (by kernel_rfl) (by kernel_rfl) (fun _ _ _ h => h) (Or.inl ⟨by rfl, ?_⟩) (by assumption) ?_
        rotate_left
        · intro w' hSw; (try dsimp only at hSw); go_simp; (try with_reducible rfl)
        (try simp only [Act.put, List.setIfInBounds_toArray, List.set_cons_zero, List.set_cons_succ, List.getElem_toArray, List.getElem_cons_succ, List.getElem_cons_zero])
        refine wpAnyH_take (i := 15) (v := ?_) rfl (by kernel_rfl) (by kernel_rfl) (by kernel_rfl) (fun _ _ _ h => h) (Or.inl ⟨by rfl, ?_⟩) (by assumption) ?_
        rotate_left
        · intro w' hSw; (try dsimp only at hSw); go_simp; (try with_reducible rfl)
        (try simp only [Act.put, List.setIfInBounds_toArray, List.set_cons_zero, List.set_cons_succ, List.getElem_toArray, List.getElem_cons_succ, List.getElem_cons_zero])
        refine wpAnyH_take (i := 16) (v := ?_) rfl (by kernel_rfl) (by kernel_rfl) (by kernel_rfl) (fun _ _ _ h => h) (Or.inl ⟨by rfl, ?_⟩) (by assumption) ?_
        rotate_left
        · intro w' hSw; (try dsimp only at hSw); go_simp; (try with_reducible rfl)
        (try simp only [Act.put, List.setIfInBounds_toArray, List.set_cons_zero, List.set_cons_succ, List.getElem_toArray, List.getElem_cons_succ, List.getElem_cons_zero])
        refine wpAnyH_take (i := 17) (v := ?_) rfl (by kernel_rfl) (by kernel_rfl) (by kernel_rfl) (fun _ _ _ h => h) (Or.inl ⟨by rfl, ?_⟩) (by assumption) ?_
        rotate_left
        · intro w' hSw; (try dsimp only at hSw); go_simp; (try with_reducible rfl)
        (try simp only [Act.put, List.setIfInBounds_toArray, List.set_cons_zero, List.set_cons_succ, List.getElem_toArray, List.getElem_cons_succ, List.getElem_cons_zero])
        refine wpAnyH_done (by kernel_rfl) ?_ _
        go_wp2
        go_ret
        exact ⟨⟨true, rfl, fun h => by cases h⟩, _, rfl⟩
      · have t1 : decide ((8000 : Int) < (m : Int) + 20 + (K8.size : Int) + (vn : Int)) = false := by simp; omega
        have hh' : m + 20 + K8.size + vn ≤ 8000 := by omega
        have HH := Lib.hid hh'
        clear hh hh'
        go_wp2
        refine wp_region_held_drew (S := fun w' => w'.cell? ⟨B, O + k * 9 + 2, none⟩ = some (.string K8) ∧ w'.cell? ⟨B, O + k * 9 + 3 + 3, none⟩ = some (.slice x.A vn x.c)) (by kernel_rfl) ?_ (fun hHeld => ?_)
        · exact ⟨a2, a6'⟩
        refine wpAnyH_take (i := 0) (v := ?_) rfl (by kernel_rfl) (by kernel_rfl) (by kernel_rfl) (fun _ _ _ h => h) (Or.inl ⟨by rfl, ?_⟩) (by assumption) ?_
        rotate_left
        · intro w' hSw; (try dsimp only at hSw); go_simp; (try with_reducible rfl)
        (try simp only [Act.put, List.setIfInBounds_toArray, List.set_cons_zero, List.set_cons_succ, List.getElem_toArray, List.getElem_cons_succ, List.getElem_cons_zero])
        refine wpAnyH_take (i := 1) (v := ?_) rfl (by kernel_rfl) (by kernel_rfl) (by kernel_rfl) (fun _ _ _ h => h) (Or.inl ⟨by rfl, ?_⟩) (by assumption) ?_
        rotate_left
        · intro w' hSw; (try dsimp only at hSw); go_simp; (try with_reducible rfl)
        (try simp only [Act.put, List.setIfInBounds_toArray, List.set_cons_zero, List.set_cons_succ, List.getElem_toArray, List.getElem_cons_succ, List.getElem_cons_zero])
        refine wpAnyH_take (i := 2) (v := ?_) rfl (by kernel_rfl) (by kernel_rfl) (by kernel_rfl) (fun _ _ _ h => h) (Or.inl ⟨by rfl, ?_⟩) (by assumption) ?_
        rotate_left
        · intro w' hSw; (try dsimp only at hSw); go_simp; (try with_reducible rfl)
        (try simp only [Act.put, List.setIfInBounds_toArray, List.set_cons_zero, List.set_cons_succ, List.getElem_toArray, List.getElem_cons_succ, List.getElem_cons_zero])
        refine wpAnyH_take (i := 3) (v := ?_) rfl (by kernel_rfl) (by kernel_rfl) (by kernel_rfl) (fun _ _ _ h => h) (Or.inl ⟨by rfl, ?_⟩) (by assumption) ?_
        rotate_left
        · intro w' hSw; (try dsimp only at hSw); go_simp; (try with_reducible rfl)
        (try simp only [Act.put, List.setIfInBounds_toArray, List.set_cons_zero, List.set_cons_succ, List.getElem_toArray, List.getElem_cons_succ, List.getElem_cons_zero])
        refine wpAnyH_take (i := 4) (v := ?_) rfl (by kernel_rfl) (by kernel_rfl) (by kernel_rfl) (fun _ _ _ h => h) (Or.inl ⟨by rfl, ?_⟩) (by assumption) ?_
        rotate_left
        · intro w' hSw; (try dsimp only at hSw); go_simp; (try with_reducible rfl)
        (try simp only [Act.put, List.setIfInBounds_toArray, List.set_cons_zero, List.set_cons_succ, List.getElem_toArray, List.getElem_cons_succ, List.getElem_cons_zero])
        refine wpAnyH_take (i := 5) (v := ?_) rfl (by kernel_rfl) (by kernel_rfl) (by kernel_rfl) (fun _ _ _ h => h) (Or.inl ⟨by rfl, ?_⟩) (by assumption) ?_
        rotate_left
        · intro w' hSw; (try dsimp only at hSw); go_simp; (try with_reducible rfl)
        (try simp only [Act.put, List.setIfInBounds_toArray, List.set_cons_zero, List.set_cons_succ, List.getElem_toArray, List.getElem_cons_succ, List.getElem_cons_zero])
        refine wpAnyH_take (i := 6) (v := ?_) rfl (by kernel_rfl) (by kernel_rfl) (by kernel_rfl) (fun _ _ _ h => h) (Or.inl ⟨by rfl, ?_⟩) (by assumption) ?_
        rotate_left
        · intro w' hSw; (try dsimp only at hSw); go_simp; (try with_reducible rfl)
        (try simp only [Act.put, List.setIfInBounds_toArray, List.set_cons_zero, List.set_cons_succ, List.getElem_toArray, List.getElem_cons_succ, List.getElem_cons_zero])
        refine wpAnyH_take (i := 7) (v := ?_) rfl (by kernel_rfl) (by kernel_rfl) (by kernel_rfl) (fun _ _ _ h => h) (Or.inl ⟨by rfl, ?_⟩) (by assumption) ?_
        rotate_left
        · intro w' hSw; (try dsimp only at hSw); go_simp; (try with_reducible rfl)
        (try simp only [Act.put, List.setIfInBounds_toArray, List.set_cons_zero, List.set_cons_succ, List.getElem_toArray, List.getElem_cons_succ, List.getElem_cons_zero])
        refine wpAnyH_take (i := 8) (v := ?_) rfl (by kernel_rfl) (by kernel_rfl) (by kernel_rfl) (fun _ _ _ h => h) (Or.inl ⟨by rfl, ?_⟩) (by assumption) ?_
        rotate_left
        · intro w' hSw; (try dsimp only at hSw); go_simp; (try with_reducible rfl)
        (try simp only [Act.put, List.setIfInBounds_toArray, List.set_cons_zero, List.set_cons_succ, List.getElem_toArray, List.getElem_cons_succ, List.getElem_cons_zero])
        refine wpAnyH_take (i := 9) (v := ?_) rfl (by kernel_rfl) (by kernel_rfl) (by kernel_rfl) (fun _ _ _ h => h) (Or.inl ⟨by rfl, ?_⟩) (by assumption) ?_
        rotate_left
        · intro w' hSw; (try dsimp only at hSw); go_simp; (try with_reducible rfl)
        (try simp only [Act.put, List.setIfInBounds_toArray, List.set_cons_zero, List.set_cons_succ, List.getElem_toArray, List.getElem_cons_succ, List.getElem_cons_zero])
        refine wpAnyH_take (i := 10) (v := ?_) rfl (by kernel_rfl) (by kernel_rfl) (by kernel_rfl) (fun _ _ _ h => h) (Or.inl ⟨by rfl, ?_⟩) (by assumption) ?_
        rotate_left
        · intro w' hSw; (try dsimp only at hSw); go_simp; (try with_reducible rfl)
        (try simp only [Act.put, List.setIfInBounds_toArray, List.set_cons_zero, List.set_cons_succ, List.getElem_toArray, List.getElem_cons_succ, List.getElem_cons_zero])
        refine wpAnyH_take (i := 11) (v := ?_) rfl (by kernel_rfl) (by kernel_rfl) (by kernel_rfl) (fun _ _ _ h => h) (Or.inl ⟨by rfl, ?_⟩) (by assumption) ?_
        rotate_left
        · intro w' hSw; (try dsimp only at hSw); go_simp; (try with_reducible rfl)
        (try simp only [Act.put, List.setIfInBounds_toArray, List.set_cons_zero, List.set_cons_succ, List.getElem_toArray, List.getElem_cons_succ, List.getElem_cons_zero])
        refine wpAnyH_take (i := 12) (v := ?_) rfl (by kernel_rfl) (by kernel_rfl) (by kernel_rfl) (fun _ _ _ h => h) (Or.inl ⟨by rfl, ?_⟩) (by assumption) ?_
        rotate_left
        · intro w' hSw; (try dsimp only at hSw); go_simp; (try with_reducible rfl)
        (try simp only [Act.put, List.setIfInBounds_toArray, List.set_cons_zero, List.set_cons_succ, List.getElem_toArray, List.getElem_cons_succ, List.getElem_cons_zero])
        refine wpAnyH_take (i := 13) (v := ?_) rfl (by kernel_rfl) (by kernel_rfl) (by kernel_rfl) (fun _ _ _ h => h) (Or.inl ⟨by rfl, ?_⟩) (by assumption) ?_
        rotate_left
        · intro w' hSw; (try dsimp only at hSw); go_simp; (try with_reducible rfl)
        (try simp only [Act.put, List.setIfInBounds_toArray, List.set_cons_zero, List.set_cons_succ, List.getElem_toArray, List.getElem_cons_succ, List.getElem_cons_zero])
        refine wpAnyH_take (i := 14) (v := ?_) rfl (by kernel_rfl) (by kernel_rfl) (by kernel_rfl) (fun _ _ _ h => h) (Or.inl ⟨by rfl, ?_⟩) (by assumption) ?_
        rotate_left
        · intro w' hSw; (try dsimp only at hSw); go_simp; (try with_reducible rfl)
        (try simp only [Act.put, List.setIfInBounds_toArray, List.set_cons_zero, List.set_cons_succ, List.getElem_toArray, List.getElem_cons_succ, List.getElem_cons_zero])
        refine wpAnyH_take (i := 15) (v := ?_) rfl (by kernel_rfl) (by kernel_rfl) (by kernel_rfl) (fun _ _ _ h => h) (Or.inl ⟨by rfl, ?_⟩) (by assumption) ?_
        rotate_left
        · intro w' hSw; (try dsimp only at hSw); go_simp; (try with_reducible rfl)
        (try simp only [Act.put, List.setIfInBounds_toArray, List.set_cons_zero, List.set_cons_succ, List.getElem_toArray, List.getElem_cons_succ, List.getElem_cons_zero])
        refine wpAnyH_take (i := 16) (v := ?_) rfl (by kernel_rfl) (by kernel_rfl) (by kernel_rfl) (fun _ _ _ h => h) (Or.inl ⟨by rfl, ?_⟩) (by assumption) ?_
        rotate_left
        · intro w' hSw; (try dsimp only at hSw); go_simp; (try with_reducible rfl)
        (try simp only [Act.put, List.setIfInBounds_toArray, List.set_cons_zero, List.set_cons_succ, List.getElem_toArray, List.getElem_cons_succ, List.getElem_cons_zero])
        refine wpAnyH_take (i := 17) (v := ?_) rfl (by kernel_rfl) (by kernel_rfl) (by kernel_rfl) (fun _ _ _ h => h) (Or.inl ⟨by rfl, ?_⟩) (by assumption) ?_
        rotate_left
        · intro w' hSw; (try dsimp only at hSw); go_simp; (try with_reducible rfl)
        (try simp only [Act.put, List.setIfInBounds_toArray, List.set_cons_zero, List.set_cons_succ, List.getElem_toArray, List.getElem_cons_succ, List.getElem_cons_zero])
        refine wpAnyH_done (by kernel_rfl) ?_ _
        go_wp2
        go_roundw
        case rel => exact ⟨k + 1, m + 20 + K8.size + vn, by omega, by go_num, by push_cast; rfl, by omega, HH.out, _, rfl⟩
        case measure => simp [intOf]; omega
    · obtain rfl : k = L.length := by omega
      clear HC HS hlt
      go_wp2
      go_ret
      exact ⟨⟨false, rfl, fun _ => by omega⟩, q, rfl⟩
end Go.Proofs.YtdffldlcbihjmaaDoor

/- stream: known (package meridianlaw18). -/
namespace Go.Proofs.YtdffldlcbihjmaaDoor
open Go.RowKit Go.Sort

theorem new_yes {cs : List Value} {ok : Bool} {w w' : World} {e : Ending} (h : NewRes cs ok w w' e) (hk : ok = true) : ∃ b, e = .returned (.tuple #[.pointer (some ⟨b, 0, none⟩), .int .i64 0]) ∧ w.heap.size ≤ b ∧ XB w' b cs ∧ Below w.heap.size w w' := by
  rcases h with ⟨q, _⟩ | ⟨_, q⟩
  · rw [hk] at q; cases q
  · exact q
/-- The record that the law makes, of a small number. -/
theorem rec_lit (s : Nat) (W : World) (h : s ≤ 255) : Calls Tryd.prog 69 #[.int .i64 0, .int .i64 s] W fun e w' => ∃ g, e = .returned (recV 0 s (strB [107]) s 0 0 (some ⟨g, 0, none⟩) 1 1 false 0) ∧ (Mr.mk (recS 0 s) (some ⟨g, 0, none⟩) 1).At (fun i => W.heap.size ≤ i) w' ∧ Below W.heap.size W w' :=
  (law_rec 0 s W).mono fun e w' ⟨g, he, h1, h2, h3, k⟩ => ⟨g, by rw [he, Nat.min_eq_left (by omega)], RecRes.at_ h1 h2 h3, k⟩
theorem rowAt_xb {W : World} {g n c : Nat} {L : List Mr} (h : XB W g (rowM L)) (hn : L.length = n) : RowAt W (.slice (some ⟨g, 0, none⟩) n c) L :=
  ⟨some ⟨g, 0, none⟩, c, by rw [hn], fun _ => ⟨g, 0, rfl, h.lt, fun j u hu => by rw [Nat.zero_add]; exact h.c j u hu⟩⟩
set_option maxRecDepth 100000 in
set_option maxHeartbeats 4000000 in
theorem known18 (w : World) : Calls Tryd.prog 24 #[] w fun e w' => e = .returned (.bool true) ∧ Below w.heap.size w w' := by
  have HI := Lib.hid (st_new_in 1 0 4 w)
  have R3 : Hid (∀ W, _) := Lib.hid (fun W => rec_lit 3 W (by omega))
  have R5 : Hid (∀ W, _) := Lib.hid (fun W => rec_lit 5 W (by omega))
  have R6 : Hid (∀ W, _) := Lib.hid (fun W => rec_lit 6 W (by omega))
  have R8 : Hid (∀ W, _) := Lib.hid (fun W => rec_lit 8 W (by omega))
  have HTK : Hid (takeS 0 4 [] [recS 0 3, recS 0 5, recS 0 6, recS 0 8] = someR 0 5 2) := Lib.hid (by kernel_rfl)
  have HND : Hid (needM 4 4 0 6 = (5, true)) := Lib.hid (by kernel_rfl)
  go_enter Tryd.func24, Tryd.ntmps24
  go_wp2_with fail
  refine HI.out.mono ?_; rintro e w1 hr
  obtain ⟨bi, rfl, hbi, xi, k1⟩ := new_yes hr (by decide)
  have HXI := Lib.hid xi
  have HB1 := Lib.hid k1
  clear xi k1 hr HI
  go_wp2_with fail
  refine (st_new_out 0 1 4 w1).mono ?_; rintro e w2 hr
  obtain ⟨bo, rfl, hbo, xo, k2⟩ := new_yes hr (by decide)
  have HXO := Lib.hid xo
  have HXI2 := Lib.hid (HXI.out.below k2)
  have HB2 := Lib.hid (HB1.out.trans (k2.mono HB1.out.size))
  clear xo k2 hr HXI HB1
  go_wp2_with fail
  refine (R3.out w2).mono ?_; rintro e w3 ⟨g3, rfl, m3, k3⟩
  have HM3 := Lib.hid m3
  have HK3 := Lib.hid k3
  clear m3 k3 R3
  go_wp2_with fail
  refine (R5.out w3).mono ?_; rintro e w4 ⟨g5, rfl, m5, k4⟩
  have HM5 := Lib.hid m5
  have HM3b := Lib.hid (HM3.out.below k4)
  have HK4 := Lib.hid (HK3.out.trans (k4.mono HK3.out.size))
  clear m5 k4 R5 HM3 HK3
  go_wp2_with fail
  refine (R6.out w4).mono ?_; rintro e w5 ⟨g6, rfl, m6, k5⟩
  have HM6 := Lib.hid m6
  have HM3c := Lib.hid (HM3b.out.below k5)
  have HM5b := Lib.hid (HM5.out.below k5)
  have HK5 := Lib.hid (HK4.out.trans (k5.mono HK4.out.size))
  clear m6 k5 R6 HM3b HM5 HK4
  go_wp2_with fail
  refine (R8.out w5).mono ?_; rintro e w6 ⟨g8, rfl, m8, k6⟩
  have HK6 := Lib.hid (HK5.out.trans (k6.mono HK5.out.size))
  have z2 := HB2.out.size
  have zk := HK6.out.size
  have HTAKE : Hid (∀ cs : Array Value, cs.toList = rowM [Mr.mk (recS 0 3) (some ⟨g3, 0, none⟩) 1, Mr.mk (recS 0 5) (some ⟨g5, 0, none⟩) 1, Mr.mk (recS 0 6) (some ⟨g6, 0, none⟩) 1, Mr.mk (recS 0 8) (some ⟨g8, 0, none⟩) 1] →
      Calls Tryd.prog 40 #[.pointer (some ⟨bi, 0, none⟩), .slice (some ⟨w6.heap.size, 0, none⟩) 4 4] (w6.alloc (.cells cs 89)) fun e w' => TakeR 0 4 [recS 0 3, recS 0 5, recS 0 6, recS 0 8] (w6.alloc (.cells cs 89)) w' e) := Lib.hid (fun cs hcs => by
    have kA : Below w6.heap.size w6 (w6.alloc (.cells cs 89)) := (Below.refl _ _).alloc (Nat.le_refl _) _
    have CS : XB (w6.alloc (.cells cs 89)) w6.heap.size (rowM [Mr.mk (recS 0 3) (some ⟨g3, 0, none⟩) 1, Mr.mk (recS 0 5) (some ⟨g5, 0, none⟩) 1, Mr.mk (recS 0 6) (some ⟨g6, 0, none⟩) 1, Mr.mk (recS 0 8) (some ⟨g8, 0, none⟩) 1]) := hcs ▸ XB.new w6 cs _
    exact st_take bi 1 0 4 (some ⟨w6.heap.size, 0, none⟩) 4 [Mr.mk (recS 0 3) (some ⟨g3, 0, none⟩) 1, Mr.mk (recS 0 5) (some ⟨g5, 0, none⟩) 1, Mr.mk (recS 0 6) (some ⟨g6, 0, none⟩) 1, Mr.mk (recS 0 8) (some ⟨g8, 0, none⟩) 1] _ (HXI2.out.below (HK6.out.trans (kA.mono zk))) (rowAt_xb CS rfl) (fun m hm => by
      simp only [List.mem_cons, List.not_mem_nil, or_false] at hm
      rcases hm with rfl | rfl | rfl | rfl
      · exact (((HM3c.out.below k6).below kA).mono (fun _ _ _ => trivial))
      · exact (((HM5b.out.below k6).below kA).mono (fun _ _ _ => trivial))
      · exact (((HM6.out.below k6).below kA).mono (fun _ _ _ => trivial))
      · exact ((m8.below kA).mono (fun _ _ _ => trivial))) (by simp) (by omega))
  clear m8 k6 R8 HM3c HM5b HM6 HK5 HXI2
  go_wp2_with fail
  refine (HTAKE.out _ rfl).mono ?_; rintro e w8 ⟨v8, Z, rfl, hT, hZ⟩
  have hZ' : Z.map Mr.r = someR 0 5 2 := hZ.trans HTK.out
  have HZ := Lib.hid hZ'
  have hTb := hT.bel
  have kA8 : Below w6.heap.size w6 w8 := ((Below.refl w6.heap.size w6).alloc (Nat.le_refl _) _).trans (hTb.mono (by simp))
  have HTA := Lib.hid hT.at_
  have HTL := Lib.hid hT.rowAt
  obtain ⟨A8, c8, rfl⟩ := hT.shape
  have HXO8 := Lib.hid (HXO.out.below (HK6.out.trans (kA8.mono zk)))
  have HB8 := Lib.hid (HB2.out.trans ((HK6.out.trans (kA8.mono zk)).mono z2))
  clear hT hZ hZ' HTAKE HXO HB2 hTb kA8 HK6
  have HN := Lib.hid (st_need bo 0 1 4 4 0 6 w8 HXO8.out (by omega) (by omega))
  rw [HND.out] at HN
  go_wp2_with fail
  refine HN.out.mono ?_; rintro e w9 ⟨rfl, rfl⟩
  clear HN HXO8
  go_wp2_with fail
  refine (law_some 0 5 2 w8 (by omega) (by omega)).mono ?_; rintro e w10 ⟨v10, Y, rfl, hT10, hY⟩
  have k10 := hT10.bel
  have HRC := Lib.hid (law_recs18 _ v10 Z Y w10 (HTL.out.below k10) hT10.rowAt (fun m hm => (HTA.out m hm).below k10) hT10.at_ (fun m hm => by
    have := List.mem_map_of_mem (f := Mr.r) hm
    rw [HZ.out] at this
    obtain ⟨i, _, e⟩ := someR_mem this
    rw [e]
    exact (recS_by _ _).2) (fun m hm => by
    have := List.mem_map_of_mem (f := Mr.r) hm
    rw [HZ.out] at this
    obtain ⟨i, _, e⟩ := someR_mem this
    rw [e]
    exact (recS_by _ _).1) (fun m hm => by
    have := List.mem_map_of_mem (f := Mr.r) hm
    rw [hY] at this
    obtain ⟨i, _, e⟩ := someR_mem this
    rw [e]
    exact recS_by _ _) (by have := congrArg List.length HZ.out; rw [someR_len] at this; simp at this; omega))
  have HEQ : Hid (Z.map Mr.r = Y.map Mr.r) := Lib.hid (HZ.out.trans hY.symm)
  have HB10 := Lib.hid (HB8.out.trans (k10.mono HB8.out.size))
  obtain ⟨A10, c10, rfl⟩ := hT10.shape
  clear hT10 hY k10 HTA HTL HB8
  go_wp2_with fail
  refine HRC.out.mono ?_; rintro e w11 ⟨⟨b, rfl, hb⟩, k11⟩
  obtain rfl : b = true := hb.2 HEQ.out
  have HB11 := Lib.hid (HB10.out.trans (k11.mono HB10.out.size))
  clear k11 hb HRC
  go_wp2
  go_ret
  exact ⟨rfl, HB11.out⟩
end Go.Proofs.YtdffldlcbihjmaaDoor

/- stream: Done; messages (package meridianlaw18) of two rows of one message that are one (written by gen/strf.py). -/
namespace Go.Proofs.YtdffldlcbihjmaaDoor
open Go.RowKit Go.Sort

/-- A row of one message. -/
def Msg1 (base : Nat) (w : World) (v : Value) (f t : Int) (d : List Int) : Prop := ∃ B c g cap, base ≤ B ∧ base ≤ g ∧ v = .slice (some ⟨B, 0, none⟩) 1 c ∧ XB w B [.int .i64 f, .int .i64 t, .slice (some ⟨g, 0, none⟩) d.length cap] ∧ ByL w (some ⟨g, 0, none⟩) d ∧ d.length ≤ 1000000 ∧ d.length ≤ cap ∧ cap ≤ maxLen
theorem Msg1.below {base : Nat} {w w' : World} {v : Value} {f t : Int} {d : List Int} (h : Msg1 base w v f t d) (k : Below w.heap.size w w') : Msg1 base w' v f t d := by
  obtain ⟨B, c, g, cap, q1, q2, h1, h2, h3, h4⟩ := h
  exact ⟨B, c, g, cap, q1, q2, h1, h2.below k, h3.below k, h4⟩
theorem Msg1.only {base b : Nat} {w w' : World} {v : Value} {f t : Int} {d : List Int} (h : Msg1 base w v f t d) (k : Only b w w') (hb : b < base) : Msg1 base w' v f t d := by
  obtain ⟨B, c, g, cap, q1, q2, h1, h2, h3, h4⟩ := h
  exact ⟨B, c, g, cap, q1, q2, h1, h2.only k (by omega), h3.only k (fun ad had => by injection had with had; subst had; show g ≠ b; omega), h4⟩
theorem Msg1.mono {base base' : Nat} {w : World} {v : Value} {f t : Int} {d : List Int} (h : Msg1 base w v f t d) (hb : base' ≤ base) : Msg1 base' w v f t d := by
  obtain ⟨B, c, g, cap, q1, q2, h1⟩ := h
  exact ⟨B, c, g, cap, by omega, by omega, h1⟩
theorem Msg1.shape {base : Nat} {w : World} {v : Value} {f t : Int} {d : List Int} (h : Msg1 base w v f t d) : ∃ B c, v = .slice (some ⟨B, 0, none⟩) 1 c := by
  obtain ⟨B, c, g, cap, q1, q2, h1, _⟩ := h
  exact ⟨B, c, h1⟩
def doneM (a q : Int) : Int := max a (min q 1099511627776)
theorem doneM_bd {a q : Int} (h : 0 ≤ a ∧ a ≤ 1099511627776) : 0 ≤ doneM a q ∧ doneM a q ≤ 1099511627776 := by unfold doneM; omega
/-- The bytes of an ack. -/
def ackE (o a : Int) : List Int := frE (encW (wdOf 2 o a 0 0 0 0 []))
theorem ack_okW {o a : Int} (ho : 0 ≤ o ∧ o < 5) (ha : 0 ≤ a ∧ a ≤ 1099511627776) : okW (wdOf 2 o a 0 0 0 0 []) = true := by
  simp [okW, headW, bareW, wdOf, ho.1, ho.2, ha.1, ha.2]
/-- What Done tells. -/
def DoneRes (b : Nat) (f o a' : Int) (w w' : World) (e : Ending) : Prop := ∃ v, e = .returned v ∧ Msg1 w.heap.size w' v f o (ackE o a') ∧ StPost b (inC f o a') w w'
theorem done_fin {b : Nat} {f o z : Int} {w W1 w2 V : World} {g cap n : Nat} {D : List Int} (hD : ackE o z = D) (hO : Only b w W1) (h2 : Below W1.heap.size W1 w2) (hx : XB W1 b (inC f o z)) (hr : Row8 W1.heap.size w2 g cap n D) (hn : n ≤ 1000000)
    (hV : Below w2.heap.size w2 V) {B : Nat} (hBB : w2.heap.size ≤ B) (hB : XB V B [.int .i64 f, .int .i64 o, .slice (some ⟨g, 0, none⟩) n cap]) : DoneRes b f o z w V (.returned (.slice (some ⟨B, 0, none⟩) 1 1)) := by
  subst hD
  have hl := hr.len
  subst hl
  exact ⟨_, rfl, ⟨B, 1, g, cap, Nat.le_trans hO.size (Nat.le_trans h2.size hBB), Nat.le_trans hO.size hr.ge.1, rfl, hB, (hr.below hV).by_, hn, hr.cap_le.1, hr.cap_le.2⟩, (hx.below h2).below hV, hO.trans (Only.of_below (h2.trans (hV.mono h2.size)))⟩
set_option maxRecDepth 100000 in
set_option maxHeartbeats 4000000 in
theorem st_done (b : Nat) (f o a q : Int) (w : World) (h : XB w b (inC f o a)) (ho : 0 ≤ o ∧ o < 5) (ha : 0 ≤ a ∧ a ≤ 1099511627776) (ht : ∀ W, Only b w W → Nib W) :
    Calls Tryd.prog 43 #[.pointer (some ⟨b, 0, none⟩), .int .i64 q] w fun e w' => DoneRes b f o (doneM a q) w w' e := by
  have hz := doneM_bd (q := q) ha
  obtain ⟨z, hzz⟩ : ∃ z, doneM a q = z := ⟨_, rfl⟩
  rw [hzz] at hz ⊢
  have HQ3 : Hid (max a (min q 1099511627776) = z) := Lib.hid hzz
  clear hzz ha
  have c0 := h.c 0 _ rfl
  have c1 := h.c 1 _ rfl
  have c2 := h.c 2 _ rfl
  have f2 := h.fz 2
  have lt := h.lt
  obtain ⟨W1, hW1⟩ : ∃ W1, w.setCell ⟨b, 2, none⟩ (.int .i64 z) = W1 := ⟨_, rfl⟩
  have HX1 : Hid (XB W1 b (inC f o z)) := Lib.hid (by rw [← hW1]; exact h.set 2 (by simp) (.int .i64 z))
  have HO1 : Hid (Only b w W1) := Lib.hid (by rw [← hW1]; exact (Only.refl _ _).setB _)
  have HW1 := Lib.hid hW1
  obtain ⟨D, hD⟩ : ∃ D, ackE o z = D := ⟨_, rfl⟩
  obtain ⟨n, hn⟩ : ∃ n, 12 + (encW (wdOf 2 o z 0 0 0 0 [])).length = n := ⟨_, rfl⟩
  have HD := Lib.hid hD
  have HN : Hid (n ≤ 1000000) := Lib.hid (by have := encW_bd (ack_okW ho hz); omega)
  have HENC : Hid (∀ W, Only b w W → Calls Tryd.prog 13 #[wdV 2 o z 0 0 0 0 (.slice none 0 0)] W fun e w' => (∃ g cap, e = .returned (.tuple #[.slice (some ⟨g, 0, none⟩) n cap, .int .i64 0]) ∧ Row8 W.heap.size w' g cap n D) ∧ Below W.heap.size W w') := Lib.hid (fun W k => by
    subst hn hD
    exact wd_enc 2 o z 0 0 0 0 none 0 [] W (ht W k) ⟨_, _, rfl, fun h => absurd h (by simp)⟩ (fun _ h => by cases h) (fun _ h => by cases h) (by simp) (ack_okW ho hz))
  clear h ht ho hz hD hn hW1
  go_enter Tryd.func43, Tryd.ntmps43
  go_upto_region 4 with fail
  rw [HQ3.out, HW1.out]
  clear c0 c1 c2 f2 lt
  have lt := HX1.out.lt
  refine wp_region_held_drew (S := (fun w' => w'.cell? ⟨b, 1, none⟩ = some (.int .i64 o) ∧ w'.cell? ⟨b, 2, none⟩ = some (.int .i64 z))) (by kernel_rfl) ?_ (fun hHeld => ?_)
  · exact ⟨HX1.out.c 1 _ rfl, HX1.out.c 2 _ rfl⟩
  refine wpAnyH_take (i := 0) (v := ?_) rfl (by kernel_rfl) (by kernel_rfl) (by kernel_rfl) (fun _ _ _ h => h) (Or.inl ⟨by rfl, ?_⟩) (by assumption) ?_
  rotate_left
  · intro w' hSw; (try dsimp only at hSw); go_simp; (try with_reducible rfl)
  (try simp only [Act.put, List.setIfInBounds_toArray, List.set_cons_zero, List.set_cons_succ, List.getElem_toArray, List.getElem_cons_succ, List.getElem_cons_zero])
  refine wpAnyH_take (i := 1) (v := ?_) rfl (by kernel_rfl) (by kernel_rfl) (by kernel_rfl) (fun _ _ _ h => h) (Or.inl ⟨by rfl, ?_⟩) (by assumption) ?_
  rotate_left
  · intro w' hSw; (try dsimp only at hSw); go_simp; (try with_reducible rfl)
  (try simp only [Act.put, List.setIfInBounds_toArray, List.set_cons_zero, List.set_cons_succ, List.getElem_toArray, List.getElem_cons_succ, List.getElem_cons_zero])
  refine wpAnyH_take (i := 2) (v := ?_) rfl (by kernel_rfl) (by kernel_rfl) (by kernel_rfl) (fun _ _ _ h => h) (Or.inl ⟨by rfl, ?_⟩) (by assumption) ?_
  rotate_left
  · intro w' hSw; (try dsimp only at hSw); go_simp; (try with_reducible rfl)
  (try simp only [Act.put, List.setIfInBounds_toArray, List.set_cons_zero, List.set_cons_succ, List.getElem_toArray, List.getElem_cons_succ, List.getElem_cons_zero])
  refine wpAnyH_take (i := 3) (v := ?_) rfl (by kernel_rfl) (by kernel_rfl) (by kernel_rfl) (fun _ _ _ h => h) (Or.inl ⟨by rfl, ?_⟩) (by assumption) ?_
  rotate_left
  · intro w' hSw; (try dsimp only at hSw); go_simp; (try with_reducible rfl)
  (try simp only [Act.put, List.setIfInBounds_toArray, List.set_cons_zero, List.set_cons_succ, List.getElem_toArray, List.getElem_cons_succ, List.getElem_cons_zero])
  refine wpAnyH_take (i := 4) (v := ?_) rfl (by kernel_rfl) (by kernel_rfl) (by kernel_rfl) (fun _ _ _ h => h) (Or.inl ⟨by rfl, ?_⟩) (by assumption) ?_
  rotate_left
  · intro w' hSw; (try dsimp only at hSw); go_simp; (try with_reducible rfl)
  (try simp only [Act.put, List.setIfInBounds_toArray, List.set_cons_zero, List.set_cons_succ, List.getElem_toArray, List.getElem_cons_succ, List.getElem_cons_zero])
  refine wpAnyH_take (i := 5) (v := ?_) rfl (by kernel_rfl) (by kernel_rfl) (by kernel_rfl) (fun _ _ _ h => h) (Or.inl ⟨by rfl, ?_⟩) (by assumption) ?_
  rotate_left
  · intro w' hSw; (try dsimp only at hSw); go_simp; (try with_reducible rfl)
  (try simp only [Act.put, List.setIfInBounds_toArray, List.set_cons_zero, List.set_cons_succ, List.getElem_toArray, List.getElem_cons_succ, List.getElem_cons_zero])
  refine wpAnyH_take (i := 6) (v := ?_) rfl (by kernel_rfl) (by kernel_rfl) (by kernel_rfl) (fun _ _ _ h => h) (Or.inl ⟨by rfl, ?_⟩) (by assumption) ?_
  rotate_left
  · intro w' hSw; (try dsimp only at hSw); go_simp; (try with_reducible rfl)
  (try simp only [Act.put, List.setIfInBounds_toArray, List.set_cons_zero, List.set_cons_succ, List.getElem_toArray, List.getElem_cons_succ, List.getElem_cons_zero])
  refine wpAnyH_take (i := 7) (v := ?_) rfl (by kernel_rfl) (by kernel_rfl) (by kernel_rfl) (fun _ _ _ h => h) (Or.inl ⟨by rfl, ?_⟩) (by assumption) ?_
  rotate_left
  · intro w' hSw; (try dsimp only at hSw); go_simp; (try with_reducible rfl)
  (try simp only [Act.put, List.setIfInBounds_toArray, List.set_cons_zero, List.set_cons_succ, List.getElem_toArray, List.getElem_cons_succ, List.getElem_cons_zero])
  refine wpAnyH_take (i := 8) (v := ?_) rfl (by kernel_rfl) (by kernel_rfl) (by kernel_rfl) (fun _ _ _ h => h) (Or.inl ⟨by rfl, ?_⟩) (by assumption) ?_
  rotate_left
  · intro w' hSw; (try dsimp only at hSw); go_simp; (try with_reducible rfl)
  (try simp only [Act.put, List.setIfInBounds_toArray, List.set_cons_zero, List.set_cons_succ, List.getElem_toArray, List.getElem_cons_succ, List.getElem_cons_zero])
  refine wpAnyH_ready (rs := [9]) (by kernel_rfl) (by simp) ?_
  refine AllReadyH.cons rfl (fun K hK => ?_) AllReadyH.nil
  go_simp
  (go_at_call 13; refine (HENC.out _ HO1.out.drew).mono ?_; rintro e w2 ⟨⟨g, cap, rfl, hr⟩, k2⟩; have k2' : Below W1.heap.size W1 w2 := (Below.refl W1.heap.size W1).drew.trans k2; have HX2 := Lib.hid (HX1.out.below k2'); have HR2 : Hid (Row8 W1.heap.size w2 g cap n D) := Lib.hid hr; have HK2 : Hid (Below W1.heap.size W1 w2) := Lib.hid k2'; clear hr k2 k2')
  (try dsimp only)
  refine hK.out _ _ ?_ (fun hHeld => ?_)
  · exact ⟨HX2.out.c 1 _ rfl, HX2.out.c 2 _ rfl⟩
  clear hK K
  (try simp only [Act.put, List.setIfInBounds_toArray, List.set_cons_zero, List.set_cons_succ, List.getElem_toArray, List.getElem_cons_succ, List.getElem_cons_zero])
  refine wpAnyH_take (i := 10) (v := ?_) rfl (by kernel_rfl) (by kernel_rfl) (by kernel_rfl) (fun _ _ _ h => h) (Or.inl ⟨by rfl, ?_⟩) (by assumption) ?_
  rotate_left
  · intro w' hSw; (try dsimp only at hSw); go_simp; (try with_reducible rfl)
  (try simp only [Act.put, List.setIfInBounds_toArray, List.set_cons_zero, List.set_cons_succ, List.getElem_toArray, List.getElem_cons_succ, List.getElem_cons_zero])
  refine wpAnyH_take (i := 11) (v := ?_) rfl (by kernel_rfl) (by kernel_rfl) (by kernel_rfl) (fun _ _ _ h => h) (Or.inl ⟨by rfl, ?_⟩) (by assumption) ?_
  rotate_left
  · intro w' hSw; (try dsimp only at hSw); go_simp; (try with_reducible rfl)
  (try simp only [Act.put, List.setIfInBounds_toArray, List.set_cons_zero, List.set_cons_succ, List.getElem_toArray, List.getElem_cons_succ, List.getElem_cons_zero])
  refine wpAnyH_take (i := 12) (v := ?_) rfl (by kernel_rfl) (by kernel_rfl) (by kernel_rfl) (fun _ _ _ h => h) (Or.inl ⟨by rfl, ?_⟩) (by assumption) ?_
  rotate_left
  · intro w' hSw; (try dsimp only at hSw); go_simp; (try with_reducible rfl)
  (try simp only [Act.put, List.setIfInBounds_toArray, List.set_cons_zero, List.set_cons_succ, List.getElem_toArray, List.getElem_cons_succ, List.getElem_cons_zero])
  refine wpAnyH_take (i := 13) (v := ?_) rfl (by kernel_rfl) (by kernel_rfl) (by kernel_rfl) (fun _ _ _ h => h) (Or.inl ⟨by rfl, ?_⟩) (by assumption) ?_
  rotate_left
  · intro w' hSw; (try dsimp only at hSw); go_simp; (try with_reducible rfl)
  (try simp only [Act.put, List.setIfInBounds_toArray, List.set_cons_zero, List.set_cons_succ, List.getElem_toArray, List.getElem_cons_succ, List.getElem_cons_zero])
  refine wpAnyH_take (i := 14) (v := ?_) rfl (by kernel_rfl) (by kernel_rfl) (by kernel_rfl) (fun _ _ _ h => h) (Or.inl ⟨by rfl, ?_⟩) (by assumption) ?_
  rotate_left
  · intro w' hSw; (try dsimp only at hSw); go_simp; (try with_reducible rfl)
  (try simp only [Act.put, List.setIfInBounds_toArray, List.set_cons_zero, List.set_cons_succ, List.getElem_toArray, List.getElem_cons_succ, List.getElem_cons_zero])
  refine wpAnyH_done (by kernel_rfl) ?_ _
  clear hHeld lt
  have c0 := HX2.out.c 0 _ rfl
  have c1 := HX2.out.c 1 _ rfl
  have lt := HX2.out.lt
  go_wp2_with fail
  go_region
  go_wp2
  go_ret
  exact done_fin HD.out HO1.out HK2.out HX1.out HR2.out HN.out (by (repeat' (first | (with_reducible exact Below.refl _ _) | (with_reducible assumption) | (with_reducible refine Below.trans ?_ (Below.mono (by with_reducible assumption) ?_)) | (with_reducible refine Below.alloc ?_ ?_ _) | (with_reducible refine Below.setCell ?_ ?_ _) | (with_reducible refine below_drewN ?_ _) | (with_reducible refine Below.drew ?_) | go_size))) (Nat.le_refl _) ((XB.new w2 #[.int .i64 f, .int .i64 o, .slice (some ⟨g, 0, none⟩) n cap] 84).below (by (repeat' (first | (with_reducible exact Below.refl _ _) | (with_reducible assumption) | (with_reducible refine Below.trans ?_ (Below.mono (by with_reducible assumption) ?_)) | (with_reducible refine Below.alloc ?_ ?_ _) | (with_reducible refine Below.setCell ?_ ?_ _) | (with_reducible refine below_drewN ?_ _) | (with_reducible refine Below.drew ?_) | go_size))))

set_option maxRecDepth 100000 in
set_option maxHeartbeats 4000000 in
theorem law_messages (v v' : Value) (f t : Int) (d : List Int) (w : World) {base base' : Nat} (h : Msg1 base w v f t d) (h' : Msg1 base' w v' f t d) :
    Calls Tryd.prog 36 #[v, v'] w fun e w' => e = .returned (.bool true) ∧ Below w.heap.size w w' := by
  obtain ⟨B, c, g, cap, _, _, rfl, hx, hy, hl, _⟩ := h
  obtain ⟨B', c', g', cap', _, _, rfl, hx', hy', _, _⟩ := h'
  have HCON : Hid (∀ W, Below w.heap.size w W → Calls Tryd.prog 73 #[.slice (some ⟨g, 0, none⟩) d.length cap, .slice (some ⟨g', 0, none⟩) d.length cap'] W fun e w' => e = .returned (.bool true) ∧ Below W.heap.size W w') := Lib.hid (fun W k => (lsame18 (some ⟨g, 0, none⟩) d cap (some ⟨g', 0, none⟩) d cap' W hl hl (hy.below k) (hy'.below k)).mono fun e w' ⟨q1, q, q2⟩ => ⟨by rw [q1]; simp, by rw [q2]; exact drewN_below18 W q⟩)
  generalize d.length = n at *
  have x0 := fun d os => cell_regrown (hx.c 0 _ rfl) d os
  have x1 := fun d os => cell_regrown (hx.c 1 _ rfl) d os
  have x2 := fun d os => cell_regrown (hx.c 2 _ rfl) d os
  have y0 := fun d os => cell_regrown (hx'.c 0 _ rfl) d os
  have y1 := fun d os => cell_regrown (hx'.c 1 _ rfl) d os
  have y2 := fun d os => cell_regrown (hx'.c 2 _ rfl) d os
  have AC := Lib.hid fun (d' : Nat) (os : Array Obj) => Calls.regrown_of (HCON.out (grow (redrawn w d') os) (below_regrown w d' os))
  clear hx hx' hy hy' hl HCON
  go_enter Tryd.func36, Tryd.ntmps36
  go_wp2
  refine wp_loop_rounds 2 ?_
  rw [rounds_succ]
  go_wp2_with fail
  refine wp_region_quiet_below (by kernel_rfl) (by kernel_rfl) ?_
  repeat (go_big_quiet_step ((go_at_call 73; exact AC.out _ _)))
  refine wpQuiet_nil ?_
  intro _ hw'
  obtain ⟨⟨dq, osq⟩, hw''⟩ := hw'
  subst hw''
  have HQ := Lib.hid (below_regrown w dq osq)
  clear AC x0 x1 x2 y0 y1 y2
  generalize hgw : grow (redrawn w dq) osq = W2 at *
  clear hgw
  go_wp2
  rw [rounds_succ]
  go_wp2
  go_ret
  exact ⟨rfl, HQ.out⟩
end Go.Proofs.YtdffldlcbihjmaaDoor

/- stream, the reference: NewIn, Own, Done (written by gen/strh.py). -/
namespace Go.Proofs.YtdffldlcbihjmaaDoor
open Go.RowKit Go.Sort

def plB (a : Int) : Bool := decide (0 ≤ a) && decide (a < 5)
set_option maxHeartbeats 4000000 in
theorem ref_place (a : Int) (w : World) : Calls Tryd.prog 71 #[.int .i64 a] w fun e w' => e = .returned (.bool (plB a)) ∧ w = w' := by
  by_cases h1 : 0 ≤ a
  rotate_left
  · have e : plB a = false := by simp [plB, h1]
    rw [e]
    go_enter Tryd.func71, Tryd.ntmps71
    go_wp2
    go_ret
    exact ⟨rfl, rfl⟩
  by_cases h2 : a < 5
  · have e : plB a = true := by simp [plB, h1, h2]
    rw [e]
    go_enter Tryd.func71, Tryd.ntmps71
    go_wp2
    go_ret
    exact ⟨rfl, rfl⟩
  · have e : plB a = false := by simp [plB, h2]
    rw [e]
    go_enter Tryd.func71, Tryd.ntmps71
    go_wp2
    go_ret
    exact ⟨rfl, rfl⟩
theorem placesB_eq (f t : Int) : placesB f t = (plB f && (plB t && decide (f ≠ t))) := by
  simp only [placesB, plB]
  cases decide (0 ≤ f) <;> cases decide (f < 5) <;> cases decide (0 ≤ t) <;> cases decide (t < 5) <;> simp
set_option maxRecDepth 100000 in
set_option maxHeartbeats 4000000 in
theorem ref_new_in (f t a : Int) (w : World) : Calls Tryd.prog 39 #[.int .i64 f, .int .i64 t, .int .i64 a] w fun e w' => NewRes (inC f t a) (newOk f t a) w w' e := by
  have HP := Lib.hid (ref_place f)
  have HT := Lib.hid (ref_place t)
  have HE := placesB_eq f t
  cases hp : plB f
  · rw [hp] at HP HE
    have e : newOk f t a = false := by simp [newOk, HE]
    rw [e]
    clear e hp HE
    go_enter Tryd.func39, Tryd.ntmps39
    go_wp2_with (go_at_call 71; refine (HP.out _).mono ?_; rintro e w1 ⟨rfl, rfl⟩)
    go_ret2
    exact .inl ⟨rfl, rfl, Below.refl _ _⟩
  rw [hp] at HP HE
  cases hq : plB t
  · rw [hq] at HT HE
    have e : newOk f t a = false := by simp [newOk, HE]
    rw [e]
    clear e hp HE hq
    go_enter Tryd.func39, Tryd.ntmps39
    go_wp2_with (go_at_call 71; first | (refine (HP.out _).mono ?_; rintro e w1 ⟨rfl, rfl⟩) | (refine (HT.out _).mono ?_; rintro e w1 ⟨rfl, rfl⟩))
    go_ret2
    exact .inl ⟨rfl, rfl, Below.refl _ _⟩
  rw [hq] at HT HE
  by_cases hx : f = t
  · have e : newOk f t a = false := by
      unfold newOk
      rw [HE, decide_eq_false (fun q => q hx)]
      rfl
    rw [e]
    have t1 : (f == t) = true := by simpa using hx
    clear e hp HE hq hx
    go_enter Tryd.func39, Tryd.ntmps39
    go_wp2_with (go_at_call 71; first | (refine (HP.out _).mono ?_; rintro e w1 ⟨rfl, rfl⟩) | (refine (HT.out _).mono ?_; rintro e w1 ⟨rfl, rfl⟩))
    go_ret2
    exact .inl ⟨rfl, rfl, Below.refl _ _⟩
  have t1 : (f == t) = false := by simpa using hx
  by_cases h1 : 0 ≤ a
  rotate_left
  · have e : newOk f t a = false := by simp [newOk, h1]
    rw [e]
    have h1' : a < 0 := by omega
    clear e hp h1 HE hq hx
    go_enter Tryd.func39, Tryd.ntmps39
    go_wp2_with (go_at_call 71; first | (refine (HP.out _).mono ?_; rintro e w1 ⟨rfl, rfl⟩) | (refine (HT.out _).mono ?_; rintro e w1 ⟨rfl, rfl⟩))
    go_ret2
    exact .inl ⟨rfl, rfl, Below.refl _ _⟩
  have h1' : ¬ a < 0 := by omega
  have h1d : decide (a < 0) = false := decide_eq_false h1'
  by_cases h2 : a ≤ 1099511627776
  rotate_left
  · have e : newOk f t a = false := by simp [newOk, h1, h2]
    rw [e]
    have h2' : 1099511627776 < a := by omega
    clear e hp h1 h2 HE hq hx
    go_enter Tryd.func39, Tryd.ntmps39
    go_wp2_with (go_at_call 71; first | (refine (HP.out _).mono ?_; rintro e w1 ⟨rfl, rfl⟩) | (refine (HT.out _).mono ?_; rintro e w1 ⟨rfl, rfl⟩))
    go_ret2
    exact .inl ⟨rfl, rfl, Below.refl _ _⟩
  · have e : newOk f t a = true := by simp [newOk, h1, h2, HE, hx]
    rw [e]
    have h2' : ¬ (1099511627776 : Int) < a := by omega
    have h2d : decide ((1099511627776 : Int) < a) = false := decide_eq_false h2'
    clear e hp h1 h2 HE hq hx
    go_enter Tryd.func39, Tryd.ntmps39
    go_wp2_with (go_at_call 71; first | (refine (HP.out _).mono ?_; rintro e w1 ⟨rfl, rfl⟩) | (refine (HT.out _).mono ?_; rintro e w1 ⟨rfl, rfl⟩))
    go_ret2
    exact .inr ⟨rfl, _, rfl, Nat.le_refl _, XB.new w _ _, by (repeat' (first | (with_reducible exact Below.refl _ _) | (with_reducible assumption) | (with_reducible refine Below.trans ?_ (Below.mono (by with_reducible assumption) ?_)) | (with_reducible refine Below.alloc ?_ ?_ _) | (with_reducible refine Below.setCell ?_ ?_ _) | (with_reducible refine below_drewN ?_ _) | (with_reducible refine Below.drew ?_) | go_size))⟩
set_option maxRecDepth 100000 in
set_option maxHeartbeats 4000000 in
theorem ref_done (b : Nat) (f o a q : Int) (w : World) (h : XB w b (inC f o a)) (ho : 0 ≤ o ∧ o < 5) (ha : 0 ≤ a ∧ a ≤ 1099511627776) :
    Calls Tryd.prog 44 #[.pointer (some ⟨b, 0, none⟩), .int .i64 q] w fun e w' => DoneRes b f o (doneM a q) w w' e := by
  have hz := doneM_bd (q := q) ha
  obtain ⟨z, hzz⟩ : ∃ z, doneM a q = z := ⟨_, rfl⟩
  rw [hzz] at hz ⊢
  have HQ3 : Hid (max a (min q 1099511627776) = z) := Lib.hid hzz
  clear hzz ha
  have c0 := h.c 0 _ rfl
  have c1 := h.c 1 _ rfl
  have c2 := h.c 2 _ rfl
  have f2 := h.fz 2
  have lt := h.lt
  obtain ⟨W1, hW1⟩ : ∃ W1, w.setCell ⟨b, 2, none⟩ (.int .i64 z) = W1 := ⟨_, rfl⟩
  have HX1 : Hid (XB W1 b (inC f o z)) := Lib.hid (by rw [← hW1]; exact h.set 2 (by simp) (.int .i64 z))
  have HO1 : Hid (Only b w W1) := Lib.hid (by rw [← hW1]; exact (Only.refl _ _).setB _)
  have HW1 := Lib.hid hW1
  obtain ⟨D, hD⟩ : ∃ D, ackE o z = D := ⟨_, rfl⟩
  obtain ⟨n, hn⟩ : ∃ n, 12 + (encW (wdOf 2 o z 0 0 0 0 [])).length = n := ⟨_, rfl⟩
  have HD := Lib.hid hD
  have HN : Hid (n ≤ 1000000) := Lib.hid (by have := encW_bd (ack_okW ho hz); omega)
  have HENC : Hid (∀ W, Calls Tryd.prog 14 #[wdV 2 o z 0 0 0 0 (.slice none 0 0)] W fun e w' => (∃ g cap, e = .returned (.tuple #[.slice (some ⟨g, 0, none⟩) n cap, .int .i64 0]) ∧ Row8 W.heap.size w' g cap n D) ∧ Below W.heap.size W w') := Lib.hid (fun W => by
    subst hn hD
    exact rwd_enc 2 o z 0 0 0 0 none 0 [] W ⟨_, _, rfl, fun h => absurd h (by simp)⟩ (fun _ h => by cases h) (fun _ h => by cases h) (by simp) (ack_okW ho hz))
  clear h ho hz hD hn hW1
  go_enter Tryd.func44, Tryd.ntmps44
  go_upto_region 2 with fail
  rw [HQ3.out, HW1.out]
  clear c0 c1 c2 f2 lt
  have lt := HX1.out.lt
  refine wp_region_held_drew (S := (fun w' => w'.cell? ⟨b, 1, none⟩ = some (.int .i64 o) ∧ w'.cell? ⟨b, 2, none⟩ = some (.int .i64 z))) (by kernel_rfl) ?_ (fun hHeld => ?_)
  · exact ⟨HX1.out.c 1 _ rfl, HX1.out.c 2 _ rfl⟩
  refine wpAnyH_take (i := 0) (v := ?_) rfl (by kernel_rfl) (by kernel_rfl) (by kernel_rfl) (fun _ _ _ h => h) (Or.inl ⟨by rfl, ?_⟩) (by assumption) ?_
  rotate_left
  · intro w' hSw; (try dsimp only at hSw); go_simp; (try with_reducible rfl)
  (try simp only [Act.put, List.setIfInBounds_toArray, List.set_cons_zero, List.set_cons_succ, List.getElem_toArray, List.getElem_cons_succ, List.getElem_cons_zero])
  refine wpAnyH_take (i := 1) (v := ?_) rfl (by kernel_rfl) (by kernel_rfl) (by kernel_rfl) (fun _ _ _ h => h) (Or.inl ⟨by rfl, ?_⟩) (by assumption) ?_
  rotate_left
  · intro w' hSw; (try dsimp only at hSw); go_simp; (try with_reducible rfl)
  (try simp only [Act.put, List.setIfInBounds_toArray, List.set_cons_zero, List.set_cons_succ, List.getElem_toArray, List.getElem_cons_succ, List.getElem_cons_zero])
  refine wpAnyH_take (i := 2) (v := ?_) rfl (by kernel_rfl) (by kernel_rfl) (by kernel_rfl) (fun _ _ _ h => h) (Or.inl ⟨by rfl, ?_⟩) (by assumption) ?_
  rotate_left
  · intro w' hSw; (try dsimp only at hSw); go_simp; (try with_reducible rfl)
  (try simp only [Act.put, List.setIfInBounds_toArray, List.set_cons_zero, List.set_cons_succ, List.getElem_toArray, List.getElem_cons_succ, List.getElem_cons_zero])
  refine wpAnyH_take (i := 3) (v := ?_) rfl (by kernel_rfl) (by kernel_rfl) (by kernel_rfl) (fun _ _ _ h => h) (Or.inl ⟨by rfl, ?_⟩) (by assumption) ?_
  rotate_left
  · intro w' hSw; (try dsimp only at hSw); go_simp; (try with_reducible rfl)
  (try simp only [Act.put, List.setIfInBounds_toArray, List.set_cons_zero, List.set_cons_succ, List.getElem_toArray, List.getElem_cons_succ, List.getElem_cons_zero])
  refine wpAnyH_take (i := 4) (v := ?_) rfl (by kernel_rfl) (by kernel_rfl) (by kernel_rfl) (fun _ _ _ h => h) (Or.inl ⟨by rfl, ?_⟩) (by assumption) ?_
  rotate_left
  · intro w' hSw; (try dsimp only at hSw); go_simp; (try with_reducible rfl)
  (try simp only [Act.put, List.setIfInBounds_toArray, List.set_cons_zero, List.set_cons_succ, List.getElem_toArray, List.getElem_cons_succ, List.getElem_cons_zero])
  refine wpAnyH_take (i := 5) (v := ?_) rfl (by kernel_rfl) (by kernel_rfl) (by kernel_rfl) (fun _ _ _ h => h) (Or.inl ⟨by rfl, ?_⟩) (by assumption) ?_
  rotate_left
  · intro w' hSw; (try dsimp only at hSw); go_simp; (try with_reducible rfl)
  (try simp only [Act.put, List.setIfInBounds_toArray, List.set_cons_zero, List.set_cons_succ, List.getElem_toArray, List.getElem_cons_succ, List.getElem_cons_zero])
  refine wpAnyH_take (i := 6) (v := ?_) rfl (by kernel_rfl) (by kernel_rfl) (by kernel_rfl) (fun _ _ _ h => h) (Or.inl ⟨by rfl, ?_⟩) (by assumption) ?_
  rotate_left
  · intro w' hSw; (try dsimp only at hSw); go_simp; (try with_reducible rfl)
  (try simp only [Act.put, List.setIfInBounds_toArray, List.set_cons_zero, List.set_cons_succ, List.getElem_toArray, List.getElem_cons_succ, List.getElem_cons_zero])
  refine wpAnyH_take (i := 7) (v := ?_) rfl (by kernel_rfl) (by kernel_rfl) (by kernel_rfl) (fun _ _ _ h => h) (Or.inl ⟨by rfl, ?_⟩) (by assumption) ?_
  rotate_left
  · intro w' hSw; (try dsimp only at hSw); go_simp; (try with_reducible rfl)
  (try simp only [Act.put, List.setIfInBounds_toArray, List.set_cons_zero, List.set_cons_succ, List.getElem_toArray, List.getElem_cons_succ, List.getElem_cons_zero])
  refine wpAnyH_take (i := 8) (v := ?_) rfl (by kernel_rfl) (by kernel_rfl) (by kernel_rfl) (fun _ _ _ h => h) (Or.inl ⟨by rfl, ?_⟩) (by assumption) ?_
  rotate_left
  · intro w' hSw; (try dsimp only at hSw); go_simp; (try with_reducible rfl)
  (try simp only [Act.put, List.setIfInBounds_toArray, List.set_cons_zero, List.set_cons_succ, List.getElem_toArray, List.getElem_cons_succ, List.getElem_cons_zero])
  refine wpAnyH_ready (rs := [9]) (by kernel_rfl) (by simp) ?_
  refine AllReadyH.cons rfl (fun K hK => ?_) AllReadyH.nil
  go_simp
  (go_at_call 14; refine (HENC.out _).mono ?_; rintro e w2 ⟨⟨g, cap, rfl, hr⟩, k2⟩; have k2' : Below W1.heap.size W1 w2 := (Below.refl W1.heap.size W1).drew.trans k2; have HX2 := Lib.hid (HX1.out.below k2'); have HR2 : Hid (Row8 W1.heap.size w2 g cap n D) := Lib.hid hr; have HK2 : Hid (Below W1.heap.size W1 w2) := Lib.hid k2'; clear hr k2 k2')
  (try dsimp only)
  refine hK.out _ _ ?_ (fun hHeld => ?_)
  · exact ⟨HX2.out.c 1 _ rfl, HX2.out.c 2 _ rfl⟩
  clear hK K
  (try simp only [Act.put, List.setIfInBounds_toArray, List.set_cons_zero, List.set_cons_succ, List.getElem_toArray, List.getElem_cons_succ, List.getElem_cons_zero])
  refine wpAnyH_take (i := 10) (v := ?_) rfl (by kernel_rfl) (by kernel_rfl) (by kernel_rfl) (fun _ _ _ h => h) (Or.inl ⟨by rfl, ?_⟩) (by assumption) ?_
  rotate_left
  · intro w' hSw; (try dsimp only at hSw); go_simp; (try with_reducible rfl)
  (try simp only [Act.put, List.setIfInBounds_toArray, List.set_cons_zero, List.set_cons_succ, List.getElem_toArray, List.getElem_cons_succ, List.getElem_cons_zero])
  refine wpAnyH_take (i := 11) (v := ?_) rfl (by kernel_rfl) (by kernel_rfl) (by kernel_rfl) (fun _ _ _ h => h) (Or.inl ⟨by rfl, ?_⟩) (by assumption) ?_
  rotate_left
  · intro w' hSw; (try dsimp only at hSw); go_simp; (try with_reducible rfl)
  (try simp only [Act.put, List.setIfInBounds_toArray, List.set_cons_zero, List.set_cons_succ, List.getElem_toArray, List.getElem_cons_succ, List.getElem_cons_zero])
  refine wpAnyH_take (i := 12) (v := ?_) rfl (by kernel_rfl) (by kernel_rfl) (by kernel_rfl) (fun _ _ _ h => h) (Or.inl ⟨by rfl, ?_⟩) (by assumption) ?_
  rotate_left
  · intro w' hSw; (try dsimp only at hSw); go_simp; (try with_reducible rfl)
  (try simp only [Act.put, List.setIfInBounds_toArray, List.set_cons_zero, List.set_cons_succ, List.getElem_toArray, List.getElem_cons_succ, List.getElem_cons_zero])
  refine wpAnyH_take (i := 13) (v := ?_) rfl (by kernel_rfl) (by kernel_rfl) (by kernel_rfl) (fun _ _ _ h => h) (Or.inl ⟨by rfl, ?_⟩) (by assumption) ?_
  rotate_left
  · intro w' hSw; (try dsimp only at hSw); go_simp; (try with_reducible rfl)
  (try simp only [Act.put, List.setIfInBounds_toArray, List.set_cons_zero, List.set_cons_succ, List.getElem_toArray, List.getElem_cons_succ, List.getElem_cons_zero])
  refine wpAnyH_take (i := 14) (v := ?_) rfl (by kernel_rfl) (by kernel_rfl) (by kernel_rfl) (fun _ _ _ h => h) (Or.inl ⟨by rfl, ?_⟩) (by assumption) ?_
  rotate_left
  · intro w' hSw; (try dsimp only at hSw); go_simp; (try with_reducible rfl)
  (try simp only [Act.put, List.setIfInBounds_toArray, List.set_cons_zero, List.set_cons_succ, List.getElem_toArray, List.getElem_cons_succ, List.getElem_cons_zero])
  refine wpAnyH_done (by kernel_rfl) ?_ _
  clear hHeld lt
  have c0 := HX2.out.c 0 _ rfl
  have c1 := HX2.out.c 1 _ rfl
  have lt := HX2.out.lt
  go_wp2_with fail
  go_region
  go_wp2
  go_ret
  exact done_fin HD.out HO1.out HK2.out HX1.out HR2.out HN.out (by (repeat' (first | (with_reducible exact Below.refl _ _) | (with_reducible assumption) | (with_reducible refine Below.trans ?_ (Below.mono (by with_reducible assumption) ?_)) | (with_reducible refine Below.alloc ?_ ?_ _) | (with_reducible refine Below.setCell ?_ ?_ _) | (with_reducible refine below_drewN ?_ _) | (with_reducible refine Below.drew ?_) | go_size))) (Nat.le_refl _) ((XB.new w2 #[.int .i64 f, .int .i64 o, .slice (some ⟨g, 0, none⟩) n cap] 84).below (by (repeat' (first | (with_reducible exact Below.refl _ _) | (with_reducible assumption) | (with_reducible refine Below.trans ?_ (Below.mono (by with_reducible assumption) ?_)) | (with_reducible refine Below.alloc ?_ ?_ _) | (with_reducible refine Below.setCell ?_ ?_ _) | (with_reducible refine below_drewN ?_ _) | (with_reducible refine Below.drew ?_) | go_size))))
end Go.Proofs.YtdffldlcbihjmaaDoor

