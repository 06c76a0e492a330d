/- wire.Encode (written by gen/wdenc.py). -/
import Derived.Test.YtdffldlcbihjmaaDoorWdIs2
import Derived.Test.YtdffldlcbihjmaaDoorFrEnc
set_option linter.unusedSimpArgs false
set_option linter.unusedVariables false
namespace Go.Proofs.YtdffldlcbihjmaaDoor
open Go.RowKit Go.Sort

theorem Row8.base {base b2 : Nat} {w : World} {g cap m : Nat} {l : List Int} (h : Row8 base w g cap m l) (hb : b2 ≤ base) : Row8 b2 w g cap m l := ⟨own_base hb h.own, h.len⟩
/-- A word in the block behind w, and a writer. -/
structure St8 (w W : World) (wb : Nat) (v : Value) (l : List Int) (k o s m1 c1 m2 c2 : Int) (vr : Value) : Prop where
  wr : Wr W wb v l
  x : Wd8 W w.heap.size k o s m1 c1 m2 c2 vr
  bel : Below w.heap.size w W
  ge : ∀ i, Foot wb v i → w.heap.size < i
theorem St8.below {w W W' : World} {wb : Nat} {v : Value} {l : List Int} {k o s m1 c1 m2 c2 : Int} {vr : Value} (h : St8 w W wb v l k o s m1 c1 m2 c2 vr) (q : Below W.heap.size W W') : St8 w W' wb v l k o s m1 c1 m2 c2 vr :=
  ⟨h.wr.below q, h.x.below q, h.bel.trans (q.mono h.bel.size), h.ge⟩
theorem St8.step {w W W' : World} {wb : Nat} {v v' : Value} {l l' : List Int} {k o s m1 c1 m2 c2 : Int} {vr : Value} (h : St8 w W wb v l k o s m1 c1 m2 c2 vr) (q : WrPost wb v l' W W' v') : St8 w W' wb v' l' k o s m1 c1 m2 c2 vr := by
  refine ⟨q.wr, h.x.but q.but (fun hf => absurd (h.ge _ hf) (Nat.lt_irrefl _)), h.bel.trans (q.but.below (fun i hi => Nat.le_of_lt (h.ge i hi)) h.bel.size), fun i hi => ?_⟩
  rcases hi with rfl | hi
  · exact h.ge _ (.inl rfl)
  · rcases q.fresh i hi with r | r
    · exact h.ge i (.inr r)
    · exact Nat.lt_of_lt_of_le h.x.lt r
theorem encW_nums (k o s m1 c1 m2 c2 : Int) (L : List Mr) : encW (wdOf k o s m1 c1 m2 c2 L) = numsE [k, o, s] ++ (if k = 1 then lsV (L.map Mr.r) else if k = 3 then numsE [m1, c1, m2, c2] else []) := rfl
set_option maxRecDepth 100000 in
set_option maxHeartbeats 4000000 in
theorem wd_enc_no (k o s m1 c1 m2 c2 : Int) (A : Option Addr) (c : Nat) (L : List Mr) (w : World) (hrow : RowAt w (.slice A L.length c) L) (hkb : ∀ m ∈ L, isBy m.r.key) (hl : L.length ≤ 100000) (h : okW (wdOf k o s m1 c1 m2 c2 L) = false) :
    Calls Tryd.prog 13 #[wdV k o s m1 c1 m2 c2 (.slice A L.length c)] w fun e w' => e = .returned (.tuple #[.slice none 0 0, .int .i64 1]) ∧ Below w.heap.size w w' := by
  have hb0 : Below w.heap.size w (w.alloc (.cells (wdC k o s m1 c1 m2 c2 (.slice A L.length c)) 26)) := by (repeat' (first | (with_reducible exact Below.refl _ _) | (with_reducible assumption) | (with_reducible refine Below.trans ?_ (Below.mono (by with_reducible assumption) ?_)) | (with_reducible refine Below.alloc ?_ ?_ _) | (with_reducible refine Below.setCell ?_ ?_ _) | (with_reducible refine below_drewN ?_ _) | (with_reducible refine Below.drew ?_) | go_size))
  have HI := Lib.hid (wd_is k o s m1 c1 m2 c2 A c L _ (hrow.below hb0) hkb hl)
  rw [h] at HI
  have HB0 := Lib.hid hb0
  clear h hrow hkb hl hb0
  go_enter Tryd.func13, Tryd.ntmps13
  go_wp2_with fail
  refine HI.out.mono ?_; rintro e w1 ⟨rfl, k1⟩
  have HB1 := Lib.hid (HB0.out.trans (k1.mono HB0.out.size))
  clear k1 HI
  go_wp2
  go_ret2
  exact ⟨rfl, HB1.out⟩
/-- A word's bytes, as they are told. -/
def EncRes (W : Wd) (w w' : World) (e : Ending) : Prop := ∃ g2 cap2, e = .returned (.tuple #[.slice (some ⟨g2, 0, none⟩) (12 + (encW W).length) cap2, .int .i64 0]) ∧ Row8 w.heap.size w' g2 cap2 (12 + (encW W).length) (frE (encW W))
set_option maxRecDepth 100000 in
set_option maxHeartbeats 4000000 in
theorem wd_enc_2 (o s m1 c1 m2 c2 : Int) (A : Option Addr) (c : Nat) (L : List Mr) (w : World) (ht : Nib w) (hrow : RowAt w (.slice A L.length c) L) (hat : ∀ m ∈ L, m.At (fun _ => True) w) (hkb : ∀ m ∈ L, isBy m.r.key ∧ isBy m.r.val) (hl : L.length ≤ 100000) (h : okW (wdOf 2 o s m1 c1 m2 c2 L) = true) :
    Calls Tryd.prog 13 #[wdV 2 o s m1 c1 m2 c2 (.slice A L.length c)] w fun e w' => EncRes (wdOf 2 o s m1 c1 m2 c2 L) w w' e ∧ Below w.heap.size w w' := by
  have hb0 : Below w.heap.size w (w.alloc (.cells (wdC 2 o s m1 c1 m2 c2 (.slice A L.length c)) 26)) := by (repeat' (first | (with_reducible exact Below.refl _ _) | (with_reducible assumption) | (with_reducible refine Below.trans ?_ (Below.mono (by with_reducible assumption) ?_)) | (with_reducible refine Below.alloc ?_ ?_ _) | (with_reducible refine Below.setCell ?_ ?_ _) | (with_reducible refine below_drewN ?_ _) | (with_reducible refine Below.drew ?_) | go_size))
  have HI := Lib.hid (wd_is 2 o s m1 c1 m2 c2 A c L _ (hrow.below hb0) (fun m hm => (hkb m hm).1) hl)
  rw [h] at HI
  have X0 := Lib.hid (Wd8.new w 26 2 o s m1 c1 m2 c2 (.slice A L.length c))
  have HB0 := Lib.hid hb0
  have HBD := Lib.hid (encW_bd h)
  have HBY : Hid (isBy (encW (wdOf 2 o s m1 c1 m2 c2 L))) := Lib.hid (encW_by (fun r hr => by
    obtain ⟨m, hm, rfl⟩ := List.mem_map.1 hr
    exact hkb m hm))
  have HT := Lib.hid (fun (W : World) (q : Below w.heap.size w W) => ht.below q)
  have hh := headW_bd (okW_kind h).1
  have HZ : Hid (∀ x ∈ [(2 : Int), o, s], 0 ≤ x ∧ x ≤ 4611686018427387904) := Lib.hid (by
    have q : 0 ≤ o ∧ o < 5 ∧ 0 ≤ s ∧ s ≤ 1099511627776 := hh
    intro x hx
    simp at hx
    rcases hx with rfl | rfl | rfl <;> omega)
  have HZL := Lib.hid (numsE_len _ HZ.out)
  clear ht h hb0 hrow hat hkb hl hh
  go_enter Tryd.func13, Tryd.ntmps13
  go_wp2_with fail
  refine HI.out.mono ?_; rintro e w1 ⟨rfl, k1⟩
  have hb1 := HB0.out.trans (k1.mono HB0.out.size)
  have x1 := X0.out.below k1
  have S0 : St8 w (w1.alloc (.cells #[.slice none 0 0] 96)) w1.heap.size (.slice none 0 0) [] 2 o s m1 c1 m2 c2 (.slice A L.length c) :=
    ⟨Wr.new w1 _, x1.below ((Below.refl _ _).alloc (Nat.le_refl _) _), hb1.alloc hb1.size _, fun i hi => by
      rcases hi with rfl | hi
      · exact x1.lt
      · simp [Value.ownBlock] at hi⟩
  have S1 := S0.below ((Below.refl _ _).alloc (Nat.le_refl _) (.cells #[.int .i64 2, .int .i64 o, .int .i64 s] 3))
  obtain ⟨y0, y1, y2, y3, y4, y5, y6, y7, ylt⟩ := x1
  have HC := Lib.hid (wr_nums w1.heap.size (w1.heap.size + 1) 3 (.slice none 0 0) [] [2, o, s] _ S1.wr (by rintro (hk | hk) <;> first | omega | simp [Value.ownBlock] at hk) (by simp) (by intro j q; rcases (show j = 0 ∨ j = 1 ∨ j = 2 from by simp at q; omega) with rfl | rfl | rfl <;> simp) HZ.out (by simp) (by have := HZL.out; simp only [List.nil_append]; simp at this; omega))
  have HS1 := Lib.hid S1
  clear S0 S1 k1 hb1 HI X0 HB0
  go_wp2_with fail
  refine HC.out.mono ?_; rintro e w2 ⟨rfl, v2, hw2⟩
  have hs2 := HS1.out.step hw2
  rw [List.nil_append] at hs2
  have HS2 := Lib.hid hs2
  clear hw2 HC HS1 y0 y1 y2 y3 y4 y5 y6 y7 ylt
  obtain ⟨y0, y1, y2, y3, y4, y5, y6, y7, ylt⟩ := hs2.x
  have hwl := hs2.wr.lt
  clear hs2
  have HEW : Hid (numsE [(2 : Int), o, s] = encW (wdOf 2 o s m1 c1 m2 c2 L)) := Lib.hid (by rw [encW_nums, if_neg (by decide), if_neg (by decide), List.append_nil])
  have hS := HS2.out
  rw [HEW.out] at hS
  have HSE := Lib.hid hS
  have HO := Lib.hid (wr_out w1.heap.size v2 _ _ hS.wr (by have := HBD.out; omega))
  clear hS
  go_wp2_with fail
  refine HO.out.mono ?_; rintro e w5 ⟨⟨g, cap, rfl, hown⟩, k5⟩
  have s5 := HSE.out.below k5
  have kA : Below w5.heap.size w5 (w5.alloc (.cells #[.slice (some ⟨g, 0, none⟩) (encW (wdOf 2 o s m1 c1 m2 c2 L)).length cap] 28)) := (Below.refl _ _).alloc (Nat.le_refl _) _
  have HBA := Lib.hid (s5.bel.trans (kA.mono s5.bel.size))
  obtain ⟨A5, c5, e5, hy5, _⟩ := Own8.bytes hown
  obtain ⟨rfl, rfl⟩ : some (⟨g, 0, none⟩ : Addr) = A5 ∧ cap = c5 := by injection e5 with q1 q2 q3; exact ⟨q1, q3⟩
  have HFE := Lib.hid (fr_encode w5.heap.size 1 cap (some ⟨g, 0, none⟩) (encW (wdOf 2 o s m1 c1 m2 c2 L)) _ (HT.out _ HBA.out) (by simp) (by simp) (hy5.below kA) HBY.out HBD.out.1 (by have := HBD.out; omega))
  have hw5 : w.heap.size ≤ w5.heap.size := s5.bel.size
  clear hown k5 s5 kA hy5 HO HSE
  go_wp2_with fail
  refine HFE.out.mono ?_; rintro e w6 ⟨⟨g6, cap6, rfl, hr6⟩, k6⟩
  have HB6 := Lib.hid (HBA.out.trans (k6.mono HBA.out.size))
  have HR6 := Lib.hid (hr6.base (b2 := w.heap.size) (by simp; omega))
  clear hr6 k6 HFE
  go_wp2
  go_ret2
  exact ⟨⟨g6, cap6, rfl, HR6.out⟩, HB6.out⟩
set_option maxRecDepth 100000 in
set_option maxHeartbeats 4000000 in
theorem wd_enc_3 (o s m1 c1 m2 c2 : Int) (A : Option Addr) (c : Nat) (L : List Mr) (w : World) (ht : Nib w) (hrow : RowAt w (.slice A L.length c) L) (hat : ∀ m ∈ L, m.At (fun _ => True) w) (hkb : ∀ m ∈ L, isBy m.r.key ∧ isBy m.r.val) (hl : L.length ≤ 100000) (h : okW (wdOf 3 o s m1 c1 m2 c2 L) = true) :
    Calls Tryd.prog 13 #[wdV 3 o s m1 c1 m2 c2 (.slice A L.length c)] w fun e w' => EncRes (wdOf 3 o s m1 c1 m2 c2 L) w w' e ∧ Below w.heap.size w w' := by
  have hb0 : Below w.heap.size w (w.alloc (.cells (wdC 3 o s m1 c1 m2 c2 (.slice A L.length c)) 26)) := by (repeat' (first | (with_reducible exact Below.refl _ _) | (with_reducible assumption) | (with_reducible refine Below.trans ?_ (Below.mono (by with_reducible assumption) ?_)) | (with_reducible refine Below.alloc ?_ ?_ _) | (with_reducible refine Below.setCell ?_ ?_ _) | (with_reducible refine below_drewN ?_ _) | (with_reducible refine Below.drew ?_) | go_size))
  have HI := Lib.hid (wd_is 3 o s m1 c1 m2 c2 A c L _ (hrow.below hb0) (fun m hm => (hkb m hm).1) hl)
  rw [h] at HI
  have X0 := Lib.hid (Wd8.new w 26 3 o s m1 c1 m2 c2 (.slice A L.length c))
  have HB0 := Lib.hid hb0
  have HBD := Lib.hid (encW_bd h)
  have HBY : Hid (isBy (encW (wdOf 3 o s m1 c1 m2 c2 L))) := Lib.hid (encW_by (fun r hr => by
    obtain ⟨m, hm, rfl⟩ := List.mem_map.1 hr
    exact hkb m hm))
  have HT := Lib.hid (fun (W : World) (q : Below w.heap.size w W) => ht.below q)
  have hh := headW_bd (okW_kind h).1
  have HZ : Hid (∀ x ∈ [(3 : Int), o, s], 0 ≤ x ∧ x ≤ 4611686018427387904) := Lib.hid (by
    have q : 0 ≤ o ∧ o < 5 ∧ 0 ≤ s ∧ s ≤ 1099511627776 := hh
    intro x hx
    simp at hx
    rcases hx with rfl | rfl | rfl <;> omega)
  have HZL := Lib.hid (numsE_len _ HZ.out)
  have HZ4 : Hid (∀ x ∈ [m1, c1, m2, c2], 0 ≤ x ∧ x ≤ 4611686018427387904) := Lib.hid (by
    rcases (okW_kind h).2 with ⟨q, _⟩ | ⟨q, _⟩ | ⟨_, q1, q2, _⟩
    · exact absurd q (by simp [wdOf])
    · exact absurd q (by simp [wdOf])
    · have b1 : 0 ≤ m1 ∧ m1 ≤ 281474976710655 ∧ 0 ≤ c1 ∧ c1 ≤ 65535 := stamp_bdW q1
      have b2 : 0 ≤ m2 ∧ m2 ≤ 281474976710655 ∧ 0 ≤ c2 ∧ c2 ≤ 65535 := stamp_bdW q2
      intro x hx
      simp at hx
      rcases hx with rfl | rfl | rfl | rfl <;> omega)
  have HZ4L := Lib.hid (numsE_len _ HZ4.out)
  clear ht h hb0 hrow hat hkb hl hh
  go_enter Tryd.func13, Tryd.ntmps13
  go_wp2_with fail
  refine HI.out.mono ?_; rintro e w1 ⟨rfl, k1⟩
  have hb1 := HB0.out.trans (k1.mono HB0.out.size)
  have x1 := X0.out.below k1
  have S0 : St8 w (w1.alloc (.cells #[.slice none 0 0] 96)) w1.heap.size (.slice none 0 0) [] 3 o s m1 c1 m2 c2 (.slice A L.length c) :=
    ⟨Wr.new w1 _, x1.below ((Below.refl _ _).alloc (Nat.le_refl _) _), hb1.alloc hb1.size _, fun i hi => by
      rcases hi with rfl | hi
      · exact x1.lt
      · simp [Value.ownBlock] at hi⟩
  have S1 := S0.below ((Below.refl _ _).alloc (Nat.le_refl _) (.cells #[.int .i64 3, .int .i64 o, .int .i64 s] 3))
  obtain ⟨y0, y1, y2, y3, y4, y5, y6, y7, ylt⟩ := x1
  have HC := Lib.hid (wr_nums w1.heap.size (w1.heap.size + 1) 3 (.slice none 0 0) [] [3, o, s] _ S1.wr (by rintro (hk | hk) <;> first | omega | simp [Value.ownBlock] at hk) (by simp) (by intro j q; rcases (show j = 0 ∨ j = 1 ∨ j = 2 from by simp at q; omega) with rfl | rfl | rfl <;> simp) HZ.out (by simp) (by have := HZL.out; simp only [List.nil_append]; simp at this; omega))
  have HS1 := Lib.hid S1
  clear S0 S1 k1 hb1 HI X0 HB0
  go_wp2_with fail
  refine HC.out.mono ?_; rintro e w2 ⟨rfl, v2, hw2⟩
  have hs2 := HS1.out.step hw2
  rw [List.nil_append] at hs2
  have HS2 := Lib.hid hs2
  clear hw2 HC HS1 y0 y1 y2 y3 y4 y5 y6 y7 ylt
  obtain ⟨y0, y1, y2, y3, y4, y5, y6, y7, ylt⟩ := hs2.x
  have hwl := hs2.wr.lt
  clear hs2
  have S3 := HS2.out.below ((Below.refl _ _).alloc (Nat.le_refl _) (.cells #[.int .i64 m1, .int .i64 c1, .int .i64 m2, .int .i64 c2] 3))
  have HC4 := Lib.hid (wr_nums w1.heap.size w2.heap.size 4 v2 _ [m1, c1, m2, c2] _ S3.wr (fun hf => by have := HS2.out.wr.foot_lt _ hf; omega) (by simp) (by intro j q; rcases (show j = 0 ∨ j = 1 ∨ j = 2 ∨ j = 3 from by simp at q; omega) with rfl | rfl | rfl | rfl <;> simp) HZ4.out (by simp) (by have h1 := HZL.out; have h2 := HZ4L.out; simp only [List.length_append]; simp at h1 h2; omega))
  have HS3 := Lib.hid S3
  clear S3
  go_wp2_with fail
  refine HC4.out.mono ?_; rintro e w4 ⟨rfl, v4, hw4⟩
  have HS4 := Lib.hid (HS3.out.step hw4)
  clear hw4 HC4 HS3 HS2
  have HEW : Hid (numsE [(3 : Int), o, s] ++ numsE [m1, c1, m2, c2] = encW (wdOf 3 o s m1 c1 m2 c2 L)) := Lib.hid (by rw [encW_nums, if_neg (by decide), if_pos rfl])
  have hS := HS4.out
  rw [HEW.out] at hS
  have HSE := Lib.hid hS
  have HO := Lib.hid (wr_out w1.heap.size v4 _ _ hS.wr (by have := HBD.out; omega))
  clear hS
  go_wp2_with fail
  refine HO.out.mono ?_; rintro e w5 ⟨⟨g, cap, rfl, hown⟩, k5⟩
  have s5 := HSE.out.below k5
  have kA : Below w5.heap.size w5 (w5.alloc (.cells #[.slice (some ⟨g, 0, none⟩) (encW (wdOf 3 o s m1 c1 m2 c2 L)).length cap] 28)) := (Below.refl _ _).alloc (Nat.le_refl _) _
  have HBA := Lib.hid (s5.bel.trans (kA.mono s5.bel.size))
  obtain ⟨A5, c5, e5, hy5, _⟩ := Own8.bytes hown
  obtain ⟨rfl, rfl⟩ : some (⟨g, 0, none⟩ : Addr) = A5 ∧ cap = c5 := by injection e5 with q1 q2 q3; exact ⟨q1, q3⟩
  have HFE := Lib.hid (fr_encode w5.heap.size 1 cap (some ⟨g, 0, none⟩) (encW (wdOf 3 o s m1 c1 m2 c2 L)) _ (HT.out _ HBA.out) (by simp) (by simp) (hy5.below kA) HBY.out HBD.out.1 (by have := HBD.out; omega))
  have hw5 : w.heap.size ≤ w5.heap.size := s5.bel.size
  clear hown k5 s5 kA hy5 HO HSE
  go_wp2_with fail
  refine HFE.out.mono ?_; rintro e w6 ⟨⟨g6, cap6, rfl, hr6⟩, k6⟩
  have HB6 := Lib.hid (HBA.out.trans (k6.mono HBA.out.size))
  have HR6 := Lib.hid (hr6.base (b2 := w.heap.size) (by simp; omega))
  clear hr6 k6 HFE
  go_wp2
  go_ret2
  exact ⟨⟨g6, cap6, rfl, HR6.out⟩, HB6.out⟩
set_option maxRecDepth 100000 in
set_option maxHeartbeats 4000000 in
theorem wd_enc_1 (o s m1 c1 m2 c2 : Int) (A : Option Addr) (c : Nat) (L : List Mr) (w : World) (ht : Nib w) (hrow : RowAt w (.slice A L.length c) L) (hat : ∀ m ∈ L, m.At (fun _ => True) w) (hkb : ∀ m ∈ L, isBy m.r.key ∧ isBy m.r.val) (hl : L.length ≤ 100000) (h : okW (wdOf 1 o s m1 c1 m2 c2 L) = true) :
    Calls Tryd.prog 13 #[wdV 1 o s m1 c1 m2 c2 (.slice A L.length c)] w fun e w' => EncRes (wdOf 1 o s m1 c1 m2 c2 L) w w' e ∧ Below w.heap.size w w' := by
  have hb0 : Below w.heap.size w (w.alloc (.cells (wdC 1 o s m1 c1 m2 c2 (.slice A L.length c)) 26)) := by (repeat' (first | (with_reducible exact Below.refl _ _) | (with_reducible assumption) | (with_reducible refine Below.trans ?_ (Below.mono (by with_reducible assumption) ?_)) | (with_reducible refine Below.alloc ?_ ?_ _) | (with_reducible refine Below.setCell ?_ ?_ _) | (with_reducible refine below_drewN ?_ _) | (with_reducible refine Below.drew ?_) | go_size))
  have HI := Lib.hid (wd_is 1 o s m1 c1 m2 c2 A c L _ (hrow.below hb0) (fun m hm => (hkb m hm).1) hl)
  rw [h] at HI
  have X0 := Lib.hid (Wd8.new w 26 1 o s m1 c1 m2 c2 (.slice A L.length c))
  have HB0 := Lib.hid hb0
  have HBD := Lib.hid (encW_bd h)
  have HBY : Hid (isBy (encW (wdOf 1 o s m1 c1 m2 c2 L))) := Lib.hid (encW_by (fun r hr => by
    obtain ⟨m, hm, rfl⟩ := List.mem_map.1 hr
    exact hkb m hm))
  have HT := Lib.hid (fun (W : World) (q : Below w.heap.size w W) => ht.below q)
  have hh := headW_bd (okW_kind h).1
  have HZ : Hid (∀ x ∈ [(1 : Int), o, s], 0 ≤ x ∧ x ≤ 4611686018427387904) := Lib.hid (by
    have q : 0 ≤ o ∧ o < 5 ∧ 0 ≤ s ∧ s ≤ 1099511627776 := hh
    intro x hx
    simp at hx
    rcases hx with rfl | rfl | rfl <;> omega)
  have HZL := Lib.hid (numsE_len _ HZ.out)
  have HLST : Hid (∀ W, Below w.heap.size w W → Calls Tryd.prog 49 #[.slice A L.length c] W fun e w' => LsRes (L.map Mr.r) w' e ∧ Below W.heap.size W w') := Lib.hid (fun W q => rec_list _ L W (hrow.below q) (fun m hm => (hat m hm).below q) (fun m hm => (hkb m hm).1) hl)
  have HLC : Hid (lsC (L.map Mr.r) = 0) := Lib.hid (by
    rcases (okW_kind h).2 with ⟨_, _, q, _, q64⟩ | ⟨q, _⟩ | ⟨q, _⟩
    · exact lsC_ok q64 (rowB_ok _ _ _ q)
    · exact absurd q (by simp [wdOf])
    · exact absurd q (by simp [wdOf]))
  clear ht h hb0 hrow hat hkb hl hh
  go_enter Tryd.func13, Tryd.ntmps13
  go_wp2_with fail
  refine HI.out.mono ?_; rintro e w1 ⟨rfl, k1⟩
  have hb1 := HB0.out.trans (k1.mono HB0.out.size)
  have x1 := X0.out.below k1
  have S0 : St8 w (w1.alloc (.cells #[.slice none 0 0] 96)) w1.heap.size (.slice none 0 0) [] 1 o s m1 c1 m2 c2 (.slice A L.length c) :=
    ⟨Wr.new w1 _, x1.below ((Below.refl _ _).alloc (Nat.le_refl _) _), hb1.alloc hb1.size _, fun i hi => by
      rcases hi with rfl | hi
      · exact x1.lt
      · simp [Value.ownBlock] at hi⟩
  have S1 := S0.below ((Below.refl _ _).alloc (Nat.le_refl _) (.cells #[.int .i64 1, .int .i64 o, .int .i64 s] 3))
  obtain ⟨y0, y1, y2, y3, y4, y5, y6, y7, ylt⟩ := x1
  have HC := Lib.hid (wr_nums w1.heap.size (w1.heap.size + 1) 3 (.slice none 0 0) [] [1, o, s] _ S1.wr (by rintro (hk | hk) <;> first | omega | simp [Value.ownBlock] at hk) (by simp) (by intro j q; rcases (show j = 0 ∨ j = 1 ∨ j = 2 from by simp at q; omega) with rfl | rfl | rfl <;> simp) HZ.out (by simp) (by have := HZL.out; simp only [List.nil_append]; simp at this; omega))
  have HS1 := Lib.hid S1
  clear S0 S1 k1 hb1 HI X0 HB0
  go_wp2_with fail
  refine HC.out.mono ?_; rintro e w2 ⟨rfl, v2, hw2⟩
  have hs2 := HS1.out.step hw2
  rw [List.nil_append] at hs2
  have HS2 := Lib.hid hs2
  clear hw2 HC HS1 y0 y1 y2 y3 y4 y5 y6 y7 ylt
  obtain ⟨y0, y1, y2, y3, y4, y5, y6, y7, ylt⟩ := hs2.x
  have hwl := hs2.wr.lt
  clear hs2
  go_wp2_with fail
  refine (HLST.out _ HS2.out.bel).mono ?_; rintro e w3 ⟨⟨Al, cl, rfl, hyl, hnl, _, _⟩, k3⟩
  have hs3 := HS2.out.below k3
  have hll := lsV_len (L.map Mr.r)
  have HRW := Lib.hid (wr_raw w1.heap.size cl Al v2 _ (lsV (L.map Mr.r)) w3 hs3.wr (by rw [numsE_cons, List.length_append]; have := encN_len0 (1 : Int).toNat; omega) hyl (fun q => (hnl q).1) (by have := HZL.out; simp only [List.length_append]; simp at this; omega))
  rw [HLC.out]
  have HS3 := Lib.hid hs3
  clear hs3 k3 hyl hnl HLST HS2
  go_wp2_with fail
  refine HRW.out.mono ?_; rintro e w4 ⟨rfl, v4, hw4⟩
  have HS4 := Lib.hid (HS3.out.step hw4)
  clear hw4 HRW HS3
  have HEW : Hid (numsE [(1 : Int), o, s] ++ lsV (L.map Mr.r) = encW (wdOf 1 o s m1 c1 m2 c2 L)) := Lib.hid (by rw [encW_nums, if_pos rfl])
  have hS := HS4.out
  rw [HEW.out] at hS
  have HSE := Lib.hid hS
  have HO := Lib.hid (wr_out w1.heap.size v4 _ _ hS.wr (by have := HBD.out; omega))
  clear hS
  go_wp2_with fail
  refine HO.out.mono ?_; rintro e w5 ⟨⟨g, cap, rfl, hown⟩, k5⟩
  have s5 := HSE.out.below k5
  have kA : Below w5.heap.size w5 (w5.alloc (.cells #[.slice (some ⟨g, 0, none⟩) (encW (wdOf 1 o s m1 c1 m2 c2 L)).length cap] 28)) := (Below.refl _ _).alloc (Nat.le_refl _) _
  have HBA := Lib.hid (s5.bel.trans (kA.mono s5.bel.size))
  obtain ⟨A5, c5, e5, hy5, _⟩ := Own8.bytes hown
  obtain ⟨rfl, rfl⟩ : some (⟨g, 0, none⟩ : Addr) = A5 ∧ cap = c5 := by injection e5 with q1 q2 q3; exact ⟨q1, q3⟩
  have HFE := Lib.hid (fr_encode w5.heap.size 1 cap (some ⟨g, 0, none⟩) (encW (wdOf 1 o s m1 c1 m2 c2 L)) _ (HT.out _ HBA.out) (by simp) (by simp) (hy5.below kA) HBY.out HBD.out.1 (by have := HBD.out; omega))
  have hw5 : w.heap.size ≤ w5.heap.size := s5.bel.size
  clear hown k5 s5 kA hy5 HO HSE
  go_wp2_with fail
  refine HFE.out.mono ?_; rintro e w6 ⟨⟨g6, cap6, rfl, hr6⟩, k6⟩
  have HB6 := Lib.hid (HBA.out.trans (k6.mono HBA.out.size))
  have HR6 := Lib.hid (hr6.base (b2 := w.heap.size) (by simp; omega))
  clear hr6 k6 HFE
  go_wp2
  go_ret2
  exact ⟨⟨g6, cap6, rfl, HR6.out⟩, HB6.out⟩
theorem wd_enc (k o s m1 c1 m2 c2 : Int) (A : Option Addr) (c : Nat) (L : List Mr) (w : World) (ht : Nib w) (hrow : RowAt w (.slice A L.length c) L) (hat : ∀ m ∈ L, m.At (fun _ => True) w) (hkb : ∀ m ∈ L, isBy m.r.key ∧ isBy m.r.val) (hl : L.length ≤ 100000) (h : okW (wdOf k o s m1 c1 m2 c2 L) = true) :
    Calls Tryd.prog 13 #[wdV k o s m1 c1 m2 c2 (.slice A L.length c)] w fun e w' => EncRes (wdOf k o s m1 c1 m2 c2 L) w w' e ∧ Below w.heap.size w w' := by
  rcases (okW_kind h).2 with ⟨q, _⟩ | ⟨q, _⟩ | ⟨q, _⟩
  · have q' : k = 1 := q
    subst q'
    exact wd_enc_1 o s m1 c1 m2 c2 A c L w ht hrow hat hkb hl h
  · have q' : k = 2 := q
    subst q'
    exact wd_enc_2 o s m1 c1 m2 c2 A c L w ht hrow hat hkb hl h
  · have q' : k = 3 := q
    subst q'
    exact wd_enc_3 o s m1 c1 m2 c2 A c L w ht hrow hat hkb hl h
end Go.Proofs.YtdffldlcbihjmaaDoor
