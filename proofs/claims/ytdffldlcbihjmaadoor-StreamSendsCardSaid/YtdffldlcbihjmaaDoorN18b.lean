/- stream: Send (written by gen/strg.py). -/
import Derived.Test.YtdffldlcbihjmaaDoorFrEnc
import Derived.Test.YtdffldlcbihjmaaDoorN18a
import Derived.Test.YtdffldlcbihjmaaDoorRecordsR
import Derived.Test.YtdffldlcbihjmaaDoorWdIs2
/- wire.Encode (written by gen/wdenc.py). -/
set_option linter.unusedSimpArgs false
set_option linter.unusedVariables false
namespace Go.Proofs.YtdffldlcbihjmaaDoor
open Go.RowKit Go.Sort

theorem Row8.base {base b2 : Nat} {w : World} {g cap m : Nat} {l : List Int} (h : Row8 base w g cap m l) (hb : b2 ≤ base) : Row8 b2 w g cap m l := ⟨own_base hb h.own, h.len⟩
/-- A word in the block behind w, and a writer. -/
structure St8 (w W : World) (wb : Nat) (v : Value) (l : List Int) (k o s m1 c1 m2 c2 : Int) (vr : Value) : Prop where
  wr : Wr W wb v l
  x : Wd8 W w.heap.size k o s m1 c1 m2 c2 vr
  bel : Below w.heap.size w W
  ge : ∀ i, Foot wb v i → w.heap.size < i
theorem St8.below {w W W' : World} {wb : Nat} {v : Value} {l : List Int} {k o s m1 c1 m2 c2 : Int} {vr : Value} (h : St8 w W wb v l k o s m1 c1 m2 c2 vr) (q : Below W.heap.size W W') : St8 w W' wb v l k o s m1 c1 m2 c2 vr :=
  ⟨h.wr.below q, h.x.below q, h.bel.trans (q.mono h.bel.size), h.ge⟩
theorem St8.step {w W W' : World} {wb : Nat} {v v' : Value} {l l' : List Int} {k o s m1 c1 m2 c2 : Int} {vr : Value} (h : St8 w W wb v l k o s m1 c1 m2 c2 vr) (q : WrPost wb v l' W W' v') : St8 w W' wb v' l' k o s m1 c1 m2 c2 vr := by
  refine ⟨q.wr, h.x.but q.but (fun hf => absurd (h.ge _ hf) (Nat.lt_irrefl _)), h.bel.trans (q.but.below (fun i hi => Nat.le_of_lt (h.ge i hi)) h.bel.size), fun i hi => ?_⟩
  rcases hi with rfl | hi
  · exact h.ge _ (.inl rfl)
  · rcases q.fresh i hi with r | r
    · exact h.ge i (.inr r)
    · exact Nat.lt_of_lt_of_le h.x.lt r
theorem encW_nums (k o s m1 c1 m2 c2 : Int) (L : List Mr) : encW (wdOf k o s m1 c1 m2 c2 L) = numsE [k, o, s] ++ (if k = 1 then lsV (L.map Mr.r) else if k = 3 then numsE [m1, c1, m2, c2] else []) := rfl
set_option maxRecDepth 100000 in
set_option maxHeartbeats 4000000 in
theorem wd_enc_no (k o s m1 c1 m2 c2 : Int) (A : Option Addr) (c : Nat) (L : List Mr) (w : World) (hrow : RowAt w (.slice A L.length c) L) (hkb : ∀ m ∈ L, isBy m.r.key) (hl : L.length ≤ 100000) (h : okW (wdOf k o s m1 c1 m2 c2 L) = false) :
    Calls Tryd.prog 13 #[wdV k o s m1 c1 m2 c2 (.slice A L.length c)] w fun e w' => e = .returned (.tuple #[.slice none 0 0, .int .i64 1]) ∧ Below w.heap.size w w' := by
  have hb0 : Below w.heap.size w (w.alloc (.cells (wdC k o s m1 c1 m2 c2 (.slice A L.length c)) 26)) := by (repeat' (first | (with_reducible exact Below.refl _ _) | (with_reducible assumption) | (with_reducible refine Below.trans ?_ (Below.mono (by with_reducible assumption) ?_)) | (with_reducible refine Below.alloc ?_ ?_ _) | (with_reducible refine Below.setCell ?_ ?_ _) | (with_reducible refine below_drewN ?_ _) | (with_reducible refine Below.drew ?_) | go_size))
  have HI := Lib.hid (wd_is k o s m1 c1 m2 c2 A c L _ (hrow.below hb0) hkb hl)
  rw [h] at HI
  have HB0 := Lib.hid hb0
  clear h hrow hkb hl hb0
  go_enter Tryd.func13, Tryd.ntmps13
  go_wp2_with fail
  refine HI.out.mono ?_; rintro e w1 ⟨rfl, k1⟩
  have HB1 := Lib.hid (HB0.out.trans (k1.mono HB0.out.size))
  clear k1 HI
  go_wp2
  go_ret2
  exact ⟨rfl, HB1.out⟩
/-- A word's bytes, as they are told. -/
def EncRes (W : Wd) (w w' : World) (e : Ending) : Prop := ∃ g2 cap2, e = .returned (.tuple #[.slice (some ⟨g2, 0, none⟩) (12 + (encW W).length) cap2, .int .i64 0]) ∧ Row8 w.heap.size w' g2 cap2 (12 + (encW W).length) (frE (encW W))
set_option maxRecDepth 100000 in
set_option maxHeartbeats 4000000 in
theorem wd_enc_2 (o s m1 c1 m2 c2 : Int) (A : Option Addr) (c : Nat) (L : List Mr) (w : World) (ht : Nib w) (hrow : RowAt w (.slice A L.length c) L) (hat : ∀ m ∈ L, m.At (fun _ => True) w) (hkb : ∀ m ∈ L, isBy m.r.key ∧ isBy m.r.val) (hl : L.length ≤ 100000) (h : okW (wdOf 2 o s m1 c1 m2 c2 L) = true) :
    Calls Tryd.prog 13 #[wdV 2 o s m1 c1 m2 c2 (.slice A L.length c)] w fun e w' => EncRes (wdOf 2 o s m1 c1 m2 c2 L) w w' e ∧ Below w.heap.size w w' := by
  have hb0 : Below w.heap.size w (w.alloc (.cells (wdC 2 o s m1 c1 m2 c2 (.slice A L.length c)) 26)) := by (repeat' (first | (with_reducible exact Below.refl _ _) | (with_reducible assumption) | (with_reducible refine Below.trans ?_ (Below.mono (by with_reducible assumption) ?_)) | (with_reducible refine Below.alloc ?_ ?_ _) | (with_reducible refine Below.setCell ?_ ?_ _) | (with_reducible refine below_drewN ?_ _) | (with_reducible refine Below.drew ?_) | go_size))
  have HI := Lib.hid (wd_is 2 o s m1 c1 m2 c2 A c L _ (hrow.below hb0) (fun m hm => (hkb m hm).1) hl)
  rw [h] at HI
  have X0 := Lib.hid (Wd8.new w 26 2 o s m1 c1 m2 c2 (.slice A L.length c))
  have HB0 := Lib.hid hb0
  have HBD := Lib.hid (encW_bd h)
  have HBY : Hid (isBy (encW (wdOf 2 o s m1 c1 m2 c2 L))) := Lib.hid (encW_by (fun r hr => by
    obtain ⟨m, hm, rfl⟩ := List.mem_map.1 hr
    exact hkb m hm))
  have HT := Lib.hid (fun (W : World) (q : Below w.heap.size w W) => ht.below q)
  have hh := headW_bd (okW_kind h).1
  have HZ : Hid (∀ x ∈ [(2 : Int), o, s], 0 ≤ x ∧ x ≤ 4611686018427387904) := Lib.hid (by
    have q : 0 ≤ o ∧ o < 5 ∧ 0 ≤ s ∧ s ≤ 1099511627776 := hh
    intro x hx
    simp at hx
    rcases hx with rfl | rfl | rfl <;> omega)
  have HZL := Lib.hid (numsE_len _ HZ.out)
  clear ht h hb0 hrow hat hkb hl hh
  go_enter Tryd.func13, Tryd.ntmps13
  go_wp2_with fail
  refine HI.out.mono ?_; rintro e w1 ⟨rfl, k1⟩
  have hb1 := HB0.out.trans (k1.mono HB0.out.size)
  have x1 := X0.out.below k1
  have S0 : St8 w (w1.alloc (.cells #[.slice none 0 0] 96)) w1.heap.size (.slice none 0 0) [] 2 o s m1 c1 m2 c2 (.slice A L.length c) :=
    ⟨Wr.new w1 _, x1.below ((Below.refl _ _).alloc (Nat.le_refl _) _), hb1.alloc hb1.size _, fun i hi => by
      rcases hi with rfl | hi
      · exact x1.lt
      · simp [Value.ownBlock] at hi⟩
  have S1 := S0.below ((Below.refl _ _).alloc (Nat.le_refl _) (.cells #[.int .i64 2, .int .i64 o, .int .i64 s] 3))
  obtain ⟨y0, y1, y2, y3, y4, y5, y6, y7, ylt⟩ := x1
  have HC := Lib.hid (wr_nums w1.heap.size (w1.heap.size + 1) 3 (.slice none 0 0) [] [2, o, s] _ S1.wr (by rintro (hk | hk) <;> first | omega | simp [Value.ownBlock] at hk) (by simp) (by intro j q; rcases (show j = 0 ∨ j = 1 ∨ j = 2 from by simp at q; omega) with rfl | rfl | rfl <;> simp) HZ.out (by simp) (by have := HZL.out; simp only [List.nil_append]; simp at this; omega))
  have HS1 := Lib.hid S1
  clear S0 S1 k1 hb1 HI X0 HB0
  go_wp2_with fail
  refine HC.out.mono ?_; rintro e w2 ⟨rfl, v2, hw2⟩
  have hs2 := HS1.out.step hw2
  rw [List.nil_append] at hs2
  have HS2 := Lib.hid hs2
  clear hw2 HC HS1 y0 y1 y2 y3 y4 y5 y6 y7 ylt
  obtain ⟨y0, y1, y2, y3, y4, y5, y6, y7, ylt⟩ := hs2.x
  have hwl := hs2.wr.lt
  clear hs2
  have HEW : Hid (numsE [(2 : Int), o, s] = encW (wdOf 2 o s m1 c1 m2 c2 L)) := Lib.hid (by rw [encW_nums, if_neg (by decide), if_neg (by decide), List.append_nil])
  have hS := HS2.out
  rw [HEW.out] at hS
  have HSE := Lib.hid hS
  have HO := Lib.hid (wr_out w1.heap.size v2 _ _ hS.wr (by have := HBD.out; omega))
  clear hS
  go_wp2_with fail
  refine HO.out.mono ?_; rintro e w5 ⟨⟨g, cap, rfl, hown⟩, k5⟩
  have s5 := HSE.out.below k5
  have kA : Below w5.heap.size w5 (w5.alloc (.cells #[.slice (some ⟨g, 0, none⟩) (encW (wdOf 2 o s m1 c1 m2 c2 L)).length cap] 28)) := (Below.refl _ _).alloc (Nat.le_refl _) _
  have HBA := Lib.hid (s5.bel.trans (kA.mono s5.bel.size))
  obtain ⟨A5, c5, e5, hy5, _⟩ := Own8.bytes hown
  obtain ⟨rfl, rfl⟩ : some (⟨g, 0, none⟩ : Addr) = A5 ∧ cap = c5 := by injection e5 with q1 q2 q3; exact ⟨q1, q3⟩
  have HFE := Lib.hid (fr_encode w5.heap.size 1 cap (some ⟨g, 0, none⟩) (encW (wdOf 2 o s m1 c1 m2 c2 L)) _ (HT.out _ HBA.out) (by simp) (by simp) (hy5.below kA) HBY.out HBD.out.1 (by have := HBD.out; omega))
  have hw5 : w.heap.size ≤ w5.heap.size := s5.bel.size
  clear hown k5 s5 kA hy5 HO HSE
  go_wp2_with fail
  refine HFE.out.mono ?_; rintro e w6 ⟨⟨g6, cap6, rfl, hr6⟩, k6⟩
  have HB6 := Lib.hid (HBA.out.trans (k6.mono HBA.out.size))
  have HR6 := Lib.hid (hr6.base (b2 := w.heap.size) (by simp; omega))
  clear hr6 k6 HFE
  go_wp2
  go_ret2
  exact ⟨⟨g6, cap6, rfl, HR6.out⟩, HB6.out⟩
set_option maxRecDepth 100000 in
set_option maxHeartbeats 4000000 in
theorem wd_enc_3 (o s m1 c1 m2 c2 : Int) (A : Option Addr) (c : Nat) (L : List Mr) (w : World) (ht : Nib w) (hrow : RowAt w (.slice A L.length c) L) (hat : ∀ m ∈ L, m.At (fun _ => True) w) (hkb : ∀ m ∈ L, isBy m.r.key ∧ isBy m.r.val) (hl : L.length ≤ 100000) (h : okW (wdOf 3 o s m1 c1 m2 c2 L) = true) :
    Calls Tryd.prog 13 #[wdV 3 o s m1 c1 m2 c2 (.slice A L.length c)] w fun e w' => EncRes (wdOf 3 o s m1 c1 m2 c2 L) w w' e ∧ Below w.heap.size w w' := by
  have hb0 : Below w.heap.size w (w.alloc (.cells (wdC 3 o s m1 c1 m2 c2 (.slice A L.length c)) 26)) := by (repeat' (first | (with_reducible exact Below.refl _ _) | (with_reducible assumption) | (with_reducible refine Below.trans ?_ (Below.mono (by with_reducible assumption) ?_)) | (with_reducible refine Below.alloc ?_ ?_ _) | (with_reducible refine Below.setCell ?_ ?_ _) | (with_reducible refine below_drewN ?_ _) | (with_reducible refine Below.drew ?_) | go_size))
  have HI := Lib.hid (wd_is 3 o s m1 c1 m2 c2 A c L _ (hrow.below hb0) (fun m hm => (hkb m hm).1) hl)
  rw [h] at HI
  have X0 := Lib.hid (Wd8.new w 26 3 o s m1 c1 m2 c2 (.slice A L.length c))
  have HB0 := Lib.hid hb0
  have HBD := Lib.hid (encW_bd h)
  have HBY : Hid (isBy (encW (wdOf 3 o s m1 c1 m2 c2 L))) := Lib.hid (encW_by (fun r hr => by
    obtain ⟨m, hm, rfl⟩ := List.mem_map.1 hr
    exact hkb m hm))
  have HT := Lib.hid (fun (W : World) (q : Below w.heap.size w W) => ht.below q)
  have hh := headW_bd (okW_kind h).1
  have HZ : Hid (∀ x ∈ [(3 : Int), o, s], 0 ≤ x ∧ x ≤ 4611686018427387904) := Lib.hid (by
    have q : 0 ≤ o ∧ o < 5 ∧ 0 ≤ s ∧ s ≤ 1099511627776 := hh
    intro x hx
    simp at hx
    rcases hx with rfl | rfl | rfl <;> omega)
  have HZL := Lib.hid (numsE_len _ HZ.out)
  have HZ4 : Hid (∀ x ∈ [m1, c1, m2, c2], 0 ≤ x ∧ x ≤ 4611686018427387904) := Lib.hid (by
    rcases (okW_kind h).2 with ⟨q, _⟩ | ⟨q, _⟩ | ⟨_, q1, q2, _⟩
    · exact absurd q (by simp [wdOf])
    · exact absurd q (by simp [wdOf])
    · have b1 : 0 ≤ m1 ∧ m1 ≤ 281474976710655 ∧ 0 ≤ c1 ∧ c1 ≤ 65535 := stamp_bdW q1
      have b2 : 0 ≤ m2 ∧ m2 ≤ 281474976710655 ∧ 0 ≤ c2 ∧ c2 ≤ 65535 := stamp_bdW q2
      intro x hx
      simp at hx
      rcases hx with rfl | rfl | rfl | rfl <;> omega)
  have HZ4L := Lib.hid (numsE_len _ HZ4.out)
  clear ht h hb0 hrow hat hkb hl hh
  go_enter Tryd.func13, Tryd.ntmps13
  go_wp2_with fail
  refine HI.out.mono ?_; rintro e w1 ⟨rfl, k1⟩
  have hb1 := HB0.out.trans (k1.mono HB0.out.size)
  have x1 := X0.out.below k1
  have S0 : St8 w (w1.alloc (.cells #[.slice none 0 0] 96)) w1.heap.size (.slice none 0 0) [] 3 o s m1 c1 m2 c2 (.slice A L.length c) :=
    ⟨Wr.new w1 _, x1.below ((Below.refl _ _).alloc (Nat.le_refl _) _), hb1.alloc hb1.size _, fun i hi => by
      rcases hi with rfl | hi
      · exact x1.lt
      · simp [Value.ownBlock] at hi⟩
  have S1 := S0.below ((Below.refl _ _).alloc (Nat.le_refl _) (.cells #[.int .i64 3, .int .i64 o, .int .i64 s] 3))
  obtain ⟨y0, y1, y2, y3, y4, y5, y6, y7, ylt⟩ := x1
  have HC := Lib.hid (wr_nums w1.heap.size (w1.heap.size + 1) 3 (.slice none 0 0) [] [3, o, s] _ S1.wr (by rintro (hk | hk) <;> first | omega | simp [Value.ownBlock] at hk) (by simp) (by intro j q; rcases (show j = 0 ∨ j = 1 ∨ j = 2 from by simp at q; omega) with rfl | rfl | rfl <;> simp) HZ.out (by simp) (by have := HZL.out; simp only [List.nil_append]; simp at this; omega))
  have HS1 := Lib.hid S1
  clear S0 S1 k1 hb1 HI X0 HB0
  go_wp2_with fail
  refine HC.out.mono ?_; rintro e w2 ⟨rfl, v2, hw2⟩
  have hs2 := HS1.out.step hw2
  rw [List.nil_append] at hs2
  have HS2 := Lib.hid hs2
  clear hw2 HC HS1 y0 y1 y2 y3 y4 y5 y6 y7 ylt
  obtain ⟨y0, y1, y2, y3, y4, y5, y6, y7, ylt⟩ := hs2.x
  have hwl := hs2.wr.lt
  clear hs2
  have S3 := HS2.out.below ((Below.refl _ _).alloc (Nat.le_refl _) (.cells #[.int .i64 m1, .int .i64 c1, .int .i64 m2, .int .i64 c2] 3))
  have HC4 := Lib.hid (wr_nums w1.heap.size w2.heap.size 4 v2 _ [m1, c1, m2, c2] _ S3.wr (fun hf => by have := HS2.out.wr.foot_lt _ hf; omega) (by simp) (by intro j q; rcases (show j = 0 ∨ j = 1 ∨ j = 2 ∨ j = 3 from by simp at q; omega) with rfl | rfl | rfl | rfl <;> simp) HZ4.out (by simp) (by have h1 := HZL.out; have h2 := HZ4L.out; simp only [List.length_append]; simp at h1 h2; omega))
  have HS3 := Lib.hid S3
  clear S3
  go_wp2_with fail
  refine HC4.out.mono ?_; rintro e w4 ⟨rfl, v4, hw4⟩
  have HS4 := Lib.hid (HS3.out.step hw4)
  clear hw4 HC4 HS3 HS2
  have HEW : Hid (numsE [(3 : Int), o, s] ++ numsE [m1, c1, m2, c2] = encW (wdOf 3 o s m1 c1 m2 c2 L)) := Lib.hid (by rw [encW_nums, if_neg (by decide), if_pos rfl])
  have hS := HS4.out
  rw [HEW.out] at hS
  have HSE := Lib.hid hS
  have HO := Lib.hid (wr_out w1.heap.size v4 _ _ hS.wr (by have := HBD.out; omega))
  clear hS
  go_wp2_with fail
  refine HO.out.mono ?_; rintro e w5 ⟨⟨g, cap, rfl, hown⟩, k5⟩
  have s5 := HSE.out.below k5
  have kA : Below w5.heap.size w5 (w5.alloc (.cells #[.slice (some ⟨g, 0, none⟩) (encW (wdOf 3 o s m1 c1 m2 c2 L)).length cap] 28)) := (Below.refl _ _).alloc (Nat.le_refl _) _
  have HBA := Lib.hid (s5.bel.trans (kA.mono s5.bel.size))
  obtain ⟨A5, c5, e5, hy5, _⟩ := Own8.bytes hown
  obtain ⟨rfl, rfl⟩ : some (⟨g, 0, none⟩ : Addr) = A5 ∧ cap = c5 := by injection e5 with q1 q2 q3; exact ⟨q1, q3⟩
  have HFE := Lib.hid (fr_encode w5.heap.size 1 cap (some ⟨g, 0, none⟩) (encW (wdOf 3 o s m1 c1 m2 c2 L)) _ (HT.out _ HBA.out) (by simp) (by simp) (hy5.below kA) HBY.out HBD.out.1 (by have := HBD.out; omega))
  have hw5 : w.heap.size ≤ w5.heap.size := s5.bel.size
  clear hown k5 s5 kA hy5 HO HSE
  go_wp2_with fail
  refine HFE.out.mono ?_; rintro e w6 ⟨⟨g6, cap6, rfl, hr6⟩, k6⟩
  have HB6 := Lib.hid (HBA.out.trans (k6.mono HBA.out.size))
  have HR6 := Lib.hid (hr6.base (b2 := w.heap.size) (by simp; omega))
  clear hr6 k6 HFE
  go_wp2
  go_ret2
  exact ⟨⟨g6, cap6, rfl, HR6.out⟩, HB6.out⟩
set_option maxRecDepth 100000 in
set_option maxHeartbeats 4000000 in
theorem wd_enc_1 (o s m1 c1 m2 c2 : Int) (A : Option Addr) (c : Nat) (L : List Mr) (w : World) (ht : Nib w) (hrow : RowAt w (.slice A L.length c) L) (hat : ∀ m ∈ L, m.At (fun _ => True) w) (hkb : ∀ m ∈ L, isBy m.r.key ∧ isBy m.r.val) (hl : L.length ≤ 100000) (h : okW (wdOf 1 o s m1 c1 m2 c2 L) = true) :
    Calls Tryd.prog 13 #[wdV 1 o s m1 c1 m2 c2 (.slice A L.length c)] w fun e w' => EncRes (wdOf 1 o s m1 c1 m2 c2 L) w w' e ∧ Below w.heap.size w w' := by
  have hb0 : Below w.heap.size w (w.alloc (.cells (wdC 1 o s m1 c1 m2 c2 (.slice A L.length c)) 26)) := by (repeat' (first | (with_reducible exact Below.refl _ _) | (with_reducible assumption) | (with_reducible refine Below.trans ?_ (Below.mono (by with_reducible assumption) ?_)) | (with_reducible refine Below.alloc ?_ ?_ _) | (with_reducible refine Below.setCell ?_ ?_ _) | (with_reducible refine below_drewN ?_ _) | (with_reducible refine Below.drew ?_) | go_size))
  have HI := Lib.hid (wd_is 1 o s m1 c1 m2 c2 A c L _ (hrow.below hb0) (fun m hm => (hkb m hm).1) hl)
  rw [h] at HI
  have X0 := Lib.hid (Wd8.new w 26 1 o s m1 c1 m2 c2 (.slice A L.length c))
  have HB0 := Lib.hid hb0
  have HBD := Lib.hid (encW_bd h)
  have HBY : Hid (isBy (encW (wdOf 1 o s m1 c1 m2 c2 L))) := Lib.hid (encW_by (fun r hr => by
    obtain ⟨m, hm, rfl⟩ := List.mem_map.1 hr
    exact hkb m hm))
  have HT := Lib.hid (fun (W : World) (q : Below w.heap.size w W) => ht.below q)
  have hh := headW_bd (okW_kind h).1
  have HZ : Hid (∀ x ∈ [(1 : Int), o, s], 0 ≤ x ∧ x ≤ 4611686018427387904) := Lib.hid (by
    have q : 0 ≤ o ∧ o < 5 ∧ 0 ≤ s ∧ s ≤ 1099511627776 := hh
    intro x hx
    simp at hx
    rcases hx with rfl | rfl | rfl <;> omega)
  have HZL := Lib.hid (numsE_len _ HZ.out)
  have HLST : Hid (∀ W, Below w.heap.size w W → Calls Tryd.prog 49 #[.slice A L.length c] W fun e w' => LsRes (L.map Mr.r) w' e ∧ Below W.heap.size W w') := Lib.hid (fun W q => rec_list _ L W (hrow.below q) (fun m hm => (hat m hm).below q) (fun m hm => (hkb m hm).1) hl)
  have HLC : Hid (lsC (L.map Mr.r) = 0) := Lib.hid (by
    rcases (okW_kind h).2 with ⟨_, _, q, _, q64⟩ | ⟨q, _⟩ | ⟨q, _⟩
    · exact lsC_ok q64 (rowB_ok _ _ _ q)
    · exact absurd q (by simp [wdOf])
    · exact absurd q (by simp [wdOf]))
  clear ht h hb0 hrow hat hkb hl hh
  go_enter Tryd.func13, Tryd.ntmps13
  go_wp2_with fail
  refine HI.out.mono ?_; rintro e w1 ⟨rfl, k1⟩
  have hb1 := HB0.out.trans (k1.mono HB0.out.size)
  have x1 := X0.out.below k1
  have S0 : St8 w (w1.alloc (.cells #[.slice none 0 0] 96)) w1.heap.size (.slice none 0 0) [] 1 o s m1 c1 m2 c2 (.slice A L.length c) :=
    ⟨Wr.new w1 _, x1.below ((Below.refl _ _).alloc (Nat.le_refl _) _), hb1.alloc hb1.size _, fun i hi => by
      rcases hi with rfl | hi
      · exact x1.lt
      · simp [Value.ownBlock] at hi⟩
  have S1 := S0.below ((Below.refl _ _).alloc (Nat.le_refl _) (.cells #[.int .i64 1, .int .i64 o, .int .i64 s] 3))
  obtain ⟨y0, y1, y2, y3, y4, y5, y6, y7, ylt⟩ := x1
  have HC := Lib.hid (wr_nums w1.heap.size (w1.heap.size + 1) 3 (.slice none 0 0) [] [1, o, s] _ S1.wr (by rintro (hk | hk) <;> first | omega | simp [Value.ownBlock] at hk) (by simp) (by intro j q; rcases (show j = 0 ∨ j = 1 ∨ j = 2 from by simp at q; omega) with rfl | rfl | rfl <;> simp) HZ.out (by simp) (by have := HZL.out; simp only [List.nil_append]; simp at this; omega))
  have HS1 := Lib.hid S1
  clear S0 S1 k1 hb1 HI X0 HB0
  go_wp2_with fail
  refine HC.out.mono ?_; rintro e w2 ⟨rfl, v2, hw2⟩
  have hs2 := HS1.out.step hw2
  rw [List.nil_append] at hs2
  have HS2 := Lib.hid hs2
  clear hw2 HC HS1 y0 y1 y2 y3 y4 y5 y6 y7 ylt
  obtain ⟨y0, y1, y2, y3, y4, y5, y6, y7, ylt⟩ := hs2.x
  have hwl := hs2.wr.lt
  clear hs2
  go_wp2_with fail
  refine (HLST.out _ HS2.out.bel).mono ?_; rintro e w3 ⟨⟨Al, cl, rfl, hyl, hnl, _, _⟩, k3⟩
  have hs3 := HS2.out.below k3
  have hll := lsV_len (L.map Mr.r)
  have HRW := Lib.hid (wr_raw w1.heap.size cl Al v2 _ (lsV (L.map Mr.r)) w3 hs3.wr (by rw [numsE_cons, List.length_append]; have := encN_len0 (1 : Int).toNat; omega) hyl (fun q => (hnl q).1) (by have := HZL.out; simp only [List.length_append]; simp at this; omega))
  rw [HLC.out]
  have HS3 := Lib.hid hs3
  clear hs3 k3 hyl hnl HLST HS2
  go_wp2_with fail
  refine HRW.out.mono ?_; rintro e w4 ⟨rfl, v4, hw4⟩
  have HS4 := Lib.hid (HS3.out.step hw4)
  clear hw4 HRW HS3
  have HEW : Hid (numsE [(1 : Int), o, s] ++ lsV (L.map Mr.r) = encW (wdOf 1 o s m1 c1 m2 c2 L)) := Lib.hid (by rw [encW_nums, if_pos rfl])
  have hS := HS4.out
  rw [HEW.out] at hS
  have HSE := Lib.hid hS
  have HO := Lib.hid (wr_out w1.heap.size v4 _ _ hS.wr (by have := HBD.out; omega))
  clear hS
  go_wp2_with fail
  refine HO.out.mono ?_; rintro e w5 ⟨⟨g, cap, rfl, hown⟩, k5⟩
  have s5 := HSE.out.below k5
  have kA : Below w5.heap.size w5 (w5.alloc (.cells #[.slice (some ⟨g, 0, none⟩) (encW (wdOf 1 o s m1 c1 m2 c2 L)).length cap] 28)) := (Below.refl _ _).alloc (Nat.le_refl _) _
  have HBA := Lib.hid (s5.bel.trans (kA.mono s5.bel.size))
  obtain ⟨A5, c5, e5, hy5, _⟩ := Own8.bytes hown
  obtain ⟨rfl, rfl⟩ : some (⟨g, 0, none⟩ : Addr) = A5 ∧ cap = c5 := by injection e5 with q1 q2 q3; exact ⟨q1, q3⟩
  have HFE := Lib.hid (fr_encode w5.heap.size 1 cap (some ⟨g, 0, none⟩) (encW (wdOf 1 o s m1 c1 m2 c2 L)) _ (HT.out _ HBA.out) (by simp) (by simp) (hy5.below kA) HBY.out HBD.out.1 (by have := HBD.out; omega))
  have hw5 : w.heap.size ≤ w5.heap.size := s5.bel.size
  clear hown k5 s5 kA hy5 HO HSE
  go_wp2_with fail
  refine HFE.out.mono ?_; rintro e w6 ⟨⟨g6, cap6, rfl, hr6⟩, k6⟩
  have HB6 := Lib.hid (HBA.out.trans (k6.mono HBA.out.size))
  have HR6 := Lib.hid (hr6.base (b2 := w.heap.size) (by simp; omega))
  clear hr6 k6 HFE
  go_wp2
  go_ret2
  exact ⟨⟨g6, cap6, rfl, HR6.out⟩, HB6.out⟩
theorem wd_enc (k o s m1 c1 m2 c2 : Int) (A : Option Addr) (c : Nat) (L : List Mr) (w : World) (ht : Nib w) (hrow : RowAt w (.slice A L.length c) L) (hat : ∀ m ∈ L, m.At (fun _ => True) w) (hkb : ∀ m ∈ L, isBy m.r.key ∧ isBy m.r.val) (hl : L.length ≤ 100000) (h : okW (wdOf k o s m1 c1 m2 c2 L) = true) :
    Calls Tryd.prog 13 #[wdV k o s m1 c1 m2 c2 (.slice A L.length c)] w fun e w' => EncRes (wdOf k o s m1 c1 m2 c2 L) w w' e ∧ Below w.heap.size w w' := by
  rcases (okW_kind h).2 with ⟨q, _⟩ | ⟨q, _⟩ | ⟨q, _⟩
  · have q' : k = 1 := q
    subst q'
    exact wd_enc_1 o s m1 c1 m2 c2 A c L w ht hrow hat hkb hl h
  · have q' : k = 2 := q
    subst q'
    exact wd_enc_2 o s m1 c1 m2 c2 A c L w ht hrow hat hkb hl h
  · have q' : k = 3 := q
    subst q'
    exact wd_enc_3 o s m1 c1 m2 c2 A c L w ht hrow hat hkb hl h
end Go.Proofs.YtdffldlcbihjmaaDoor

/- stream: Done; messages (package meridianlaw18) of two rows of one message that are one (written by gen/strf.py). -/
namespace Go.Proofs.YtdffldlcbihjmaaDoor
open Go.RowKit Go.Sort

/-- A row of one message. -/
def Msg1 (base : Nat) (w : World) (v : Value) (f t : Int) (d : List Int) : Prop := ∃ B c g cap, base ≤ B ∧ base ≤ g ∧ v = .slice (some ⟨B, 0, none⟩) 1 c ∧ XB w B [.int .i64 f, .int .i64 t, .slice (some ⟨g, 0, none⟩) d.length cap] ∧ ByL w (some ⟨g, 0, none⟩) d ∧ d.length ≤ 1000000 ∧ d.length ≤ cap ∧ cap ≤ maxLen
theorem Msg1.below {base : Nat} {w w' : World} {v : Value} {f t : Int} {d : List Int} (h : Msg1 base w v f t d) (k : Below w.heap.size w w') : Msg1 base w' v f t d := by
  obtain ⟨B, c, g, cap, q1, q2, h1, h2, h3, h4⟩ := h
  exact ⟨B, c, g, cap, q1, q2, h1, h2.below k, h3.below k, h4⟩
theorem Msg1.only {base b : Nat} {w w' : World} {v : Value} {f t : Int} {d : List Int} (h : Msg1 base w v f t d) (k : Only b w w') (hb : b < base) : Msg1 base w' v f t d := by
  obtain ⟨B, c, g, cap, q1, q2, h1, h2, h3, h4⟩ := h
  exact ⟨B, c, g, cap, q1, q2, h1, h2.only k (by omega), h3.only k (fun ad had => by injection had with had; subst had; show g ≠ b; omega), h4⟩
theorem Msg1.mono {base base' : Nat} {w : World} {v : Value} {f t : Int} {d : List Int} (h : Msg1 base w v f t d) (hb : base' ≤ base) : Msg1 base' w v f t d := by
  obtain ⟨B, c, g, cap, q1, q2, h1⟩ := h
  exact ⟨B, c, g, cap, by omega, by omega, h1⟩
theorem Msg1.shape {base : Nat} {w : World} {v : Value} {f t : Int} {d : List Int} (h : Msg1 base w v f t d) : ∃ B c, v = .slice (some ⟨B, 0, none⟩) 1 c := by
  obtain ⟨B, c, g, cap, q1, q2, h1, _⟩ := h
  exact ⟨B, c, h1⟩
def doneM (a q : Int) : Int := max a (min q 1099511627776)
theorem doneM_bd {a q : Int} (h : 0 ≤ a ∧ a ≤ 1099511627776) : 0 ≤ doneM a q ∧ doneM a q ≤ 1099511627776 := by unfold doneM; omega
/-- The bytes of an ack. -/
def ackE (o a : Int) : List Int := frE (encW (wdOf 2 o a 0 0 0 0 []))
theorem ack_okW {o a : Int} (ho : 0 ≤ o ∧ o < 5) (ha : 0 ≤ a ∧ a ≤ 1099511627776) : okW (wdOf 2 o a 0 0 0 0 []) = true := by
  simp [okW, headW, bareW, wdOf, ho.1, ho.2, ha.1, ha.2]
/-- What Done tells. -/
def DoneRes (b : Nat) (f o a' : Int) (w w' : World) (e : Ending) : Prop := ∃ v, e = .returned v ∧ Msg1 w.heap.size w' v f o (ackE o a') ∧ StPost b (inC f o a') w w'
theorem done_fin {b : Nat} {f o z : Int} {w W1 w2 V : World} {g cap n : Nat} {D : List Int} (hD : ackE o z = D) (hO : Only b w W1) (h2 : Below W1.heap.size W1 w2) (hx : XB W1 b (inC f o z)) (hr : Row8 W1.heap.size w2 g cap n D) (hn : n ≤ 1000000)
    (hV : Below w2.heap.size w2 V) {B : Nat} (hBB : w2.heap.size ≤ B) (hB : XB V B [.int .i64 f, .int .i64 o, .slice (some ⟨g, 0, none⟩) n cap]) : DoneRes b f o z w V (.returned (.slice (some ⟨B, 0, none⟩) 1 1)) := by
  subst hD
  have hl := hr.len
  subst hl
  exact ⟨_, rfl, ⟨B, 1, g, cap, Nat.le_trans hO.size (Nat.le_trans h2.size hBB), Nat.le_trans hO.size hr.ge.1, rfl, hB, (hr.below hV).by_, hn, hr.cap_le.1, hr.cap_le.2⟩, (hx.below h2).below hV, hO.trans (Only.of_below (h2.trans (hV.mono h2.size)))⟩
set_option maxRecDepth 100000 in
set_option maxHeartbeats 4000000 in
theorem st_done (b : Nat) (f o a q : Int) (w : World) (h : XB w b (inC f o a)) (ho : 0 ≤ o ∧ o < 5) (ha : 0 ≤ a ∧ a ≤ 1099511627776) (ht : ∀ W, Only b w W → Nib W) :
    Calls Tryd.prog 43 #[.pointer (some ⟨b, 0, none⟩), .int .i64 q] w fun e w' => DoneRes b f o (doneM a q) w w' e := by
  have hz := doneM_bd (q := q) ha
  obtain ⟨z, hzz⟩ : ∃ z, doneM a q = z := ⟨_, rfl⟩
  rw [hzz] at hz ⊢
  have HQ3 : Hid (max a (min q 1099511627776) = z) := Lib.hid hzz
  clear hzz ha
  have c0 := h.c 0 _ rfl
  have c1 := h.c 1 _ rfl
  have c2 := h.c 2 _ rfl
  have f2 := h.fz 2
  have lt := h.lt
  obtain ⟨W1, hW1⟩ : ∃ W1, w.setCell ⟨b, 2, none⟩ (.int .i64 z) = W1 := ⟨_, rfl⟩
  have HX1 : Hid (XB W1 b (inC f o z)) := Lib.hid (by rw [← hW1]; exact h.set 2 (by simp) (.int .i64 z))
  have HO1 : Hid (Only b w W1) := Lib.hid (by rw [← hW1]; exact (Only.refl _ _).setB _)
  have HW1 := Lib.hid hW1
  obtain ⟨D, hD⟩ : ∃ D, ackE o z = D := ⟨_, rfl⟩
  obtain ⟨n, hn⟩ : ∃ n, 12 + (encW (wdOf 2 o z 0 0 0 0 [])).length = n := ⟨_, rfl⟩
  have HD := Lib.hid hD
  have HN : Hid (n ≤ 1000000) := Lib.hid (by have := encW_bd (ack_okW ho hz); omega)
  have HENC : Hid (∀ W, Only b w W → Calls Tryd.prog 13 #[wdV 2 o z 0 0 0 0 (.slice none 0 0)] W fun e w' => (∃ g cap, e = .returned (.tuple #[.slice (some ⟨g, 0, none⟩) n cap, .int .i64 0]) ∧ Row8 W.heap.size w' g cap n D) ∧ Below W.heap.size W w') := Lib.hid (fun W k => by
    subst hn hD
    exact wd_enc 2 o z 0 0 0 0 none 0 [] W (ht W k) ⟨_, _, rfl, fun h => absurd h (by simp)⟩ (fun _ h => by cases h) (fun _ h => by cases h) (by simp) (ack_okW ho hz))
  clear h ht ho hz hD hn hW1
  go_enter Tryd.func43, Tryd.ntmps43
  go_upto_region 4 with fail
  rw [HQ3.out, HW1.out]
  clear c0 c1 c2 f2 lt
  have lt := HX1.out.lt
  refine wp_region_held_drew (S := (fun w' => w'.cell? ⟨b, 1, none⟩ = some (.int .i64 o) ∧ w'.cell? ⟨b, 2, none⟩ = some (.int .i64 z))) (by kernel_rfl) ?_ (fun hHeld => ?_)
  · exact ⟨HX1.out.c 1 _ rfl, HX1.out.c 2 _ rfl⟩
  refine wpAnyH_take (i := 0) (v := ?_) rfl (by kernel_rfl) (by kernel_rfl) (by kernel_rfl) (fun _ _ _ h => h) (Or.inl ⟨by rfl, ?_⟩) (by assumption) ?_
  rotate_left
  · intro w' hSw; (try dsimp only at hSw); go_simp; (try with_reducible rfl)
  (try simp only [Act.put, List.setIfInBounds_toArray, List.set_cons_zero, List.set_cons_succ, List.getElem_toArray, List.getElem_cons_succ, List.getElem_cons_zero])
  refine wpAnyH_take (i := 1) (v := ?_) rfl (by kernel_rfl) (by kernel_rfl) (by kernel_rfl) (fun _ _ _ h => h) (Or.inl ⟨by rfl, ?_⟩) (by assumption) ?_
  rotate_left
  · intro w' hSw; (try dsimp only at hSw); go_simp; (try with_reducible rfl)
  (try simp only [Act.put, List.setIfInBounds_toArray, List.set_cons_zero, List.set_cons_succ, List.getElem_toArray, List.getElem_cons_succ, List.getElem_cons_zero])
  refine wpAnyH_take (i := 2) (v := ?_) rfl (by kernel_rfl) (by kernel_rfl) (by kernel_rfl) (fun _ _ _ h => h) (Or.inl ⟨by rfl, ?_⟩) (by assumption) ?_
  rotate_left
  · intro w' hSw; (try dsimp only at hSw); go_simp; (try with_reducible rfl)
  (try simp only [Act.put, List.setIfInBounds_toArray, List.set_cons_zero, List.set_cons_succ, List.getElem_toArray, List.getElem_cons_succ, List.getElem_cons_zero])
  refine wpAnyH_take (i := 3) (v := ?_) rfl (by kernel_rfl) (by kernel_rfl) (by kernel_rfl) (fun _ _ _ h => h) (Or.inl ⟨by rfl, ?_⟩) (by assumption) ?_
  rotate_left
  · intro w' hSw; (try dsimp only at hSw); go_simp; (try with_reducible rfl)
  (try simp only [Act.put, List.setIfInBounds_toArray, List.set_cons_zero, List.set_cons_succ, List.getElem_toArray, List.getElem_cons_succ, List.getElem_cons_zero])
  refine wpAnyH_take (i := 4) (v := ?_) rfl (by kernel_rfl) (by kernel_rfl) (by kernel_rfl) (fun _ _ _ h => h) (Or.inl ⟨by rfl, ?_⟩) (by assumption) ?_
  rotate_left
  · intro w' hSw; (try dsimp only at hSw); go_simp; (try with_reducible rfl)
  (try simp only [Act.put, List.setIfInBounds_toArray, List.set_cons_zero, List.set_cons_succ, List.getElem_toArray, List.getElem_cons_succ, List.getElem_cons_zero])
  refine wpAnyH_take (i := 5) (v := ?_) rfl (by kernel_rfl) (by kernel_rfl) (by kernel_rfl) (fun _ _ _ h => h) (Or.inl ⟨by rfl, ?_⟩) (by assumption) ?_
  rotate_left
  · intro w' hSw; (try dsimp only at hSw); go_simp; (try with_reducible rfl)
  (try simp only [Act.put, List.setIfInBounds_toArray, List.set_cons_zero, List.set_cons_succ, List.getElem_toArray, List.getElem_cons_succ, List.getElem_cons_zero])
  refine wpAnyH_take (i := 6) (v := ?_) rfl (by kernel_rfl) (by kernel_rfl) (by kernel_rfl) (fun _ _ _ h => h) (Or.inl ⟨by rfl, ?_⟩) (by assumption) ?_
  rotate_left
  · intro w' hSw; (try dsimp only at hSw); go_simp; (try with_reducible rfl)
  (try simp only [Act.put, List.setIfInBounds_toArray, List.set_cons_zero, List.set_cons_succ, List.getElem_toArray, List.getElem_cons_succ, List.getElem_cons_zero])
  refine wpAnyH_take (i := 7) (v := ?_) rfl (by kernel_rfl) (by kernel_rfl) (by kernel_rfl) (fun _ _ _ h => h) (Or.inl ⟨by rfl, ?_⟩) (by assumption) ?_
  rotate_left
  · intro w' hSw; (try dsimp only at hSw); go_simp; (try with_reducible rfl)
  (try simp only [Act.put, List.setIfInBounds_toArray, List.set_cons_zero, List.set_cons_succ, List.getElem_toArray, List.getElem_cons_succ, List.getElem_cons_zero])
  refine wpAnyH_take (i := 8) (v := ?_) rfl (by kernel_rfl) (by kernel_rfl) (by kernel_rfl) (fun _ _ _ h => h) (Or.inl ⟨by rfl, ?_⟩) (by assumption) ?_
  rotate_left
  · intro w' hSw; (try dsimp only at hSw); go_simp; (try with_reducible rfl)
  (try simp only [Act.put, List.setIfInBounds_toArray, List.set_cons_zero, List.set_cons_succ, List.getElem_toArray, List.getElem_cons_succ, List.getElem_cons_zero])
  refine wpAnyH_ready (rs := [9]) (by kernel_rfl) (by simp) ?_
  refine AllReadyH.cons rfl (fun K hK => ?_) AllReadyH.nil
  go_simp
  (go_at_call 13; refine (HENC.out _ HO1.out.drew).mono ?_; rintro e w2 ⟨⟨g, cap, rfl, hr⟩, k2⟩; have k2' : Below W1.heap.size W1 w2 := (Below.refl W1.heap.size W1).drew.trans k2; have HX2 := Lib.hid (HX1.out.below k2'); have HR2 : Hid (Row8 W1.heap.size w2 g cap n D) := Lib.hid hr; have HK2 : Hid (Below W1.heap.size W1 w2) := Lib.hid k2'; clear hr k2 k2')
  (try dsimp only)
  refine hK.out _ _ ?_ (fun hHeld => ?_)
  · exact ⟨HX2.out.c 1 _ rfl, HX2.out.c 2 _ rfl⟩
  clear hK K
  (try simp only [Act.put, List.setIfInBounds_toArray, List.set_cons_zero, List.set_cons_succ, List.getElem_toArray, List.getElem_cons_succ, List.getElem_cons_zero])
  refine wpAnyH_take (i := 10) (v := ?_) rfl (by kernel_rfl) (by kernel_rfl) (by kernel_rfl) (fun _ _ _ h => h) (Or.inl ⟨by rfl, ?_⟩) (by assumption) ?_
  rotate_left
  · intro w' hSw; (try dsimp only at hSw); go_simp; (try with_reducible rfl)
  (try simp only [Act.put, List.setIfInBounds_toArray, List.set_cons_zero, List.set_cons_succ, List.getElem_toArray, List.getElem_cons_succ, List.getElem_cons_zero])
  refine wpAnyH_take (i := 11) (v := ?_) rfl (by kernel_rfl) (by kernel_rfl) (by kernel_rfl) (fun _ _ _ h => h) (Or.inl ⟨by rfl, ?_⟩) (by assumption) ?_
  rotate_left
  · intro w' hSw; (try dsimp only at hSw); go_simp; (try with_reducible rfl)
  (try simp only [Act.put, List.setIfInBounds_toArray, List.set_cons_zero, List.set_cons_succ, List.getElem_toArray, List.getElem_cons_succ, List.getElem_cons_zero])
  refine wpAnyH_take (i := 12) (v := ?_) rfl (by kernel_rfl) (by kernel_rfl) (by kernel_rfl) (fun _ _ _ h => h) (Or.inl ⟨by rfl, ?_⟩) (by assumption) ?_
  rotate_left
  · intro w' hSw; (try dsimp only at hSw); go_simp; (try with_reducible rfl)
  (try simp only [Act.put, List.setIfInBounds_toArray, List.set_cons_zero, List.set_cons_succ, List.getElem_toArray, List.getElem_cons_succ, List.getElem_cons_zero])
  refine wpAnyH_take (i := 13) (v := ?_) rfl (by kernel_rfl) (by kernel_rfl) (by kernel_rfl) (fun _ _ _ h => h) (Or.inl ⟨by rfl, ?_⟩) (by assumption) ?_
  rotate_left
  · intro w' hSw; (try dsimp only at hSw); go_simp; (try with_reducible rfl)
  (try simp only [Act.put, List.setIfInBounds_toArray, List.set_cons_zero, List.set_cons_succ, List.getElem_toArray, List.getElem_cons_succ, List.getElem_cons_zero])
  refine wpAnyH_take (i := 14) (v := ?_) rfl (by kernel_rfl) (by kernel_rfl) (by kernel_rfl) (fun _ _ _ h => h) (Or.inl ⟨by rfl, ?_⟩) (by assumption) ?_
  rotate_left
  · intro w' hSw; (try dsimp only at hSw); go_simp; (try with_reducible rfl)
  (try simp only [Act.put, List.setIfInBounds_toArray, List.set_cons_zero, List.set_cons_succ, List.getElem_toArray, List.getElem_cons_succ, List.getElem_cons_zero])
  refine wpAnyH_done (by kernel_rfl) ?_ _
  clear hHeld lt
  have c0 := HX2.out.c 0 _ rfl
  have c1 := HX2.out.c 1 _ rfl
  have lt := HX2.out.lt
  go_wp2_with fail
  go_region
  go_wp2
  go_ret
  exact done_fin HD.out HO1.out HK2.out HX1.out HR2.out HN.out (by (repeat' (first | (with_reducible exact Below.refl _ _) | (with_reducible assumption) | (with_reducible refine Below.trans ?_ (Below.mono (by with_reducible assumption) ?_)) | (with_reducible refine Below.alloc ?_ ?_ _) | (with_reducible refine Below.setCell ?_ ?_ _) | (with_reducible refine below_drewN ?_ _) | (with_reducible refine Below.drew ?_) | go_size))) (Nat.le_refl _) ((XB.new w2 #[.int .i64 f, .int .i64 o, .slice (some ⟨g, 0, none⟩) n cap] 84).below (by (repeat' (first | (with_reducible exact Below.refl _ _) | (with_reducible assumption) | (with_reducible refine Below.trans ?_ (Below.mono (by with_reducible assumption) ?_)) | (with_reducible refine Below.alloc ?_ ?_ _) | (with_reducible refine Below.setCell ?_ ?_ _) | (with_reducible refine below_drewN ?_ _) | (with_reducible refine Below.drew ?_) | go_size))))

set_option maxRecDepth 100000 in
set_option maxHeartbeats 4000000 in
theorem law_messages (v v' : Value) (f t : Int) (d : List Int) (w : World) {base base' : Nat} (h : Msg1 base w v f t d) (h' : Msg1 base' w v' f t d) :
    Calls Tryd.prog 36 #[v, v'] w fun e w' => e = .returned (.bool true) ∧ Below w.heap.size w w' := by
  obtain ⟨B, c, g, cap, _, _, rfl, hx, hy, hl, _⟩ := h
  obtain ⟨B', c', g', cap', _, _, rfl, hx', hy', _, _⟩ := h'
  have HCON : Hid (∀ W, Below w.heap.size w W → Calls Tryd.prog 73 #[.slice (some ⟨g, 0, none⟩) d.length cap, .slice (some ⟨g', 0, none⟩) d.length cap'] W fun e w' => e = .returned (.bool true) ∧ Below W.heap.size W w') := Lib.hid (fun W k => (lsame18 (some ⟨g, 0, none⟩) d cap (some ⟨g', 0, none⟩) d cap' W hl hl (hy.below k) (hy'.below k)).mono fun e w' ⟨q1, q, q2⟩ => ⟨by rw [q1]; simp, by rw [q2]; exact drewN_below18 W q⟩)
  generalize d.length = n at *
  have x0 := fun d os => cell_regrown (hx.c 0 _ rfl) d os
  have x1 := fun d os => cell_regrown (hx.c 1 _ rfl) d os
  have x2 := fun d os => cell_regrown (hx.c 2 _ rfl) d os
  have y0 := fun d os => cell_regrown (hx'.c 0 _ rfl) d os
  have y1 := fun d os => cell_regrown (hx'.c 1 _ rfl) d os
  have y2 := fun d os => cell_regrown (hx'.c 2 _ rfl) d os
  have AC := Lib.hid fun (d' : Nat) (os : Array Obj) => Calls.regrown_of (HCON.out (grow (redrawn w d') os) (below_regrown w d' os))
  clear hx hx' hy hy' hl HCON
  go_enter Tryd.func36, Tryd.ntmps36
  go_wp2
  refine wp_loop_rounds 2 ?_
  rw [rounds_succ]
  go_wp2_with fail
  refine wp_region_quiet_below (by kernel_rfl) (by kernel_rfl) ?_
  repeat (go_big_quiet_step ((go_at_call 73; exact AC.out _ _)))
  refine wpQuiet_nil ?_
  intro _ hw'
  obtain ⟨⟨dq, osq⟩, hw''⟩ := hw'
  subst hw''
  have HQ := Lib.hid (below_regrown w dq osq)
  clear AC x0 x1 x2 y0 y1 y2
  generalize hgw : grow (redrawn w dq) osq = W2 at *
  clear hgw
  go_wp2
  rw [rounds_succ]
  go_wp2
  go_ret
  exact ⟨rfl, HQ.out⟩
end Go.Proofs.YtdffldlcbihjmaaDoor

/- records, heavy of package meridianlaw18: whether two rows of records are one (written by gen/recs18.py). -/
namespace Go.Proofs.YtdffldlcbihjmaaDoor
open Go.RowKit

theorem sameRB_iff18 {a b : Rc} (ha : isBy a.key) (hb : isBy b.key) : sameRB a.o a.s (strB a.key) a.ml a.ct a.vo a.val a.gone a.tt b.o b.s (strB b.key) b.ml b.ct b.vo b.val b.gone b.tt = true ↔ a = b := by
  obtain ⟨o, s, key, ml, ct, vo, val, gone, tt⟩ := a
  obtain ⟨o', s', key', ml', ct', vo', val', gone', tt'⟩ := b
  simp only [sameRB, sameVB, Bool.and_eq_true, decide_eq_true_eq, Rc.mk.injEq, strB_inj ha hb]
set_option maxRecDepth 100000 in
set_option maxHeartbeats 4000000 in
theorem law_recs18 (v v' : Value) (L L' : List Mr) (w : World) (h : RowAt w v L) (h' : RowAt w v' L') (ha : ∀ m ∈ L, m.At (fun _ => True) w) (ha' : ∀ m ∈ L', m.At (fun _ => True) w) (hb : ∀ m ∈ L, isBy m.r.val) (hbk : ∀ m ∈ L, isBy m.r.key) (hb' : ∀ m ∈ L', isBy m.r.key ∧ isBy m.r.val) (hl : L.length ≤ 100000) :
    Calls Tryd.prog 42 #[v, v'] w fun e w' => (∃ b, e = .returned (.bool b) ∧ (b = true ↔ L.map Mr.r = L'.map Mr.r)) ∧ Below w.heap.size w w' := by
  obtain ⟨A, c, rfl, hc⟩ := h.ex
  obtain ⟨A', c', rfl, hc'⟩ := h'.ex
  by_cases hll : L'.length = L.length
  rotate_left
  · have t0 : ((L.length : Int) != (L'.length : Int)) = true := by simp only [bne_iff_ne, ne_eq]; omega
    have t0' : (L.length != L'.length) = true := by simp only [bne_iff_ne, ne_eq]; omega
    have HN : Hid (¬ L.map Mr.r = L'.map Mr.r) := Lib.hid (fun q => hll (by have := congrArg List.length q; simpa using this.symm))
    clear h h' hc hc' ha ha' hb hbk hb' hll hl
    go_enter Tryd.func42, Tryd.ntmps42
    go_wp2
    go_ret
    exact ⟨⟨false, rfl, by simp; exact HN.out⟩, Below.refl _ _⟩
  have HC := Lib.hid (And.intro hc hc')
  have HA := Lib.hid (And.intro ha (And.intro ha' (And.intro hb (And.intro hbk hb'))))
  have HLL := Lib.hid hll
  have hni : (L.length : Int) ≤ 100000 := by omega
  rw [hll]
  clear h h' hc hc' ha ha' hb hbk hb' hl hll
  go_enter Tryd.func42, Tryd.ntmps42
  go_wp2
  go_loopw [5] (fun i wr => ∃ k : Nat, k ≤ L.length ∧ i = .int .i64 k ∧ Below w.heap.size w wr ∧ Hid ((L.map Mr.r).take k = (L'.map Mr.r).take k)) (fun i _ => L.length - (intOf i).toNat)
  case atStart => exact ⟨0, Nat.zero_le _, rfl, Below.refl _ _, Lib.hid rfl⟩
  case round =>
    obtain ⟨k, hk, rfl, hB, HTK⟩ := hrel
    by_cases hlt : k < L.length
    · have lk : (k : Int) < (L.length : Int) := by omega
      obtain ⟨B, O, rfl, hBl, hcell⟩ := HC.out.1 (by omega)
      obtain ⟨B', O', rfl, hBl', hcell'⟩ := HC.out.2 (by have := HLL.out; omega)
      have hlt' : k < L'.length := by have := HLL.out; omega
      have hx : L[k]? = some L[k] := List.getElem?_eq_getElem hlt
      have hx' : L'[k]? = some L'[k] := List.getElem?_eq_getElem hlt'
      have hm := HA.out.1 L[k] (List.getElem_mem hlt)
      have hm' := HA.out.2.1 L'[k] (List.getElem_mem hlt')
      have hbv := HA.out.2.2.1 L[k] (List.getElem_mem hlt)
      have hbkk := HA.out.2.2.2.1 L[k] (List.getElem_mem hlt)
      have hbv' := HA.out.2.2.2.2 L'[k] (List.getElem_mem hlt')
      have HTN : Hid (L[k].r = L'[k].r → (L.map Mr.r).take (k + 1) = (L'.map Mr.r).take (k + 1)) := Lib.hid (fun q => by
        rw [List.take_succ_eq_append_getElem (by simpa using hlt), List.take_succ_eq_append_getElem (by simpa using hlt'), HTK.out]
        simp [q])
      have HTF : Hid (L[k].r ≠ L'[k].r → ¬ L.map Mr.r = L'.map Mr.r) := Lib.hid (fun q e => q (by
        have := congrArg (fun l => l[k]?) e
        simpa [hlt, hlt'] using this))
      clear HTK
      generalize L[k] = x at *
      generalize L'[k] = x' at *
      have HKEEP : Hid (∀ W, Below w.heap.size w W → W.cell? ⟨B, O + k * 9, none⟩ = some (.int .i64 x.r.o) ∧ W.cell? ⟨B, O + k * 9 + 1, none⟩ = some (.int .i64 x.r.s) ∧ W.cell? ⟨B, O + k * 9 + 2, none⟩ = some (.string (strB x.r.key)) ∧ W.cell? ⟨B, O + k * 9 + 3, none⟩ = some (.int .i64 x.r.ml) ∧ W.cell? ⟨B, O + k * 9 + 4, none⟩ = some (.int .i64 x.r.ct) ∧ W.cell? ⟨B, O + k * 9 + 5, none⟩ = some (.int .i64 x.r.vo) ∧ W.cell? ⟨B, O + k * 9 + 6, none⟩ = some (.slice x.A x.r.val.length x.c) ∧ W.cell? ⟨B, O + k * 9 + 7, none⟩ = some (.bool x.r.gone) ∧ W.cell? ⟨B, O + k * 9 + 8, none⟩ = some (.int .i64 x.r.tt) ∧ W.cell? ⟨B', O' + k * 9, none⟩ = some (.int .i64 x'.r.o) ∧ W.cell? ⟨B', O' + k * 9 + 1, none⟩ = some (.int .i64 x'.r.s) ∧ W.cell? ⟨B', O' + k * 9 + 2, none⟩ = some (.string (strB x'.r.key)) ∧ W.cell? ⟨B', O' + k * 9 + 3, none⟩ = some (.int .i64 x'.r.ml) ∧ W.cell? ⟨B', O' + k * 9 + 4, none⟩ = some (.int .i64 x'.r.ct) ∧ W.cell? ⟨B', O' + k * 9 + 5, none⟩ = some (.int .i64 x'.r.vo) ∧ W.cell? ⟨B', O' + k * 9 + 6, none⟩ = some (.slice x'.A x'.r.val.length x'.c) ∧ W.cell? ⟨B', O' + k * 9 + 7, none⟩ = some (.bool x'.r.gone) ∧ W.cell? ⟨B', O' + k * 9 + 8, none⟩ = some (.int .i64 x'.r.tt)) := Lib.hid (fun W hW => ⟨((hW.cell (p := ⟨B, O + k * 9, none⟩) hBl).trans (hcell (k * 9) _ (by have := rowM_at hx 0 (by omega); rwa [Nat.add_zero] at this))), (by rw [Nat.add_assoc]; exact (hW.cell (p := ⟨B, O + (k * 9 + 1), none⟩) hBl).trans (hcell _ _ (rowM_at hx 1 (by omega)))), (by rw [Nat.add_assoc]; exact (hW.cell (p := ⟨B, O + (k * 9 + 2), none⟩) hBl).trans (hcell _ _ (rowM_at hx 2 (by omega)))), (by rw [Nat.add_assoc]; exact (hW.cell (p := ⟨B, O + (k * 9 + 3), none⟩) hBl).trans (hcell _ _ (rowM_at hx 3 (by omega)))), (by rw [Nat.add_assoc]; exact (hW.cell (p := ⟨B, O + (k * 9 + 4), none⟩) hBl).trans (hcell _ _ (rowM_at hx 4 (by omega)))), (by rw [Nat.add_assoc]; exact (hW.cell (p := ⟨B, O + (k * 9 + 5), none⟩) hBl).trans (hcell _ _ (rowM_at hx 5 (by omega)))), (by rw [Nat.add_assoc]; exact (hW.cell (p := ⟨B, O + (k * 9 + 6), none⟩) hBl).trans (hcell _ _ (rowM_at hx 6 (by omega)))), (by rw [Nat.add_assoc]; exact (hW.cell (p := ⟨B, O + (k * 9 + 7), none⟩) hBl).trans (hcell _ _ (rowM_at hx 7 (by omega)))), (by rw [Nat.add_assoc]; exact (hW.cell (p := ⟨B, O + (k * 9 + 8), none⟩) hBl).trans (hcell _ _ (rowM_at hx 8 (by omega)))), ((hW.cell (p := ⟨B', O' + k * 9, none⟩) hBl').trans (hcell' (k * 9) _ (by have := rowM_at hx' 0 (by omega); rwa [Nat.add_zero] at this))), (by rw [Nat.add_assoc]; exact (hW.cell (p := ⟨B', O' + (k * 9 + 1), none⟩) hBl').trans (hcell' _ _ (rowM_at hx' 1 (by omega)))), (by rw [Nat.add_assoc]; exact (hW.cell (p := ⟨B', O' + (k * 9 + 2), none⟩) hBl').trans (hcell' _ _ (rowM_at hx' 2 (by omega)))), (by rw [Nat.add_assoc]; exact (hW.cell (p := ⟨B', O' + (k * 9 + 3), none⟩) hBl').trans (hcell' _ _ (rowM_at hx' 3 (by omega)))), (by rw [Nat.add_assoc]; exact (hW.cell (p := ⟨B', O' + (k * 9 + 4), none⟩) hBl').trans (hcell' _ _ (rowM_at hx' 4 (by omega)))), (by rw [Nat.add_assoc]; exact (hW.cell (p := ⟨B', O' + (k * 9 + 5), none⟩) hBl').trans (hcell' _ _ (rowM_at hx' 5 (by omega)))), (by rw [Nat.add_assoc]; exact (hW.cell (p := ⟨B', O' + (k * 9 + 6), none⟩) hBl').trans (hcell' _ _ (rowM_at hx' 6 (by omega)))), (by rw [Nat.add_assoc]; exact (hW.cell (p := ⟨B', O' + (k * 9 + 7), none⟩) hBl').trans (hcell' _ _ (rowM_at hx' 7 (by omega)))), (by rw [Nat.add_assoc]; exact (hW.cell (p := ⟨B', O' + (k * 9 + 8), none⟩) hBl').trans (hcell' _ _ (rowM_at hx' 8 (by omega))))⟩)
      obtain ⟨bb, hbb⟩ : ∃ bb, sameRB x.r.o x.r.s (strB x.r.key) x.r.ml x.r.ct x.r.vo x.r.val x.r.gone x.r.tt x'.r.o x'.r.s (strB x'.r.key) x'.r.ml x'.r.ct x'.r.vo x'.r.val x'.r.gone x'.r.tt = bb := ⟨_, rfl⟩
      have HBB : Hid (bb = true ↔ x.r = x'.r) := Lib.hid (by rw [← hbb]; exact sameRB_iff18 hbkk hbv'.1)
      have HS : Hid (∀ W, Below w.heap.size w W → Calls Tryd.prog 76 #[recV x.r.o x.r.s (strB x.r.key) x.r.ml x.r.ct x.r.vo x.A x.r.val.length x.c x.r.gone x.r.tt, recV x'.r.o x'.r.s (strB x'.r.key) x'.r.ml x'.r.ct x'.r.vo x'.A x'.r.val.length x'.c x'.r.gone x'.r.tt] W fun e w' => e = .returned (.bool bb) ∧ Below W.heap.size W w') := Lib.hid (fun W hW => by
        have q := ref_same x.r.o x.r.s (strB x.r.key) x.r.ml x.r.ct x.r.vo x.r.val x.r.gone x.r.tt x.A x.c x'.r.o x'.r.s (strB x'.r.key) x'.r.ml x'.r.ct x'.r.vo x'.r.val x'.r.gone x'.r.tt x'.A x'.c W (hm.b.below hW) hbv hm.n (hm'.b.below hW) hbv'.2 hm'.n
        rw [hbb] at q
        exact q)
      clear hbb
      have hi1 : ((k : Int).toNat) = k := by simp
      have lk' : (k : Int) < (L'.length : Int) := by omega
      have HB1 := Lib.hid hB
      clear hm hm' hbv hbkk hbv' hcell hcell' hx hx' hB hlt'
      go_wp2_with fail
      refine wp_region_held_drew (S := fun w' => w'.cell? ⟨B, O + k * 9, none⟩ = some (.int .i64 x.r.o) ∧ w'.cell? ⟨B, O + k * 9 + 1, none⟩ = some (.int .i64 x.r.s) ∧ w'.cell? ⟨B, O + k * 9 + 2, none⟩ = some (.string (strB x.r.key)) ∧ w'.cell? ⟨B, O + k * 9 + 3, none⟩ = some (.int .i64 x.r.ml) ∧ w'.cell? ⟨B, O + k * 9 + 4, none⟩ = some (.int .i64 x.r.ct) ∧ w'.cell? ⟨B, O + k * 9 + 5, none⟩ = some (.int .i64 x.r.vo) ∧ w'.cell? ⟨B, O + k * 9 + 6, none⟩ = some (.slice x.A x.r.val.length x.c) ∧ w'.cell? ⟨B, O + k * 9 + 7, none⟩ = some (.bool x.r.gone) ∧ w'.cell? ⟨B, O + k * 9 + 8, none⟩ = some (.int .i64 x.r.tt) ∧ w'.cell? ⟨B', O' + k * 9, none⟩ = some (.int .i64 x'.r.o) ∧ w'.cell? ⟨B', O' + k * 9 + 1, none⟩ = some (.int .i64 x'.r.s) ∧ w'.cell? ⟨B', O' + k * 9 + 2, none⟩ = some (.string (strB x'.r.key)) ∧ w'.cell? ⟨B', O' + k * 9 + 3, none⟩ = some (.int .i64 x'.r.ml) ∧ w'.cell? ⟨B', O' + k * 9 + 4, none⟩ = some (.int .i64 x'.r.ct) ∧ w'.cell? ⟨B', O' + k * 9 + 5, none⟩ = some (.int .i64 x'.r.vo) ∧ w'.cell? ⟨B', O' + k * 9 + 6, none⟩ = some (.slice x'.A x'.r.val.length x'.c) ∧ w'.cell? ⟨B', O' + k * 9 + 7, none⟩ = some (.bool x'.r.gone) ∧ w'.cell? ⟨B', O' + k * 9 + 8, none⟩ = some (.int .i64 x'.r.tt)) (by kernel_rfl) ?_ (fun hHeld => ?_)
      · exact HKEEP.out _ HB1.out.drew
      refine wpAnyH_take (i := 0) (v := ?_) rfl (by kernel_rfl) (by kernel_rfl) (by kernel_rfl) (fun _ _ _ h => h) (Or.inl ⟨by rfl, ?_⟩) (by assumption) ?_
      rotate_left
      · intro w' hSw; (try dsimp only at hSw); go_simp; (try with_reducible rfl)
      (try simp only [Act.put, List.setIfInBounds_toArray, List.set_cons_zero, List.set_cons_succ, List.getElem_toArray, List.getElem_cons_succ, List.getElem_cons_zero])
      refine wpAnyH_take (i := 1) (v := ?_) rfl (by kernel_rfl) (by kernel_rfl) (by kernel_rfl) (fun _ _ _ h => h) (Or.inl ⟨by rfl, ?_⟩) (by assumption) ?_
      rotate_left
      · intro w' hSw; (try dsimp only at hSw); go_simp; (try with_reducible rfl)
      (try simp only [Act.put, List.setIfInBounds_toArray, List.set_cons_zero, List.set_cons_succ, List.getElem_toArray, List.getElem_cons_succ, List.getElem_cons_zero])
      refine wpAnyH_take (i := 2) (v := ?_) rfl (by kernel_rfl) (by kernel_rfl) (by kernel_rfl) (fun _ _ _ h => h) (Or.inl ⟨by rfl, ?_⟩) (by assumption) ?_
      rotate_left
      · intro w' hSw; (try dsimp only at hSw); go_simp; (try with_reducible rfl)
      (try simp only [Act.put, List.setIfInBounds_toArray, List.set_cons_zero, List.set_cons_succ, List.getElem_toArray, List.getElem_cons_succ, List.getElem_cons_zero])
      refine wpAnyH_take (i := 3) (v := ?_) rfl (by kernel_rfl) (by kernel_rfl) (by kernel_rfl) (fun _ _ _ h => h) (Or.inl ⟨by rfl, ?_⟩) (by assumption) ?_
      rotate_left
      · intro w' hSw; (try dsimp only at hSw); go_simp; (try with_reducible rfl)
      (try simp only [Act.put, List.setIfInBounds_toArray, List.set_cons_zero, List.set_cons_succ, List.getElem_toArray, List.getElem_cons_succ, List.getElem_cons_zero])
      refine wpAnyH_take (i := 4) (v := ?_) rfl (by kernel_rfl) (by kernel_rfl) (by kernel_rfl) (fun _ _ _ h => h) (Or.inl ⟨by rfl, ?_⟩) (by assumption) ?_
      rotate_left
      · intro w' hSw; (try dsimp only at hSw); go_simp; (try with_reducible rfl)
      (try simp only [Act.put, List.setIfInBounds_toArray, List.set_cons_zero, List.set_cons_succ, List.getElem_toArray, List.getElem_cons_succ, List.getElem_cons_zero])
      refine wpAnyH_take (i := 5) (v := ?_) rfl (by kernel_rfl) (by kernel_rfl) (by kernel_rfl) (fun _ _ _ h => h) (Or.inl ⟨by rfl, ?_⟩) (by assumption) ?_
      rotate_left
      · intro w' hSw; (try dsimp only at hSw); go_simp; (try with_reducible rfl)
      (try simp only [Act.put, List.setIfInBounds_toArray, List.set_cons_zero, List.set_cons_succ, List.getElem_toArray, List.getElem_cons_succ, List.getElem_cons_zero])
      refine wpAnyH_take (i := 6) (v := ?_) rfl (by kernel_rfl) (by kernel_rfl) (by kernel_rfl) (fun _ _ _ h => h) (Or.inl ⟨by rfl, ?_⟩) (by assumption) ?_
      rotate_left
      · intro w' hSw; (try dsimp only at hSw); go_simp; (try with_reducible rfl)
      (try simp only [Act.put, List.setIfInBounds_toArray, List.set_cons_zero, List.set_cons_succ, List.getElem_toArray, List.getElem_cons_succ, List.getElem_cons_zero])
      refine wpAnyH_take (i := 7) (v := ?_) rfl (by kernel_rfl) (by kernel_rfl) (by kernel_rfl) (fun _ _ _ h => h) (Or.inl ⟨by rfl, ?_⟩) (by assumption) ?_
      rotate_left
      · intro w' hSw; (try dsimp only at hSw); go_simp; (try with_reducible rfl)
      (try simp only [Act.put, List.setIfInBounds_toArray, List.set_cons_zero, List.set_cons_succ, List.getElem_toArray, List.getElem_cons_succ, List.getElem_cons_zero])
      refine wpAnyH_ready (rs := [8]) (by kernel_rfl) (by simp) ?_
      refine AllReadyH.cons rfl (fun K hK => ?_) AllReadyH.nil
      go_simp
      (go_at_call 76; refine (HS.out _ HB1.out.drew).mono ?_; rintro e W2 ⟨rfl, k2⟩; have HB2 := HB1.out.drew.trans (k2.mono HB1.out.drew.size))
      (try dsimp only)
      refine hK.out _ _ ?_ (fun hHeld => ?_)
      · exact HKEEP.out _ HB2
      clear hK K
      (try simp only [Act.put, List.setIfInBounds_toArray, List.set_cons_zero, List.set_cons_succ, List.getElem_toArray, List.getElem_cons_succ, List.getElem_cons_zero])
      refine wpAnyH_take (i := 9) (v := ?_) rfl (by kernel_rfl) (by kernel_rfl) (by kernel_rfl) (fun _ _ _ h => h) (Or.inl ⟨by rfl, ?_⟩) (by assumption) ?_
      rotate_left
      · intro w' hSw; (try dsimp only at hSw); go_simp; (try with_reducible rfl)
      (try simp only [Act.put, List.setIfInBounds_toArray, List.set_cons_zero, List.set_cons_succ, List.getElem_toArray, List.getElem_cons_succ, List.getElem_cons_zero])
      refine wpAnyH_done (by kernel_rfl) ?_ _
      cases bb
      · have HNE := Lib.hid (HTF.out (fun q => by have := HBB.out.2 q; cases this))
        have HB2' := Lib.hid HB2
        clear HB2 HTF HTN HBB
        go_wp2
        go_ret
        exact ⟨⟨false, rfl, by simp; exact HNE.out⟩, HB2'.out⟩
      · have HNE := Lib.hid (HTN.out (HBB.out.1 rfl))
        clear HTF HTN HBB
        go_wp2
        go_roundw
        case rel => exact ⟨k + 1, by omega, by go_num, HB2, HNE⟩
        case measure => simp [intOf]; omega
    · obtain rfl : k = L.length := by omega
      have HB1 := Lib.hid hB
      have HEQ : Hid (L.map Mr.r = L'.map Mr.r) := Lib.hid (by
        have h1 := HTK.out
        rw [List.take_of_length_le (by simp), List.take_of_length_le (by simp; have := HLL.out; omega)] at h1
        exact h1)
      clear hB hlt HTK
      go_wp2
      go_ret
      exact ⟨⟨true, rfl, by simp; exact HEQ.out⟩, HB1.out⟩
set_option maxRecDepth 100000 in
set_option maxHeartbeats 4000000 in
theorem law_heavy18 (v : Value) (L : List Mr) (w : World) (h : RowAt w v L) (hs : ∀ m ∈ L, m.r.val.length ≤ 281474976710656 ∧ m.r.key.length ≤ 281474976710656) (hl : L.length ≤ maxLen) :
    Calls Tryd.prog 23 #[v] w fun e w' => (∃ b, e = .returned (.bool b) ∧ (b = false → L.length ≤ 400)) ∧ ∃ q, w' = w.drewN q := by
  obtain ⟨A, c, rfl, hc⟩ := h.ex
  have HC := Lib.hid hc
  have HS := Lib.hid hs
  have hni : (L.length : Int) ≤ 9223372036854775807 := by unfold maxLen at hl; omega
  clear h hc hs hl
  go_enter Tryd.func23, Tryd.ntmps23
  go_wp2
  go_loopw [3, 4] (fun u i wr => ∃ k m : Nat, k ≤ L.length ∧ i = .int .i64 k ∧ u = .int .i64 m ∧ 20 * k ≤ m ∧ m ≤ 8000 ∧ ∃ q, wr = w.drewN q) (fun _ i _ => L.length - (intOf i).toNat)
  case atStart => exact ⟨0, 0, Nat.zero_le _, rfl, rfl, by omega, by omega, 0, rfl⟩
  case round =>
    obtain ⟨k, m, hk, rfl, rfl, h20, hm, q, rfl⟩ := hrel
    by_cases hlt : k < L.length
    · have lk : (k : Int) < (L.length : Int) := by omega
      have hi1 : ((k : Int).toNat) = k := by simp
      obtain ⟨B, O, rfl, hBl, hcell⟩ := HC.out (by omega)
      have hx : L[k]? = some L[k] := List.getElem?_eq_getElem hlt
      have hsz := HS.out L[k] (List.getElem_mem hlt)
      generalize L[k] = x at *
      have a2 : (w.drewN q).cell? ⟨B, O + k * 9 + 2, none⟩ = some (.string (strB x.r.key)) := by rw [Nat.add_assoc]; exact hcell _ _ (rowM_at hx 2 (by omega))
      have a6 : (w.drewN q).cell? ⟨B, O + k * 9 + 6, none⟩ = some (.slice x.A x.r.val.length x.c) := by rw [Nat.add_assoc]; exact hcell _ _ (rowM_at hx 6 (by omega))
      have a6' : (w.drewN q).cell? ⟨B, O + k * 9 + 3 + 3, none⟩ = some (.slice x.A x.r.val.length x.c) := a6
      have hks : (strB x.r.key).size = x.r.key.length := strB_size _
      have HKS := Lib.hid hks
      obtain ⟨kn, hkn⟩ : ∃ kn, (strB x.r.key).size = kn := ⟨_, rfl⟩
      have hknb : kn ≤ 281474976710656 := by rw [← hkn, hks]; exact hsz.2
      have hvb : x.r.val.length ≤ 281474976710656 := hsz.1
      have HKN := Lib.hid hkn
      generalize x.r.val.length = vn at *
      generalize strB x.r.key = K8 at *
      have e0 : IntKind.i64.wrap ((m : Int) + 20) = (m : Int) + 20 := IntWalk.i64_in _ (by omega)
      have e1 : IntKind.i64.wrap ((m : Int) + 20 + (kn : Int)) = (m : Int) + 20 + (kn : Int) := IntWalk.i64_in _ (by omega)
      have e2 : IntKind.i64.wrap ((m : Int) + 20 + (kn : Int) + (vn : Int)) = (m : Int) + 20 + (kn : Int) + (vn : Int) := IntWalk.i64_in _ (by omega)
      clear hx hcell hsz hks
      subst hkn
      by_cases hh : 8000 < m + 20 + K8.size + vn
      · have t1 : decide ((8000 : Int) < (m : Int) + 20 + (K8.size : Int) + (vn : Int)) = true := by simp; omega
        clear hh
        go_wp2
        refine wp_region_held_drew (S := fun w' => w'.cell? ⟨B, O + k * 9 + 2, none⟩ = some (.string K8) ∧ w'.cell? ⟨B, O + k * 9 + 3 + 3, none⟩ = some (.slice x.A vn x.c)) (by kernel_rfl) ?_ (fun hHeld => ?_)
        · exact ⟨a2, a6'⟩
        refine wpAnyH_take (i := 0) (v := ?_) rfl (by kernel_rfl) (by kernel_rfl) (by kernel_rfl) (fun _ _ _ h => h) (Or.inl ⟨by rfl, ?_⟩) (by assumption) ?_
        rotate_left
        · intro w' hSw; (try dsimp only at hSw); go_simp; (try with_reducible rfl)
        (try simp only [Act.put, List.setIfInBounds_toArray, List.set_cons_zero, List.set_cons_succ, List.getElem_toArray, List.getElem_cons_succ, List.getElem_cons_zero])
        refine wpAnyH_take (i := 1) (v := ?_) rfl (by kernel_rfl) (by kernel_rfl) (by kernel_rfl) (fun _ _ _ h => h) (Or.inl ⟨by rfl, ?_⟩) (by assumption) ?_
        rotate_left
        · intro w' hSw; (try dsimp only at hSw); go_simp; (try with_reducible rfl)
        (try simp only [Act.put, List.setIfInBounds_toArray, List.set_cons_zero, List.set_cons_succ, List.getElem_toArray, List.getElem_cons_succ, List.getElem_cons_zero])
        refine wpAnyH_take (i := 2) (v := ?_) rfl (by kernel_rfl) (by kernel_rfl) (by kernel_rfl) (fun _ _ _ h => h) (Or.inl ⟨by rfl, ?_⟩) (by assumption) ?_
        rotate_left
        · intro w' hSw; (try dsimp only at hSw); go_simp; (try with_reducible rfl)
        (try simp only [Act.put, List.setIfInBounds_toArray, List.set_cons_zero, List.set_cons_succ, List.getElem_toArray, List.getElem_cons_succ, List.getElem_cons_zero])
        refine wpAnyH_take (i := 3) (v := ?_) rfl (by kernel_rfl) (by kernel_rfl) (by kernel_rfl) (fun _ _ _ h => h) (Or.inl ⟨by rfl, ?_⟩) (by assumption) ?_
        rotate_left
        · intro w' hSw; (try dsimp only at hSw); go_simp; (try with_reducible rfl)
        (try simp only [Act.put, List.setIfInBounds_toArray, List.set_cons_zero, List.set_cons_succ, List.getElem_toArray, List.getElem_cons_succ, List.getElem_cons_zero])
        refine wpAnyH_take (i := 4) (v := ?_) rfl (by kernel_rfl) (by kernel_rfl) (by kernel_rfl) (fun _ _ _ h => h) (Or.inl ⟨by rfl, ?_⟩) (by assumption) ?_
        rotate_left
        · intro w' hSw; (try dsimp only at hSw); go_simp; (try with_reducible rfl)
        (try simp only [Act.put, List.setIfInBounds_toArray, List.set_cons_zero, List.set_cons_succ, List.getElem_toArray, List.getElem_cons_succ, List.getElem_cons_zero])
        refine wpAnyH_take (i := 5) (v := ?_) rfl (by kernel_rfl) (by kernel_rfl) (by kernel_rfl) (fun _ _ _ h => h) (Or.inl ⟨by rfl, ?_⟩) (by assumption) ?_
        rotate_left
        · intro w' hSw; (try dsimp only at hSw); go_simp; (try with_reducible rfl)
        (try simp only [Act.put, List.setIfInBounds_toArray, List.set_cons_zero, List.set_cons_succ, List.getElem_toArray, List.getElem_cons_succ, List.getElem_cons_zero])
        refine wpAnyH_take (i := 6) (v := ?_) rfl (by kernel_rfl) (by kernel_rfl) (by kernel_rfl) (fun _ _ _ h => h) (Or.inl ⟨by rfl, ?_⟩) (by assumption) ?_
        rotate_left
        · intro w' hSw; (try dsimp only at hSw); go_simp; (try with_reducible rfl)
        (try simp only [Act.put, List.setIfInBounds_toArray, List.set_cons_zero, List.set_cons_succ, List.getElem_toArray, List.getElem_cons_succ, List.getElem_cons_zero])
        refine wpAnyH_take (i := 7) (v := ?_) rfl (by kernel_rfl) (by kernel_rfl) (by kernel_rfl) (fun _ _ _ h => h) (Or.inl ⟨by rfl, ?_⟩) (by assumption) ?_
        rotate_left
        · intro w' hSw; (try dsimp only at hSw); go_simp; (try with_reducible rfl)
        (try simp only [Act.put, List.setIfInBounds_toArray, List.set_cons_zero, List.set_cons_succ, List.getElem_toArray, List.getElem_cons_succ, List.getElem_cons_zero])
        refine wpAnyH_take (i := 8) (v := ?_) rfl (by kernel_rfl) (by kernel_rfl) (by kernel_rfl) (fun _ _ _ h => h) (Or.inl ⟨by rfl, ?_⟩) (by assumption) ?_
        rotate_left
        · intro w' hSw; (try dsimp only at hSw); go_simp; (try with_reducible rfl)
        (try simp only [Act.put, List.setIfInBounds_toArray, List.set_cons_zero, List.set_cons_succ, List.getElem_toArray, List.getElem_cons_succ, List.getElem_cons_zero])
        refine wpAnyH_take (i := 9) (v := ?_) rfl (by kernel_rfl) (by kernel_rfl) (by kernel_rfl) (fun _ _ _ h => h) (Or.inl ⟨by rfl, ?_⟩) (by assumption) ?_
        rotate_left
        · intro w' hSw; (try dsimp only at hSw); go_simp; (try with_reducible rfl)
        (try simp only [Act.put, List.setIfInBounds_toArray, List.set_cons_zero, List.set_cons_succ, List.getElem_toArray, List.getElem_cons_succ, List.getElem_cons_zero])
        refine wpAnyH_take (i := 10) (v := ?_) rfl (by kernel_rfl) (by kernel_rfl) (by kernel_rfl) (fun _ _ _ h => h) (Or.inl ⟨by rfl, ?_⟩) (by assumption) ?_
        rotate_left
        · intro w' hSw; (try dsimp only at hSw); go_simp; (try with_reducible rfl)
        (try simp only [Act.put, List.setIfInBounds_toArray, List.set_cons_zero, List.set_cons_succ, List.getElem_toArray, List.getElem_cons_succ, List.getElem_cons_zero])
        refine wpAnyH_take (i := 11) (v := ?_) rfl (by kernel_rfl) (by kernel_rfl) (by kernel_rfl) (fun _ _ _ h => h) (Or.inl ⟨by rfl, ?_⟩) (by assumption) ?_
        rotate_left
        · intro w' hSw; (try dsimp only at hSw); go_simp; (try with_reducible rfl)
        (try simp only [Act.put, List.setIfInBounds_toArray, List.set_cons_zero, List.set_cons_succ, List.getElem_toArray, List.getElem_cons_succ, List.getElem_cons_zero])
        refine wpAnyH_take (i := 12) (v := ?_) rfl (by kernel_rfl) (by kernel_rfl) (by kernel_rfl) (fun _ _ _ h => h) (Or.inl ⟨by rfl, ?_⟩) (by assumption) ?_
        rotate_left
        · intro w' hSw; (try dsimp only at hSw); go_simp; (try with_reducible rfl)
        (try simp only [Act.put, List.setIfInBounds_toArray, List.set_cons_zero, List.set_cons_succ, List.getElem_toArray, List.getElem_cons_succ, List.getElem_cons_zero])
        refine wpAnyH_take (i := 13) (v := ?_) rfl (by kernel_rfl) (by kernel_rfl) (by kernel_rfl) (fun _ _ _ h => h) (Or.inl ⟨by rfl, ?_⟩) (by assumption) ?_
        rotate_left
        · intro w' hSw; (try dsimp only at hSw); go_simp; (try with_reducible rfl)
        (try simp only [Act.put, List.setIfInBounds_toArray, List.set_cons_zero, List.set_cons_succ, List.getElem_toArray, List.getElem_cons_succ, List.getElem_cons_zero])
        refine wpAnyH_take (i := 14) (v := ?_) rfl (by kernel_rfl) (by kernel_rfl) (by kernel_rfl) (fun _ _ _ h => h) (Or.inl ⟨by rfl, ?_⟩) (by assumption) ?_
        rotate_left
        · intro w' hSw; (try dsimp only at hSw); go_simp; (try with_reducible rfl)
        (try simp only [Act.put, List.setIfInBounds_toArray, List.set_cons_zero, List.set_cons_succ, List.getElem_toArray, List.getElem_cons_succ, List.getElem_cons_zero])
        refine wpAnyH_take (i := 15) (v := ?_) rfl (by kernel_rfl) (by kernel_rfl) (by kernel_rfl) (fun _ _ _ h => h) (Or.inl ⟨by rfl, ?_⟩) (by assumption) ?_
        rotate_left
        · intro w' hSw; (try dsimp only at hSw); go_simp; (try with_reducible rfl)
        (try simp only [Act.put, List.setIfInBounds_toArray, List.set_cons_zero, List.set_cons_succ, List.getElem_toArray, List.getElem_cons_succ, List.getElem_cons_zero])
        refine wpAnyH_take (i := 16) (v := ?_) rfl (by kernel_rfl) (by kernel_rfl) (by kernel_rfl) (fun _ _ _ h => h) (Or.inl ⟨by rfl, ?_⟩) (by assumption) ?_
        rotate_left
        · intro w' hSw; (try dsimp only at hSw); go_simp; (try with_reducible rfl)
        (try simp only [Act.put, List.setIfInBounds_toArray, List.set_cons_zero, List.set_cons_succ, List.getElem_toArray, List.getElem_cons_succ, List.getElem_cons_zero])
        refine wpAnyH_take (i := 17) (v := ?_) rfl (by kernel_rfl) (by kernel_rfl) (by kernel_rfl) (fun _ _ _ h => h) (Or.inl ⟨by rfl, ?_⟩) (by assumption) ?_
        rotate_left
        · intro w' hSw; (try dsimp only at hSw); go_simp; (try with_reducible rfl)
        (try simp only [Act.put, List.setIfInBounds_toArray, List.set_cons_zero, List.set_cons_succ, List.getElem_toArray, List.getElem_cons_succ, List.getElem_cons_zero])
        refine wpAnyH_done (by kernel_rfl) ?_ _
        go_wp2
        go_ret
        exact ⟨⟨true, rfl, fun h => by cases h⟩, _, rfl⟩
      · have t1 : decide ((8000 : Int) < (m : Int) + 20 + (K8.size : Int) + (vn : Int)) = false := by simp; omega
        have hh' : m + 20 + K8.size + vn ≤ 8000 := by omega
        have HH := Lib.hid hh'
        clear hh hh'
        go_wp2
        refine wp_region_held_drew (S := fun w' => w'.cell? ⟨B, O + k * 9 + 2, none⟩ = some (.string K8) ∧ w'.cell? ⟨B, O + k * 9 + 3 + 3, none⟩ = some (.slice x.A vn x.c)) (by kernel_rfl) ?_ (fun hHeld => ?_)
        · exact ⟨a2, a6'⟩
        refine wpAnyH_take (i := 0) (v := ?_) rfl (by kernel_rfl) (by kernel_rfl) (by kernel_rfl) (fun _ _ _ h => h) (Or.inl ⟨by rfl, ?_⟩) (by assumption) ?_
        rotate_left
        · intro w' hSw; (try dsimp only at hSw); go_simp; (try with_reducible rfl)
        (try simp only [Act.put, List.setIfInBounds_toArray, List.set_cons_zero, List.set_cons_succ, List.getElem_toArray, List.getElem_cons_succ, List.getElem_cons_zero])
        refine wpAnyH_take (i := 1) (v := ?_) rfl (by kernel_rfl) (by kernel_rfl) (by kernel_rfl) (fun _ _ _ h => h) (Or.inl ⟨by rfl, ?_⟩) (by assumption) ?_
        rotate_left
        · intro w' hSw; (try dsimp only at hSw); go_simp; (try with_reducible rfl)
        (try simp only [Act.put, List.setIfInBounds_toArray, List.set_cons_zero, List.set_cons_succ, List.getElem_toArray, List.getElem_cons_succ, List.getElem_cons_zero])
        refine wpAnyH_take (i := 2) (v := ?_) rfl (by kernel_rfl) (by kernel_rfl) (by kernel_rfl) (fun _ _ _ h => h) (Or.inl ⟨by rfl, ?_⟩) (by assumption) ?_
        rotate_left
        · intro w' hSw; (try dsimp only at hSw); go_simp; (try with_reducible rfl)
        (try simp only [Act.put, List.setIfInBounds_toArray, List.set_cons_zero, List.set_cons_succ, List.getElem_toArray, List.getElem_cons_succ, List.getElem_cons_zero])
        refine wpAnyH_take (i := 3) (v := ?_) rfl (by kernel_rfl) (by kernel_rfl) (by kernel_rfl) (fun _ _ _ h => h) (Or.inl ⟨by rfl, ?_⟩) (by assumption) ?_
        rotate_left
        · intro w' hSw; (try dsimp only at hSw); go_simp; (try with_reducible rfl)
        (try simp only [Act.put, List.setIfInBounds_toArray, List.set_cons_zero, List.set_cons_succ, List.getElem_toArray, List.getElem_cons_succ, List.getElem_cons_zero])
        refine wpAnyH_take (i := 4) (v := ?_) rfl (by kernel_rfl) (by kernel_rfl) (by kernel_rfl) (fun _ _ _ h => h) (Or.inl ⟨by rfl, ?_⟩) (by assumption) ?_
        rotate_left
        · intro w' hSw; (try dsimp only at hSw); go_simp; (try with_reducible rfl)
        (try simp only [Act.put, List.setIfInBounds_toArray, List.set_cons_zero, List.set_cons_succ, List.getElem_toArray, List.getElem_cons_succ, List.getElem_cons_zero])
        refine wpAnyH_take (i := 5) (v := ?_) rfl (by kernel_rfl) (by kernel_rfl) (by kernel_rfl) (fun _ _ _ h => h) (Or.inl ⟨by rfl, ?_⟩) (by assumption) ?_
        rotate_left
        · intro w' hSw; (try dsimp only at hSw); go_simp; (try with_reducible rfl)
        (try simp only [Act.put, List.setIfInBounds_toArray, List.set_cons_zero, List.set_cons_succ, List.getElem_toArray, List.getElem_cons_succ, List.getElem_cons_zero])
        refine wpAnyH_take (i := 6) (v := ?_) rfl (by kernel_rfl) (by kernel_rfl) (by kernel_rfl) (fun _ _ _ h => h) (Or.inl ⟨by rfl, ?_⟩) (by assumption) ?_
        rotate_left
        · intro w' hSw; (try dsimp only at hSw); go_simp; (try with_reducible rfl)
        (try simp only [Act.put, List.setIfInBounds_toArray, List.set_cons_zero, List.set_cons_succ, List.getElem_toArray, List.getElem_cons_succ, List.getElem_cons_zero])
        refine wpAnyH_take (i := 7) (v := ?_) rfl (by kernel_rfl) (by kernel_rfl) (by kernel_rfl) (fun _ _ _ h => h) (Or.inl ⟨by rfl, ?_⟩) (by assumption) ?_
        rotate_left
        · intro w' hSw; (try dsimp only at hSw); go_simp; (try with_reducible rfl)
        (try simp only [Act.put, List.setIfInBounds_toArray, List.set_cons_zero, List.set_cons_succ, List.getElem_toArray, List.getElem_cons_succ, List.getElem_cons_zero])
        refine wpAnyH_take (i := 8) (v := ?_) rfl (by kernel_rfl) (by kernel_rfl) (by kernel_rfl) (fun _ _ _ h => h) (Or.inl ⟨by rfl, ?_⟩) (by assumption) ?_
        rotate_left
        · intro w' hSw; (try dsimp only at hSw); go_simp; (try with_reducible rfl)
        (try simp only [Act.put, List.setIfInBounds_toArray, List.set_cons_zero, List.set_cons_succ, List.getElem_toArray, List.getElem_cons_succ, List.getElem_cons_zero])
        refine wpAnyH_take (i := 9) (v := ?_) rfl (by kernel_rfl) (by kernel_rfl) (by kernel_rfl) (fun _ _ _ h => h) (Or.inl ⟨by rfl, ?_⟩) (by assumption) ?_
        rotate_left
        · intro w' hSw; (try dsimp only at hSw); go_simp; (try with_reducible rfl)
        (try simp only [Act.put, List.setIfInBounds_toArray, List.set_cons_zero, List.set_cons_succ, List.getElem_toArray, List.getElem_cons_succ, List.getElem_cons_zero])
        refine wpAnyH_take (i := 10) (v := ?_) rfl (by kernel_rfl) (by kernel_rfl) (by kernel_rfl) (fun _ _ _ h => h) (Or.inl ⟨by rfl, ?_⟩) (by assumption) ?_
        rotate_left
        · intro w' hSw; (try dsimp only at hSw); go_simp; (try with_reducible rfl)
        (try simp only [Act.put, List.setIfInBounds_toArray, List.set_cons_zero, List.set_cons_succ, List.getElem_toArray, List.getElem_cons_succ, List.getElem_cons_zero])
        refine wpAnyH_take (i := 11) (v := ?_) rfl (by kernel_rfl) (by kernel_rfl) (by kernel_rfl) (fun _ _ _ h => h) (Or.inl ⟨by rfl, ?_⟩) (by assumption) ?_
        rotate_left
        · intro w' hSw; (try dsimp only at hSw); go_simp; (try with_reducible rfl)
        (try simp only [Act.put, List.setIfInBounds_toArray, List.set_cons_zero, List.set_cons_succ, List.getElem_toArray, List.getElem_cons_succ, List.getElem_cons_zero])
        refine wpAnyH_take (i := 12) (v := ?_) rfl (by kernel_rfl) (by kernel_rfl) (by kernel_rfl) (fun _ _ _ h => h) (Or.inl ⟨by rfl, ?_⟩) (by assumption) ?_
        rotate_left
        · intro w' hSw; (try dsimp only at hSw); go_simp; (try with_reducible rfl)
        (try simp only [Act.put, List.setIfInBounds_toArray, List.set_cons_zero, List.set_cons_succ, List.getElem_toArray, List.getElem_cons_succ, List.getElem_cons_zero])
        refine wpAnyH_take (i := 13) (v := ?_) rfl (by kernel_rfl) (by kernel_rfl) (by kernel_rfl) (fun _ _ _ h => h) (Or.inl ⟨by rfl, ?_⟩) (by assumption) ?_
        rotate_left
        · intro w' hSw; (try dsimp only at hSw); go_simp; (try with_reducible rfl)
        (try simp only [Act.put, List.setIfInBounds_toArray, List.set_cons_zero, List.set_cons_succ, List.getElem_toArray, List.getElem_cons_succ, List.getElem_cons_zero])
        refine wpAnyH_take (i := 14) (v := ?_) rfl (by kernel_rfl) (by kernel_rfl) (by kernel_rfl) (fun _ _ _ h => h) (Or.inl ⟨by rfl, ?_⟩) (by assumption) ?_
        rotate_left
        · intro w' hSw; (try dsimp only at hSw); go_simp; (try with_reducible rfl)
        (try simp only [Act.put, List.setIfInBounds_toArray, List.set_cons_zero, List.set_cons_succ, List.getElem_toArray, List.getElem_cons_succ, List.getElem_cons_zero])
        refine wpAnyH_take (i := 15) (v := ?_) rfl (by kernel_rfl) (by kernel_rfl) (by kernel_rfl) (fun _ _ _ h => h) (Or.inl ⟨by rfl, ?_⟩) (by assumption) ?_
        rotate_left
        · intro w' hSw; (try dsimp only at hSw); go_simp; (try with_reducible rfl)
        (try simp only [Act.put, List.setIfInBounds_toArray, List.set_cons_zero, List.set_cons_succ, List.getElem_toArray, List.getElem_cons_succ, List.getElem_cons_zero])
        refine wpAnyH_take (i := 16) (v := ?_) rfl (by kernel_rfl) (by kernel_rfl) (by kernel_rfl) (fun _ _ _ h => h) (Or.inl ⟨by rfl, ?_⟩) (by assumption) ?_
        rotate_left
        · intro w' hSw; (try dsimp only at hSw); go_simp; (try with_reducible rfl)
        (try simp only [Act.put, List.setIfInBounds_toArray, List.set_cons_zero, List.set_cons_succ, List.getElem_toArray, List.getElem_cons_succ, List.getElem_cons_zero])
        refine wpAnyH_take (i := 17) (v := ?_) rfl (by kernel_rfl) (by kernel_rfl) (by kernel_rfl) (fun _ _ _ h => h) (Or.inl ⟨by rfl, ?_⟩) (by assumption) ?_
        rotate_left
        · intro w' hSw; (try dsimp only at hSw); go_simp; (try with_reducible rfl)
        (try simp only [Act.put, List.setIfInBounds_toArray, List.set_cons_zero, List.set_cons_succ, List.getElem_toArray, List.getElem_cons_succ, List.getElem_cons_zero])
        refine wpAnyH_done (by kernel_rfl) ?_ _
        go_wp2
        go_roundw
        case rel => exact ⟨k + 1, m + 20 + K8.size + vn, by omega, by go_num, by push_cast; rfl, by omega, HH.out, _, rfl⟩
        case measure => simp [intOf]; omega
    · obtain rfl : k = L.length := by omega
      clear HC HS hlt
      go_wp2
      go_ret
      exact ⟨⟨false, rfl, fun _ => by omega⟩, q, rfl⟩
end Go.Proofs.YtdffldlcbihjmaaDoor

/- stream: Send (written by gen/strg.py). -/
namespace Go.Proofs.YtdffldlcbihjmaaDoor
open Go.RowKit Go.Sort

def fstS (rs : List Rc) : Int := match rs with | [] => 0 | r :: _ => r.s
/-- What Send tells: an error, or none. -/
def sendC (f a s : Int) (rs : List Rc) : Int :=
  if rs.length = 0 then 1 else if ¬ (∀ r ∈ rs, okR r = true ∧ r.o = f) then 1 else if 8 < rs.length then 5 else if fstS rs ≤ a ∨ s + 1 < fstS rs then 12 else if rowB f (fstS rs) rs = true then 0 else 12
theorem send_bad {f a s : Int} {rs : List Rc} (h0 : 0 < rs.length) {r : Rc} (hr : r ∈ rs) (h : ¬ (okR r = true ∧ r.o = f)) : sendC f a s rs = 1 := by
  unfold sendC
  rw [if_neg (by omega), if_pos (fun q => h (q r hr))]
theorem send_long {f a s : Int} {rs : List Rc} (h0 : 0 < rs.length) (ha : ∀ r ∈ rs, okR r = true ∧ r.o = f) (h : 8 < rs.length) : sendC f a s rs = 5 := by
  unfold sendC
  rw [if_neg (by omega), if_neg (fun q => q ha), if_pos h]
theorem send_first {f a s : Int} {rs : List Rc} (h0 : 0 < rs.length) (ha : ∀ r ∈ rs, okR r = true ∧ r.o = f) (h : ¬ 8 < rs.length) (hf : fstS rs ≤ a ∨ s + 1 < fstS rs) : sendC f a s rs = 12 := by
  unfold sendC
  rw [if_neg (by omega), if_neg (fun q => q ha), if_neg h, if_pos hf]
theorem send_gap {f a s : Int} {rs : List Rc} (h0 : 0 < rs.length) (ha : ∀ r ∈ rs, okR r = true ∧ r.o = f) (h : ¬ 8 < rs.length) (hf : ¬ (fstS rs ≤ a ∨ s + 1 < fstS rs)) (hb : rowB f (fstS rs) rs = false) : sendC f a s rs = 12 := by
  unfold sendC
  rw [if_neg (by omega), if_neg (fun q => q ha), if_neg h, if_neg hf, if_neg (by rw [hb]; decide)]
theorem send_yes {f a s : Int} {rs : List Rc} (h0 : 0 < rs.length) (ha : ∀ r ∈ rs, okR r = true ∧ r.o = f) (h : ¬ 8 < rs.length) (hf : ¬ (fstS rs ≤ a ∨ s + 1 < fstS rs)) (hb : rowB f (fstS rs) rs = true) : sendC f a s rs = 0 := by
  unfold sendC
  rw [if_neg (by omega), if_neg (fun q => q ha), if_neg h, if_neg hf, if_pos hb]
theorem rowB_at' : ∀ {rs : List Rc} {o s : Int}, rowB o s rs = true → ∀ (i : Nat) (r : Rc), rs[i]? = some r → okR r = true ∧ r.o = o ∧ r.s = s + (i : Int)
  | [], _, _, _, i, r, hr => by simp at hr
  | x :: t, o, s, h, i, r, hr => by
    simp only [rowB, Bool.and_eq_true, decide_eq_true_eq] at h
    cases i with
    | zero =>
      simp at hr
      subst hr
      exact ⟨h.1, h.2.1, by simp [h.2.2.1]⟩
    | succ i =>
      have q := rowB_at' h.2.2.2 i r (by simpa using hr)
      exact ⟨q.1, q.2.1, by rw [q.2.2]; omega⟩
theorem rowB_of' : ∀ {rs : List Rc} {o s : Int}, (∀ (i : Nat) (r : Rc), rs[i]? = some r → okR r = true ∧ r.o = o ∧ r.s = s + (i : Int)) → rowB o s rs = true
  | [], _, _, _ => rfl
  | x :: t, o, s, h => by
    have q := h 0 x rfl
    simp only [rowB, Bool.and_eq_true, decide_eq_true_eq]
    exact ⟨q.1, q.2.1, by simpa using q.2.2, rowB_of' (fun i r hr => by
      have := h (i + 1) r (by simpa using hr)
      exact ⟨this.1, this.2.1, by rw [this.2.2]; omega⟩)⟩
def recE (f : Int) (rs : List Rc) : List Int := frE (encW ⟨1, f, fstS rs, 0, 0, 0, 0, rs⟩)
def SendRes (b : Nat) (f t a s n : Int) (rs : List Rc) (w w' : World) (e : Ending) : Prop :=
  (sendC f a s rs ≠ 0 ∧ e = .returned (.tuple #[.slice none 0 0, .int .i64 (sendC f a s rs)]) ∧ Below w.heap.size w w') ∨
  (sendC f a s rs = 0 ∧ ∃ v, e = .returned (.tuple #[v, .int .i64 0]) ∧ Msg1 w.heap.size w' v f t (recE f rs) ∧ StPost b (outC f t a (max s (fstS rs + (rs.length : Int) - 1)) 0) w w')
theorem send_no {b : Nat} {f t a s n k : Int} {rs : List Rc} {w w' : World} (h : sendC f a s rs = k) (hk : k ≠ 0) (hb : Below w.heap.size w w') : SendRes b f t a s n rs w w' (.returned (.tuple #[.slice none 0 0, .int .i64 k])) := .inl ⟨by rw [h]; exact hk, by rw [h], hb⟩
theorem st_send_nil (b : Nat) (f t a s n : Int) (A : Option Addr) (c : Nat) (w : World) (h : XB w b (outC f t a s n)) :
    Calls Tryd.prog 34 #[.pointer (some ⟨b, 0, none⟩), .slice A 0 c] w fun e w' => SendRes b f t a s n [] w w' e := by
  have lt := h.lt
  clear h
  go_enter Tryd.func34, Tryd.ntmps34
  go_wp2
  go_ret2
  exact send_no (k := 1) rfl (by decide) (Below.refl _ _)
theorem send_fin {b : Nat} {f t a s n : Int} {rs : List Rc} {w w2 V : World} {g cap m : Nat} {D : List Int} (hc : sendC f a s rs = 0) (hD : recE f rs = D) (hO : Only b w V) (hx : XB V b (outC f t a (max s (fstS rs + (rs.length : Int) - 1)) 0)) (hr : Row8 w.heap.size w2 g cap m D) (hm : m ≤ 1000000)
    (hV : But (fun i => i = b) w2 V) (hgb : b < w.heap.size) {B : Nat} (hBB : w.heap.size ≤ B) (hB : XB V B [.int .i64 f, .int .i64 t, .slice (some ⟨g, 0, none⟩) m cap]) : SendRes b f t a s n rs w V (.returned (.tuple #[.slice (some ⟨B, 0, none⟩) 1 1, .int .i64 0])) := by
  subst hD
  have hl := hr.len
  subst hl
  refine .inr ⟨hc, _, rfl, ⟨B, 1, g, cap, hBB, hr.ge.1, rfl, hB, ?_, hm, hr.cap_le.1, hr.cap_le.2⟩, hx, hO⟩
  exact hr.by_.but hV (fun _ ad had => by injection had with had; subst had; have := hr.ge.1; show ¬ g = b; omega)
set_option maxRecDepth 100000 in
set_option maxHeartbeats 8000000 in
theorem st_send (b : Nat) (f t a s n : Int) (B O c : Nat) (L : List Mr) (w : World) (h : XB w b (outC f t a s n)) (hrow : RowAt w (.slice (some ⟨B, O, none⟩) L.length c) L) (hat : ∀ m ∈ L, m.At (fun _ => True) w) (hkb : ∀ m ∈ L, isBy m.r.key ∧ isBy m.r.val) (hl0 : 0 < L.length) (hl : L.length ≤ 100000)
    (ha : 0 ≤ a ∧ a ≤ 2199023255552) (hs : 0 ≤ s ∧ s ≤ 2199023255552) (ht : Nib w) :
    Calls Tryd.prog 34 #[.pointer (some ⟨b, 0, none⟩), .slice (some ⟨B, O, none⟩) L.length c] w fun e w' => SendRes b f t a s n (L.map Mr.r) w w' e := by
  have hni : (L.length : Int) ≤ 100000 := by omega
  obtain ⟨A', c', he', hc'⟩ := hrow.ex
  have HC : Hid (B < w.heap.size ∧ ∀ j u, (rowM L)[j]? = some u → w.cell? ⟨B, O + j, none⟩ = some u) := Lib.hid (by
    obtain ⟨B', O', e, h⟩ := hc' (by omega)
    injection he' with q1 q2 q3
    rw [e] at q1
    injection q1 with q1
    injection q1 with q1 q4
    subst q1 q4
    exact h)
  have HX := Lib.hid h
  have HA := Lib.hid hat
  have HL : Hid (0 < (L.map Mr.r).length ∧ L.length ≤ 100000) := Lib.hid ⟨by simpa using hl0, hl⟩
  have hl0i : (0 : Int) < (L.length : Int) := by omega
  have hl0n : ¬ L.length = 0 := by omega
  have HSA := Lib.hid (And.intro ha hs)
  have e1 : IntKind.i64.wrap (s + 1) = s + 1 := IntWalk.i64_in _ (by omega)
  have HENC : Hid (okW ⟨1, f, fstS (L.map Mr.r), 0, 0, 0, 0, L.map Mr.r⟩ = true → ∀ W, Below w.heap.size w W → Calls Tryd.prog 13 #[wdV 1 f (fstS (L.map Mr.r)) 0 0 0 0 (.slice (some ⟨B, O, none⟩) L.length c)] W fun e w' => (∃ g2 cap2, e = .returned (.tuple #[.slice (some ⟨g2, 0, none⟩) (12 + (encW ⟨1, f, fstS (L.map Mr.r), 0, 0, 0, 0, L.map Mr.r⟩).length) cap2, .int .i64 0]) ∧ Row8 W.heap.size w' g2 cap2 (12 + (encW ⟨1, f, fstS (L.map Mr.r), 0, 0, 0, 0, L.map Mr.r⟩).length) (recE f (L.map Mr.r))) ∧ Below W.heap.size W w') := Lib.hid (fun hok W k =>
    wd_enc 1 f (fstS (L.map Mr.r)) 0 0 0 0 (some ⟨B, O, none⟩) c L W (ht.below k) (hrow.below k) (fun m hm => (hat m hm).below k) hkb (by omega) hok)
  clear h hrow hat hkb hl hl0 ha hs ht he' hc'
  go_enter Tryd.func34, Tryd.ntmps34
  go_wp2
  go_loopw [22] (fun i wr => ∃ j : Nat, j ≤ L.length ∧ i = .int .i64 j ∧ Below w.heap.size w wr ∧ Hid (∀ (i : Nat) (m : Mr), i < j → L[i]? = some m → okR m.r = true ∧ m.r.o = f)) (fun i _ => L.length - (intOf i).toNat)
  case atStart => exact ⟨0, Nat.zero_le _, rfl, Below.refl _ _, Lib.hid (fun _ _ h => by omega)⟩
  case round =>
    obtain ⟨j, hj, rfl, hBB, hO⟩ := hrel
    by_cases hlt : j < L.length
    · have lk : (j : Int) < (L.length : Int) := by omega
      have hi1 : ((j : Int).toNat) = j := by simp
      have hx : L[j]? = some L[j] := List.getElem?_eq_getElem hlt
      have hmem : L[j].r ∈ L.map Mr.r := List.mem_map_of_mem (List.getElem_mem hlt)
      generalize L[j] = x at *
      have hBl := HC.out.1
      have hcell := HC.out.2
      have a0 : wr.cell? ⟨B, O + j * 9, none⟩ = some (.int .i64 x.r.o) := (hBB.cell (p := ⟨B, O + j * 9, none⟩) hBl).trans (hcell (j * 9) _ (by have := rowM_at hx 0 (by omega); rwa [Nat.add_zero] at this))
      have a1 : wr.cell? ⟨B, O + j * 9 + 1, none⟩ = some (.int .i64 x.r.s) := by rw [Nat.add_assoc]; exact (hBB.cell (p := ⟨B, O + (j * 9 + 1), none⟩) hBl).trans (hcell _ _ (rowM_at hx 1 (by omega)))
      have a2 : wr.cell? ⟨B, O + j * 9 + 2, none⟩ = some (.string (strB x.r.key)) := by rw [Nat.add_assoc]; exact (hBB.cell (p := ⟨B, O + (j * 9 + 2), none⟩) hBl).trans (hcell _ _ (rowM_at hx 2 (by omega)))
      have a3 : wr.cell? ⟨B, O + j * 9 + 3, none⟩ = some (.int .i64 x.r.ml) := by rw [Nat.add_assoc]; exact (hBB.cell (p := ⟨B, O + (j * 9 + 3), none⟩) hBl).trans (hcell _ _ (rowM_at hx 3 (by omega)))
      have a4 : wr.cell? ⟨B, O + j * 9 + 4, none⟩ = some (.int .i64 x.r.ct) := by rw [Nat.add_assoc]; exact (hBB.cell (p := ⟨B, O + (j * 9 + 4), none⟩) hBl).trans (hcell _ _ (rowM_at hx 4 (by omega)))
      have a5 : wr.cell? ⟨B, O + j * 9 + 5, none⟩ = some (.int .i64 x.r.vo) := by rw [Nat.add_assoc]; exact (hBB.cell (p := ⟨B, O + (j * 9 + 5), none⟩) hBl).trans (hcell _ _ (rowM_at hx 5 (by omega)))
      have a6 : wr.cell? ⟨B, O + j * 9 + 6, none⟩ = some (.slice x.A x.r.val.length x.c) := by rw [Nat.add_assoc]; exact (hBB.cell (p := ⟨B, O + (j * 9 + 6), none⟩) hBl).trans (hcell _ _ (rowM_at hx 6 (by omega)))
      have a7 : wr.cell? ⟨B, O + j * 9 + 7, none⟩ = some (.bool x.r.gone) := by rw [Nat.add_assoc]; exact (hBB.cell (p := ⟨B, O + (j * 9 + 7), none⟩) hBl).trans (hcell _ _ (rowM_at hx 7 (by omega)))
      have a8 : wr.cell? ⟨B, O + j * 9 + 8, none⟩ = some (.int .i64 x.r.tt) := by rw [Nat.add_assoc]; exact (hBB.cell (p := ⟨B, O + (j * 9 + 8), none⟩) hBl).trans (hcell _ _ (rowM_at hx 8 (by omega)))
      have HOK : Hid (okR x.r = okN x.r.o x.r.s (strB x.r.key).size x.r.ml x.r.ct x.r.vo x.r.val.length x.r.gone x.r.tt) := Lib.hid (by rw [okR_n, strB_size])
      have kA : Below wr.heap.size wr (wr.alloc (recO x.r.o x.r.s (strB x.r.key) x.r.ml x.r.ct x.r.vo x.A x.r.val.length x.c x.r.gone x.r.tt)) := (Below.refl _ _).alloc (Nat.le_refl _) _
      have X6 : XB (wr.alloc (recO x.r.o x.r.s (strB x.r.key) x.r.ml x.r.ct x.r.vo x.A x.r.val.length x.c x.r.gone x.r.tt)) wr.heap.size x.cs := XB.new wr _ _
      have Y6 := (HX.out.below hBB).below kA
      have HKA := Lib.hid (hBB.trans (kA.mono hBB.size))
      have HCON : Hid (∀ W, Calls Tryd.prog 72 #[recV x.r.o x.r.s (strB x.r.key) x.r.ml x.r.ct x.r.vo x.A x.r.val.length x.c x.r.gone x.r.tt] W fun e w' => e = .returned (.bool (okR x.r)) ∧ Below W.heap.size W w') := Lib.hid (fun W => by rw [HOK.out]; exact rec_is x.r.o x.r.s (strB x.r.key) x.r.ml x.r.ct x.r.vo x.A x.r.val.length x.c x.r.gone x.r.tt W)
      have HNX : Hid (okR x.r = true ∧ x.r.o = f → ∀ (i : Nat) (m : Mr), i < j + 1 → L[i]? = some m → okR m.r = true ∧ m.r.o = f) := Lib.hid (fun q i m hi hm => by
        by_cases hij : i = j
        · subst hij
          rw [hx] at hm
          injection hm with hm
          subst hm
          exact q
        · exact hO.out i m (by omega) hm)
      have HBAD : Hid (¬ (okR x.r = true ∧ x.r.o = f) → sendC f a s (L.map Mr.r) = 1) := Lib.hid (fun q => send_bad HL.out.1 hmem q)
      clear hx hmem hcell hBl hBB kA hlt hO HOK
      go_wp2_with fail
      clear a0 a1 a2 a3 a4 a5 a6 a7 a8
      have r0 := fun d os => cell_regrown (X6.c 0 _ rfl) d os
      have r1 := fun d os => cell_regrown (X6.c 1 _ rfl) d os
      have r2 := fun d os => cell_regrown (X6.c 2 _ rfl) d os
      have r3 := fun d os => cell_regrown (X6.c 3 _ rfl) d os
      have r4 := fun d os => cell_regrown (X6.c 4 _ rfl) d os
      have r5 := fun d os => cell_regrown (X6.c 5 _ rfl) d os
      have r6 := fun d os => cell_regrown (X6.c 6 _ rfl) d os
      have r7 := fun d os => cell_regrown (X6.c 7 _ rfl) d os
      have r8 := fun d os => cell_regrown (X6.c 8 _ rfl) d os
      have y0 := fun d os => cell_regrown (Y6.c 0 _ rfl) d os
      clear X6 Y6
      generalize wr.alloc (recO x.r.o x.r.s (strB x.r.key) x.r.ml x.r.ct x.r.vo x.A x.r.val.length x.c x.r.gone x.r.tt) = W6 at *
      have AC := Lib.hid fun (d' : Nat) (os : Array Obj) => Calls.regrown_of (HCON.out (grow (redrawn W6 d') os))
      clear HCON
      cases hok : okR x.r
      · rw [hok] at AC
        have HE := Lib.hid (HBAD.out (fun q => by have := q.1; rw [hok] at this; cases this))
        clear hok
        refine wp_region_quiet_below (by kernel_rfl) (by kernel_rfl) ?_
        repeat (go_big_quiet_step ((go_at_call 72; exact AC.out _ _)))
        refine wpQuiet_nil ?_
        intro _ hw'
        obtain ⟨⟨dq, osq⟩, hw''⟩ := hw'
        subst hw''
        have hq := below_regrown W6 dq osq
        have HK7 := Lib.hid (HKA.out.trans (hq.mono HKA.out.size))
        clear hq AC r0 r1 r2 r3 r4 r5 r6 r7 r8 y0
        generalize hgw : grow (redrawn W6 dq) osq = W7 at *
        clear hgw
        go_wp2
        go_ret2
        exact send_no HE.out (by decide) HK7.out
      rw [hok] at AC
      by_cases ho : x.r.o = f
      rotate_left
      · have t1 : (x.r.o != f) = true := by simpa using ho
        have HE := Lib.hid (HBAD.out (fun q => ho q.2))
        clear hok ho
        refine wp_region_quiet_below (by kernel_rfl) (by kernel_rfl) ?_
        repeat (go_big_quiet_step ((go_at_call 72; exact AC.out _ _)))
        refine wpQuiet_nil ?_
        intro _ hw'
        obtain ⟨⟨dq, osq⟩, hw''⟩ := hw'
        subst hw''
        have hq := below_regrown W6 dq osq
        have HK7 := Lib.hid (HKA.out.trans (hq.mono HKA.out.size))
        clear hq AC r0 r1 r2 r3 r4 r5 r6 r7 r8 y0
        generalize hgw : grow (redrawn W6 dq) osq = W7 at *
        clear hgw
        go_wp2
        go_ret2
        exact send_no HE.out (by decide) HK7.out
      · have t1 : (x.r.o != f) = false := by simpa using ho
        have HNY := Lib.hid (HNX.out ⟨hok, ho⟩)
        clear hok ho HNX HBAD
        refine wp_region_quiet_below (by kernel_rfl) (by kernel_rfl) ?_
        repeat (go_big_quiet_step ((go_at_call 72; exact AC.out _ _)))
        refine wpQuiet_nil ?_
        intro _ hw'
        obtain ⟨⟨dq, osq⟩, hw''⟩ := hw'
        subst hw''
        have hq := below_regrown W6 dq osq
        have HK7 := Lib.hid (HKA.out.trans (hq.mono HKA.out.size))
        clear hq AC r0 r1 r2 r3 r4 r5 r6 r7 r8 y0
        generalize hgw : grow (redrawn W6 dq) osq = W7 at *
        clear hgw
        go_wp2
        go_roundw
        case rel => exact ⟨j + 1, by omega, by go_num, HK7.out, Lib.hid HNY.out⟩
        case measure => simp [intOf]; omega
    · obtain rfl : j = L.length := by omega
      have HALL : Hid (∀ r ∈ L.map Mr.r, okR r = true ∧ r.o = f) := Lib.hid (fun r hr => by
        obtain ⟨m, hm, rfl⟩ := List.mem_map.1 hr
        obtain ⟨i, hi, e⟩ := List.mem_iff_getElem.1 hm
        exact hO.out i m hi (by rw [← e]; exact List.getElem?_eq_getElem hi))
      have HB := Lib.hid hBB
      clear hlt hO
      by_cases h8 : 8 < L.length
      · have t8 : (8 : Int) < (L.length : Int) := by omega
        have HE := Lib.hid (send_long (a := a) (s := s) HL.out.1 HALL.out (by simpa using h8))
        clear hBB h8
        go_wp2
        go_ret2
        exact send_no HE.out (by decide) HB.out
      have t8 : ¬ (8 : Int) < (L.length : Int) := by omega
      have h8i : (L.length : Int) ≤ 8 := by omega
      have h0l : 0 < L.length := by omega
      have hx : L[0]? = some L[0] := List.getElem?_eq_getElem h0l
      have HF : Hid (fstS (L.map Mr.r) = L[0].r.s) := Lib.hid (by
        cases L with
        | nil => simp at h0l
        | cons m t => rfl)
      have HOK0 := HALL.out L[0].r (List.mem_map_of_mem (List.getElem_mem h0l))
      generalize L[0] = x at *
      have c0 : wr.cell? ⟨B, O + 1, none⟩ = some (.int .i64 x.r.s) := (hBB.cell (p := ⟨B, O + 1, none⟩) HC.out.1).trans (HC.out.2 1 _ (by have := rowM_at hx 1 (by omega); rw [Nat.zero_mul, Nat.zero_add] at this; exact this))
      have X1 := HX.out.below hBB
      have c2 := X1.c 2 _ rfl
      have c3 := X1.c 3 _ rfl
      have lt := X1.lt
      have hsb : 1 ≤ x.r.s ∧ x.r.s ≤ 1099511627776 := ⟨((ok_iff _).1 HOK0.1).s0, ((ok_iff _).1 HOK0.1).s1⟩
      have hfb : Hid (0 ≤ f ∧ f < 5) := Lib.hid (by have h1 := ((ok_iff _).1 HOK0.1).o0; have h2 := ((ok_iff _).1 HOK0.1).o1; rw [HOK0.2] at h1 h2; exact ⟨h1, h2⟩)
      rw [HF.out] at HENC
      obtain ⟨F, hF⟩ : ∃ F, x.r.s = F := ⟨_, rfl⟩
      rw [hF] at c0 hsb HENC HF
      have H8 := Lib.hid h8
      clear hx HOK0 hF h8 X1 hBB
      by_cases hfa : F ≤ a
      · have HE := Lib.hid (send_first (a := a) (s := s) HL.out.1 HALL.out (by simpa using H8.out) (.inl (by rw [HF.out]; exact hfa)))
        clear hsb
        go_wp2
        go_ret2
        exact send_no HE.out (by decide) HB.out
      have hfa' : ¬ F ≤ a := hfa
      by_cases hfs : s + 1 < F
      · have HE := Lib.hid (send_first (a := a) HL.out.1 HALL.out (by simpa using H8.out) (.inr (by rw [HF.out]; exact hfs)))
        clear hsb
        go_wp2
        go_ret2
        exact send_no HE.out (by decide) HB.out
      have HNF : Hid (¬ (fstS (L.map Mr.r) ≤ a ∨ s + 1 < fstS (L.map Mr.r))) := Lib.hid (by rw [HF.out]; omega)
      go_wp2
      clear c0 c2 c3 lt
      go_loopw [63] (fun i wr => ∃ j : Nat, j ≤ L.length ∧ i = .int .i64 j ∧ Below w.heap.size w wr ∧ Hid (∀ (i : Nat) (m : Mr), i < j → L[i]? = some m → m.r.s = F + (i : Int))) (fun i _ => L.length - (intOf i).toNat)
      case atStart => exact ⟨0, Nat.zero_le _, rfl, HB.out, Lib.hid (fun _ _ h => by omega)⟩
      case round =>
        obtain ⟨j, hj, rfl, hBB, hO⟩ := hrel
        clear HB
        by_cases hlt : j < L.length
        · have lk : (j : Int) < (L.length : Int) := by omega
          have hi1 : ((j : Int).toNat) = j := by simp
          have hx : L[j]? = some L[j] := List.getElem?_eq_getElem hlt
          generalize L[j] = x at *
          have hBl := HC.out.1
          have hcell := HC.out.2
          have a0 : wr.cell? ⟨B, O + j * 9, none⟩ = some (.int .i64 x.r.o) := (hBB.cell (p := ⟨B, O + j * 9, none⟩) hBl).trans (hcell (j * 9) _ (by have := rowM_at hx 0 (by omega); rwa [Nat.add_zero] at this))
          have a1 : wr.cell? ⟨B, O + j * 9 + 1, none⟩ = some (.int .i64 x.r.s) := by rw [Nat.add_assoc]; exact (hBB.cell (p := ⟨B, O + (j * 9 + 1), none⟩) hBl).trans (hcell _ _ (rowM_at hx 1 (by omega)))
          have a2 : wr.cell? ⟨B, O + j * 9 + 2, none⟩ = some (.string (strB x.r.key)) := by rw [Nat.add_assoc]; exact (hBB.cell (p := ⟨B, O + (j * 9 + 2), none⟩) hBl).trans (hcell _ _ (rowM_at hx 2 (by omega)))
          have a3 : wr.cell? ⟨B, O + j * 9 + 3, none⟩ = some (.int .i64 x.r.ml) := by rw [Nat.add_assoc]; exact (hBB.cell (p := ⟨B, O + (j * 9 + 3), none⟩) hBl).trans (hcell _ _ (rowM_at hx 3 (by omega)))
          have a4 : wr.cell? ⟨B, O + j * 9 + 4, none⟩ = some (.int .i64 x.r.ct) := by rw [Nat.add_assoc]; exact (hBB.cell (p := ⟨B, O + (j * 9 + 4), none⟩) hBl).trans (hcell _ _ (rowM_at hx 4 (by omega)))
          have a5 : wr.cell? ⟨B, O + j * 9 + 5, none⟩ = some (.int .i64 x.r.vo) := by rw [Nat.add_assoc]; exact (hBB.cell (p := ⟨B, O + (j * 9 + 5), none⟩) hBl).trans (hcell _ _ (rowM_at hx 5 (by omega)))
          have a6 : wr.cell? ⟨B, O + j * 9 + 6, none⟩ = some (.slice x.A x.r.val.length x.c) := by rw [Nat.add_assoc]; exact (hBB.cell (p := ⟨B, O + (j * 9 + 6), none⟩) hBl).trans (hcell _ _ (rowM_at hx 6 (by omega)))
          have a7 : wr.cell? ⟨B, O + j * 9 + 7, none⟩ = some (.bool x.r.gone) := by rw [Nat.add_assoc]; exact (hBB.cell (p := ⟨B, O + (j * 9 + 7), none⟩) hBl).trans (hcell _ _ (rowM_at hx 7 (by omega)))
          have a8 : wr.cell? ⟨B, O + j * 9 + 8, none⟩ = some (.int .i64 x.r.tt) := by rw [Nat.add_assoc]; exact (hBB.cell (p := ⟨B, O + (j * 9 + 8), none⟩) hBl).trans (hcell _ _ (rowM_at hx 8 (by omega)))
          have HKA := Lib.hid (hBB.alloc hBB.size (recO x.r.o x.r.s (strB x.r.key) x.r.ml x.r.ct x.r.vo x.A x.r.val.length x.c x.r.gone x.r.tt))
          have e2 : IntKind.i64.wrap (F + (j : Int)) = F + (j : Int) := IntWalk.i64_in _ (by omega)
          have HNX : Hid (x.r.s = F + (j : Int) → ∀ (i : Nat) (m : Mr), i < j + 1 → L[i]? = some m → m.r.s = F + (i : Int)) := Lib.hid (fun q i m hi hm => by
            by_cases hij : i = j
            · subst hij
              rw [hx] at hm
              injection hm with hm
              subst hm
              exact q
            · exact hO.out i m (by omega) hm)
          have HBAD : Hid (¬ x.r.s = F + (j : Int) → sendC f a s (L.map Mr.r) = 12) := Lib.hid (fun q => send_gap HL.out.1 HALL.out (by simpa using H8.out) HNF.out (by
            rw [HF.out]
            cases hb : rowB f F (L.map Mr.r)
            · rfl
            · exact absurd (rowB_at' hb j x.r (by rw [List.getElem?_map, hx]; rfl)).2.2 q))
          clear hx hcell hBl hBB hlt hO
          by_cases hs : x.r.s = F + (j : Int)
          · have t2 : (x.r.s != F + (j : Int)) = false := by simpa using hs
            have HNY := Lib.hid (HNX.out hs)
            clear hs HNX HBAD
            go_wp2
            go_roundw
            case rel => exact ⟨j + 1, by omega, by go_num, HKA.out, Lib.hid HNY.out⟩
            case measure => simp [intOf]; omega
          · have t2 : (x.r.s != F + (j : Int)) = true := by simpa using hs
            have HE := Lib.hid (HBAD.out hs)
            clear hs HNX HBAD
            go_wp2
            go_ret2
            exact send_no HE.out (by decide) HKA.out
        · obtain rfl : j = L.length := by omega
          have HROW : Hid (rowB f F (L.map Mr.r) = true) := Lib.hid (rowB_of' (fun i r hr => by
            rw [List.getElem?_map] at hr
            cases hm : L[i]? with
            | none => rw [hm] at hr; cases hr
            | some m =>
              rw [hm] at hr
              injection hr with hr
              subst hr
              have hi : i < L.length := by rw [List.getElem?_eq_some_iff] at hm; exact hm.1
              have q := HALL.out m.r (List.mem_map_of_mem (List.mem_of_getElem? hm))
              exact ⟨q.1, q.2, hO.out i m hi hm⟩))
          have HOKW : Hid (okW ⟨1, f, F, 0, 0, 0, 0, L.map Mr.r⟩ = true) := Lib.hid (by
            have h1 := hfb.out
            have h2 := HROW.out
            have h3 := H8.out
            simp [okW, headW, bareW, h1.1, h1.2, h2]
            omega)
          have HBD := Lib.hid (encW_bd HOKW.out)
          have HEC : Hid (sendC f a s (L.map Mr.r) = 0) := Lib.hid (send_yes HL.out.1 HALL.out (by simpa using H8.out) HNF.out (by rw [HF.out]; exact HROW.out))
          have HE := Lib.hid (HENC.out HOKW.out wr hBB)
          obtain ⟨m, hm⟩ : ∃ m, 12 + (encW ⟨1, f, F, 0, 0, 0, 0, L.map Mr.r⟩).length = m := ⟨_, rfl⟩
          have HM : Hid (m ≤ 1000000) := Lib.hid (by have := HBD.out; omega)
          rw [hm] at HE
          obtain ⟨D, hD⟩ : ∃ D, recE f (L.map Mr.r) = D := ⟨_, rfl⟩
          have HDE := Lib.hid hD
          rw [hD] at HE
          clear hD
          have X1 := HX.out.below hBB
          have c0 := X1.c 0 _ rfl
          have lt := X1.lt
          have HB := Lib.hid hBB
          clear hlt hO hm HENC X1 hBB
          go_wp2_with fail
          refine HE.out.mono ?_; rintro e w2 ⟨⟨g, cap, rfl, hr⟩, k2⟩
          have HB2 := Lib.hid (HB.out.trans (k2.mono HB.out.size))
          have HR2 : Hid (Row8 w.heap.size w2 g cap m D) := Lib.hid (hr.base HB.out.size)
          have X2 := HX.out.below HB2.out
          clear hr k2 HE c0 lt HB
          have c0 := X2.c 0 _ rfl
          have c1 := X2.c 1 _ rfl
          have c2 := X2.c 2 _ rfl
          have c3 := X2.c 3 _ rfl
          have c4 := X2.c 4 _ rfl
          have f3 := X2.fz 3
          have f4 := X2.fz 4
          have lt := X2.lt
          have e5 : IntKind.i64.wrap (F + (L.length : Int)) = F + (L.length : Int) := IntWalk.i64_in _ (by omega)
          have e6 : IntKind.i64.wrap (F + (L.length : Int) - 1) = F + (L.length : Int) - 1 := IntWalk.i64_in _ (by omega)
          obtain ⟨z, hz⟩ : ∃ z, max s (F + (L.length : Int) - 1) = z := ⟨_, rfl⟩
          have HZ := Lib.hid hz
          clear hz
          have HX2 := Lib.hid X2
          clear X2
          go_upto_region 25 with fail
          rw [HZ.out]
          obtain ⟨W3, hW3⟩ : ∃ W3, (w2.setCell ⟨b, 3, none⟩ (.int .i64 z)).setCell ⟨b, 4, none⟩ (.int .i64 0) = W3 := ⟨_, rfl⟩
          have HX3 : Hid (XB W3 b (outC f t a z 0)) := Lib.hid (by rw [← hW3]; exact (HX2.out.set 3 (by simp) (.int .i64 z)).set 4 (by simp) (.int .i64 0))
          have HO3 : Hid (Only b w2 W3) := Lib.hid (by rw [← hW3]; (repeat' (first | (with_reducible exact Only.refl _ _) | (with_reducible assumption) | (with_reducible refine Only.alloc ?_ _) | (with_reducible refine Only.setB ?_ _) | (refine Only.setCell ?_ (Or.inr ?_) _) | (with_reducible refine Only.drewN ?_ _) | (with_reducible refine Only.drew ?_) | (with_reducible refine Only.trans ?_ (by with_reducible assumption)) | (with_reducible refine Only.trans ?_ (Only.of_below (by with_reducible assumption))) | go_size)))
          rw [hW3]
          clear hW3 c0 c1 c2 c3 c4 f3 f4 lt
          have FIN : Hid (∀ V, Below W3.heap.size W3 V → XB V W3.heap.size [.int .i64 f, .int .i64 t, .slice (some ⟨g, 0, none⟩) m cap] → SendRes b f t a s n (L.map Mr.r) w V (.returned (.tuple #[.slice (some ⟨W3.heap.size, 0, none⟩) 1 1, .int .i64 0]))) := Lib.hid (fun V k hB =>
            send_fin HEC.out HDE.out (((Only.of_below HB2.out).trans HO3.out).trans (Only.of_below k)) (by rw [HF.out, List.length_map, HZ.out]; exact HX3.out.below k) HR2.out HM.out (But.of_only (HO3.out.trans (Only.of_below k)) rfl) HX.out.lt (Nat.le_trans HB2.out.size HO3.out.size) hB)
          have c0 := HX3.out.c 0 _ rfl
          have c1 := HX3.out.c 1 _ rfl
          have lt := HX3.out.lt
          go_region
          go_wp2
          go_ret2
          exact FIN.out _ (by (repeat' (first | (with_reducible exact Below.refl _ _) | (with_reducible assumption) | (with_reducible refine Below.trans ?_ (Below.mono (by with_reducible assumption) ?_)) | (with_reducible refine Below.alloc ?_ ?_ _) | (with_reducible refine Below.setCell ?_ ?_ _) | (with_reducible refine below_drewN ?_ _) | (with_reducible refine Below.drew ?_) | go_size))) ((XB.new W3 #[.int .i64 f, .int .i64 t, .slice (some ⟨g, 0, none⟩) m cap] 84).below (by (repeat' (first | (with_reducible exact Below.refl _ _) | (with_reducible assumption) | (with_reducible refine Below.trans ?_ (Below.mono (by with_reducible assumption) ?_)) | (with_reducible refine Below.alloc ?_ ?_ _) | (with_reducible refine Below.setCell ?_ ?_ _) | (with_reducible refine below_drewN ?_ _) | (with_reducible refine Below.drew ?_) | go_size))))
end Go.Proofs.YtdffldlcbihjmaaDoor

