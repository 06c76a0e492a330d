/- Stage 18: StreamSends: the claim. -/
import Derived.BigQuiet
import Derived.Deep.CutBlock
import Derived.Deep.DeepCutAuto
import Derived.Deep.DeepHandedRow
import Derived.Deep.Fields
import Derived.Lib.LaidTab
import Derived.Test.YtdffldlcbihjmaaDoorCards
import Derived.Test.YtdffldlcbihjmaaDoorCrc
import Derived.Test.YtdffldlcbihjmaaDoorLaw
import Derived.Test.YtdffldlcbihjmaaDoorN18a
import Derived.Test.YtdffldlcbihjmaaDoorN18b
import Derived.Test.YtdffldlcbihjmaaDoorN18c
import Derived.Test.YtdffldlcbihjmaaDoorOctMem
import Derived.Test.YtdffldlcbihjmaaDoorRec9
import Derived.Test.YtdffldlcbihjmaaDoorRecordsR
import Derived.Test.YtdffldlcbihjmaaDoorRefList
import Derived.Test.YtdffldlcbihjmaaDoorTie
import Derived.Test.YtdffldlcbihjmaaDoorWdIs
/- The reference's Encode of a word (written by gen/refwdenc.py). -/
set_option linter.unusedSimpArgs false
set_option linter.unusedVariables false
namespace Go.Proofs.YtdffldlcbihjmaaDoor
open Go.RowKit Go.Sort

theorem ref_frame_n (cc n : Nat) (A : Option Addr) (p : List Int) (w : World) (hn : p.length = n) (hp : ByL w A p) (hb : isBy p) (hp0 : 0 < p.length) (hl : p.length ≤ 262144) :
    Calls Tryd.prog 56 #[.slice A n cc] w fun e w' => (∃ g2 cap2, e = .returned (.tuple #[.slice (some ⟨g2, 0, none⟩) (12 + n) cap2, .int .i64 0]) ∧ Row8 w.heap.size w' g2 cap2 (12 + n) (frE p)) ∧ Below w.heap.size w w' := by
  subst hn
  exact ref_frame cc A p w hp hb hp0 hl
theorem enc_res_of {W : Wd} {P : List Int} {n : Nat} {w w' : World} {e : Ending} (h : encW W = P) (hn : P.length = n) (hr : ∃ g2 cap2, e = .returned (.tuple #[.slice (some ⟨g2, 0, none⟩) (12 + n) cap2, .int .i64 0]) ∧ Row8 w.heap.size w' g2 cap2 (12 + n) (frE P)) : EncRes W w w' e := by
  subst hn h
  exact hr
set_option maxRecDepth 100000 in
set_option maxHeartbeats 4000000 in
theorem rwd_enc_no (k o s m1 c1 m2 c2 : Int) (A : Option Addr) (c : Nat) (L : List Mr) (w : World) (hrow : RowAt w (.slice A L.length c) L) (hkb : ∀ m ∈ L, isBy m.r.key) (hl : L.length ≤ 100000) (h : okW (wdOf k o s m1 c1 m2 c2 L) = false) :
    Calls Tryd.prog 14 #[wdV k o s m1 c1 m2 c2 (.slice A L.length c)] w fun e w' => e = .returned (.tuple #[.slice none 0 0, .int .i64 1]) ∧ Below w.heap.size w w' := by
  have hb0 : Below w.heap.size w (w.alloc (.cells (wdC k o s m1 c1 m2 c2 (.slice A L.length c)) 34)) := by (repeat' (first | (with_reducible exact Below.refl _ _) | (with_reducible assumption) | (with_reducible refine Below.trans ?_ (Below.mono (by with_reducible assumption) ?_)) | (with_reducible refine Below.alloc ?_ ?_ _) | (with_reducible refine Below.setCell ?_ ?_ _) | (with_reducible refine below_drewN ?_ _) | (with_reducible refine Below.drew ?_) | go_size))
  have HI := Lib.hid (ref17_is k o s m1 c1 m2 c2 A c L _ (hrow.below hb0) hkb hl)
  rw [h] at HI
  have X0 := Lib.hid (Wd8.new w 34 k o s m1 c1 m2 c2 (.slice A L.length c))
  have HB0 := Lib.hid hb0
  clear h hrow hkb hl hb0
  go_enter Tryd.func14, Tryd.ntmps14
  go_wp2_with fail
  refine HI.out.mono ?_; rintro e w1 ⟨rfl, k1⟩
  have HB1 := Lib.hid (HB0.out.trans (k1.mono HB0.out.size))
  clear k1 HI
  go_wp2
  go_ret2
  exact ⟨rfl, HB1.out⟩
set_option maxRecDepth 100000 in
set_option maxHeartbeats 4000000 in
theorem rwd_enc_2 (o s m1 c1 m2 c2 : Int) (A : Option Addr) (c : Nat) (L : List Mr) (w : World) (hrow : RowAt w (.slice A L.length c) L) (hat : ∀ m ∈ L, m.At (fun _ => True) w) (hkb : ∀ m ∈ L, isBy m.r.key ∧ isBy m.r.val) (hl : L.length ≤ 100000) (h : okW (wdOf 2 o s m1 c1 m2 c2 L) = true) :
    Calls Tryd.prog 14 #[wdV 2 o s m1 c1 m2 c2 (.slice A L.length c)] w fun e w' => EncRes (wdOf 2 o s m1 c1 m2 c2 L) w w' e ∧ Below w.heap.size w w' := by
  obtain ⟨i0, hi0, hz0, hz1, hz2⟩ := info_parts u8_info
  have hb0 : Below w.heap.size w (w.alloc (.cells (wdC 2 o s m1 c1 m2 c2 (.slice A L.length c)) 34)) := by (repeat' (first | (with_reducible exact Below.refl _ _) | (with_reducible assumption) | (with_reducible refine Below.trans ?_ (Below.mono (by with_reducible assumption) ?_)) | (with_reducible refine Below.alloc ?_ ?_ _) | (with_reducible refine Below.setCell ?_ ?_ _) | (with_reducible refine below_drewN ?_ _) | (with_reducible refine Below.drew ?_) | go_size))
  have HI := Lib.hid (ref17_is 2 o s m1 c1 m2 c2 A c L _ (hrow.below hb0) (fun m hm => (hkb m hm).1) hl)
  rw [h] at HI
  have X0 := Lib.hid (Wd8.new w 34 2 o s m1 c1 m2 c2 (.slice A L.length c))
  have HB0 := Lib.hid hb0
  have HBD := Lib.hid (encW_bd h)
  have HBY : Hid (isBy (encW (wdOf 2 o s m1 c1 m2 c2 L))) := Lib.hid (encW_by (fun r hr => by
    obtain ⟨m, hm, rfl⟩ := List.mem_map.1 hr
    exact hkb m hm))
  have hh := headW_bd (okW_kind h).1
  have HZ : Hid (∀ x ∈ [(2 : Int), o, s], 0 ≤ x ∧ x ≤ 4611686018427387904) := Lib.hid (by
    have q : 0 ≤ o ∧ o < 5 ∧ 0 ≤ s ∧ s ≤ 1099511627776 := hh
    intro x hx
    simp at hx
    rcases hx with rfl | rfl | rfl <;> omega)
  have HZL := Lib.hid (numsE_len _ HZ.out)
  have HZ3 : Hid (∀ (g : Nat) (W : World), g < W.heap.size → (∀ (j : Nat) (q : j < [(2 : Int), o, s].length), W.cell? ⟨g, j, none⟩ = some (.int .i64 [(2 : Int), o, s][j])) → Calls Tryd.prog 54 #[.slice (some ⟨g, 0, none⟩) 3 3] W fun e w' => Told8 (numsE [(2 : Int), o, s]) W w' e ∧ Below W.heap.size W w') := Lib.hid (fun g W hg hq => ref_nums g 3 [2, o, s] W hg (by simp) hq HZ.out (by simp) (by have := HZL.out; simp at this; omega))
  obtain ⟨P0, hP0⟩ : ∃ P0, numsE [(2 : Int), o, s] = P0 := ⟨_, rfl⟩
  have HP0 := Lib.hid hP0
  rw [hP0] at HZ3
  clear h hb0 hrow hat hkb hl hh hP0
  go_enter Tryd.func14, Tryd.ntmps14
  go_wp2_with fail
  refine HI.out.mono ?_; rintro e w1 ⟨rfl, k1⟩
  have hb1 := HB0.out.trans (k1.mono HB0.out.size)
  have x1 := X0.out.below k1
  have kA : Below w1.heap.size w1 (w1.alloc (.cells #[.int .i64 2, .int .i64 o, .int .i64 s] 3)) := (Below.refl _ _).alloc (Nat.le_refl _) _
  have HXA := Lib.hid (x1.below kA)
  have HBA := Lib.hid (hb1.trans (kA.mono hb1.size))
  obtain ⟨y0, y1, y2, y3, y4, y5, y6, y7, ylt⟩ := x1
  have HN := Lib.hid (HZ3.out w1.heap.size (w1.alloc (.cells #[.int .i64 2, .int .i64 o, .int .i64 s] 3)) (by simp) (by intro j q; rcases (show j = 0 ∨ j = 1 ∨ j = 2 from by simp at q; omega) with rfl | rfl | rfl <;> simp))
  have hw1 := hb1.size
  clear k1 hb1 kA HI X0 HB0 HZ3
  go_wp2_with fail
  refine HN.out.mono ?_; rintro e w2 ⟨⟨g, cap, rfl, hown⟩, k2⟩
  have HG2 : Hid (G8 w w2 (.slice (some ⟨g, 0, none⟩) P0.length cap) P0) := Lib.hid ⟨own_base (base' := w.heap.size) (by simp; omega) hown, HBA.out.trans (k2.mono HBA.out.size)⟩
  have HX2 := Lib.hid (HXA.out.below k2)
  clear hown k2 HN HXA HBA y0 y1 y2 y3 y4 y5 y6 y7 ylt hw1
  obtain ⟨y0, y1, y2, y3, y4, y5, y6, y7, ylt⟩ := HX2.out
  have HEW : Hid (encW (wdOf 2 o s m1 c1 m2 c2 L) = P0) := Lib.hid (by rw [encW_nums, if_neg (by decide), if_neg (by decide), List.append_nil, HP0.out])
  have HLN : Hid ((P0).length = P0.length) := Lib.hid (by first | rfl | exact List.length_append)
  have HF : Hid (Calls Tryd.prog 56 #[.slice (some ⟨g, 0, none⟩) (P0.length) cap] w2 fun e w' => (∃ g2 cap2, e = .returned (.tuple #[.slice (some ⟨g2, 0, none⟩) (12 + (P0.length)) cap2, .int .i64 0]) ∧ Row8 w2.heap.size w' g2 cap2 (12 + (P0.length)) (frE (P0))) ∧ Below w2.heap.size w2 w') := Lib.hid (by
    have hgr := HG2.out.row
    have hby := HBY.out
    have hbd := HBD.out
    rw [HEW.out] at hby hbd
    obtain ⟨A5, c5, e5, hy5, _⟩ := Own8.bytes hgr
    obtain ⟨rfl, rfl⟩ : some (⟨g, 0, none⟩ : Addr) = A5 ∧ cap = c5 := by injection e5 with q1 q2 q3; exact ⟨q1, q3⟩
    exact ref_frame_n cap _ _ (P0) w2 HLN.out hy5 hby hbd.1 (by omega))
  have HBZ := Lib.hid HG2.out.hb
  clear HG2
  go_wp2_with fail
  refine HF.out.mono ?_; rintro e w6 ⟨⟨g6, cap6, rfl, hr6⟩, k6⟩
  have HB6 := Lib.hid (HBZ.out.trans (k6.mono HBZ.out.size))
  have HR6 := Lib.hid (hr6.base (b2 := w.heap.size) HBZ.out.size)
  clear hr6 k6 HF
  go_wp2
  go_ret2
  exact ⟨enc_res_of HEW.out (by first | exact HLN.out | rfl) ⟨g6, cap6, rfl, HR6.out⟩, HB6.out⟩
set_option maxRecDepth 100000 in
set_option maxHeartbeats 4000000 in
theorem rwd_enc_3 (o s m1 c1 m2 c2 : Int) (A : Option Addr) (c : Nat) (L : List Mr) (w : World) (hrow : RowAt w (.slice A L.length c) L) (hat : ∀ m ∈ L, m.At (fun _ => True) w) (hkb : ∀ m ∈ L, isBy m.r.key ∧ isBy m.r.val) (hl : L.length ≤ 100000) (h : okW (wdOf 3 o s m1 c1 m2 c2 L) = true) :
    Calls Tryd.prog 14 #[wdV 3 o s m1 c1 m2 c2 (.slice A L.length c)] w fun e w' => EncRes (wdOf 3 o s m1 c1 m2 c2 L) w w' e ∧ Below w.heap.size w w' := by
  obtain ⟨i0, hi0, hz0, hz1, hz2⟩ := info_parts u8_info
  have hb0 : Below w.heap.size w (w.alloc (.cells (wdC 3 o s m1 c1 m2 c2 (.slice A L.length c)) 34)) := by (repeat' (first | (with_reducible exact Below.refl _ _) | (with_reducible assumption) | (with_reducible refine Below.trans ?_ (Below.mono (by with_reducible assumption) ?_)) | (with_reducible refine Below.alloc ?_ ?_ _) | (with_reducible refine Below.setCell ?_ ?_ _) | (with_reducible refine below_drewN ?_ _) | (with_reducible refine Below.drew ?_) | go_size))
  have HI := Lib.hid (ref17_is 3 o s m1 c1 m2 c2 A c L _ (hrow.below hb0) (fun m hm => (hkb m hm).1) hl)
  rw [h] at HI
  have X0 := Lib.hid (Wd8.new w 34 3 o s m1 c1 m2 c2 (.slice A L.length c))
  have HB0 := Lib.hid hb0
  have HBD := Lib.hid (encW_bd h)
  have HBY : Hid (isBy (encW (wdOf 3 o s m1 c1 m2 c2 L))) := Lib.hid (encW_by (fun r hr => by
    obtain ⟨m, hm, rfl⟩ := List.mem_map.1 hr
    exact hkb m hm))
  have hh := headW_bd (okW_kind h).1
  have HZ : Hid (∀ x ∈ [(3 : Int), o, s], 0 ≤ x ∧ x ≤ 4611686018427387904) := Lib.hid (by
    have q : 0 ≤ o ∧ o < 5 ∧ 0 ≤ s ∧ s ≤ 1099511627776 := hh
    intro x hx
    simp at hx
    rcases hx with rfl | rfl | rfl <;> omega)
  have HZL := Lib.hid (numsE_len _ HZ.out)
  have HZ3 : Hid (∀ (g : Nat) (W : World), g < W.heap.size → (∀ (j : Nat) (q : j < [(3 : Int), o, s].length), W.cell? ⟨g, j, none⟩ = some (.int .i64 [(3 : Int), o, s][j])) → Calls Tryd.prog 54 #[.slice (some ⟨g, 0, none⟩) 3 3] W fun e w' => Told8 (numsE [(3 : Int), o, s]) W w' e ∧ Below W.heap.size W w') := Lib.hid (fun g W hg hq => ref_nums g 3 [3, o, s] W hg (by simp) hq HZ.out (by simp) (by have := HZL.out; simp at this; omega))
  obtain ⟨P0, hP0⟩ : ∃ P0, numsE [(3 : Int), o, s] = P0 := ⟨_, rfl⟩
  have HP0 := Lib.hid hP0
  have HZ4 : Hid (∀ x ∈ [m1, c1, m2, c2], 0 ≤ x ∧ x ≤ 4611686018427387904) := Lib.hid (by
    rcases (okW_kind h).2 with ⟨q, _⟩ | ⟨q, _⟩ | ⟨_, q1, q2, _⟩
    · exact absurd q (by simp [wdOf])
    · exact absurd q (by simp [wdOf])
    · have b1 : 0 ≤ m1 ∧ m1 ≤ 281474976710655 ∧ 0 ≤ c1 ∧ c1 ≤ 65535 := stamp_bdW q1
      have b2 : 0 ≤ m2 ∧ m2 ≤ 281474976710655 ∧ 0 ≤ c2 ∧ c2 ≤ 65535 := stamp_bdW q2
      intro x hx
      simp at hx
      rcases hx with rfl | rfl | rfl | rfl <;> omega)
  have HZ4L := Lib.hid (numsE_len _ HZ4.out)
  have HN4 : Hid (∀ (g : Nat) (W : World), g < W.heap.size → (∀ (j : Nat) (q : j < [m1, c1, m2, c2].length), W.cell? ⟨g, j, none⟩ = some (.int .i64 [m1, c1, m2, c2][j])) → Calls Tryd.prog 54 #[.slice (some ⟨g, 0, none⟩) 4 4] W fun e w' => Told8 (numsE [m1, c1, m2, c2]) W w' e ∧ Below W.heap.size W w') := Lib.hid (fun g W hg hq => ref_nums g 4 [m1, c1, m2, c2] W hg (by simp) hq HZ4.out (by simp) (by have := HZ4L.out; simp at this; omega))
  obtain ⟨Q, hQ⟩ : ∃ Q, numsE [m1, c1, m2, c2] = Q := ⟨_, rfl⟩
  have HQE := Lib.hid hQ
  have HQ : Hid (0 < Q.length ∧ Q.length ≤ 1000) := Lib.hid (by
    have h1 := HZ4L.out
    have h2 := encN_len0 m1.toNat
    rw [← hQ]
    refine ⟨by rw [numsE_cons, List.length_append]; omega, by simp at h1; omega⟩)
  have HPM : Hid (P0.length ≤ 1000) := Lib.hid (by rw [← hP0]; have := HZL.out; simp at this; omega)
  rw [hQ] at HN4
  clear hQ
  rw [hP0] at HZ3
  clear h hb0 hrow hat hkb hl hh hP0
  go_enter Tryd.func14, Tryd.ntmps14
  go_wp2_with fail
  refine HI.out.mono ?_; rintro e w1 ⟨rfl, k1⟩
  have hb1 := HB0.out.trans (k1.mono HB0.out.size)
  have x1 := X0.out.below k1
  have kA : Below w1.heap.size w1 (w1.alloc (.cells #[.int .i64 3, .int .i64 o, .int .i64 s] 3)) := (Below.refl _ _).alloc (Nat.le_refl _) _
  have HXA := Lib.hid (x1.below kA)
  have HBA := Lib.hid (hb1.trans (kA.mono hb1.size))
  obtain ⟨y0, y1, y2, y3, y4, y5, y6, y7, ylt⟩ := x1
  have HN := Lib.hid (HZ3.out w1.heap.size (w1.alloc (.cells #[.int .i64 3, .int .i64 o, .int .i64 s] 3)) (by simp) (by intro j q; rcases (show j = 0 ∨ j = 1 ∨ j = 2 from by simp at q; omega) with rfl | rfl | rfl <;> simp))
  have hw1 := hb1.size
  clear k1 hb1 kA HI X0 HB0 HZ3
  go_wp2_with fail
  refine HN.out.mono ?_; rintro e w2 ⟨⟨g, cap, rfl, hown⟩, k2⟩
  have HG2 : Hid (G8 w w2 (.slice (some ⟨g, 0, none⟩) P0.length cap) P0) := Lib.hid ⟨own_base (base' := w.heap.size) (by simp; omega) hown, HBA.out.trans (k2.mono HBA.out.size)⟩
  have HX2 := Lib.hid (HXA.out.below k2)
  clear hown k2 HN HXA HBA y0 y1 y2 y3 y4 y5 y6 y7 ylt hw1
  obtain ⟨y0, y1, y2, y3, y4, y5, y6, y7, ylt⟩ := HX2.out
  have kB : Below w2.heap.size w2 (w2.alloc (.cells #[.int .i64 m1, .int .i64 c1, .int .i64 m2, .int .i64 c2] 3)) := (Below.refl _ _).alloc (Nat.le_refl _) _
  have HGB := Lib.hid (HG2.out.below kB)
  have HXB := Lib.hid (HX2.out.below kB)
  have HC4 := Lib.hid (HN4.out w2.heap.size (w2.alloc (.cells #[.int .i64 m1, .int .i64 c1, .int .i64 m2, .int .i64 c2] 3)) (by simp) (by intro j q; rcases (show j = 0 ∨ j = 1 ∨ j = 2 ∨ j = 3 from by simp at q; omega) with rfl | rfl | rfl | rfl <;> simp))
  clear kB HG2 HN4
  go_wp2_with fail
  refine HC4.out.mono ?_; rintro e w3 ⟨⟨gq, cq, rfl, hownq⟩, k3⟩
  have HG3 := Lib.hid (HGB.out.below k3)
  have hrow3 := HG3.out.row
  have hsrc3 := (show ∀ j u, (bC Q)[j]? = some u → w3.cell? ((⟨gq, 0, none⟩ : Addr).add j) = some u from Own8.src hownq)
  have z3 := HG3.out.hb.size
  clear hownq k3 HC4 HGB HX2 HXB y0 y1 y2 y3 y4 y5 y6 y7 ylt
  have hq0 := HQ.out.1
  have hqm := HQ.out.2
  have hp0m := HPM.out
  go_wp2_with (at_builtin; refine wpList_append_lies _ rfl (.tmp 33) (.tmp 47) _ rfl w.heap.size 5 i0 _ 1 1 Tryd.underlying28 hi0 hz0 hz1 hz2 rfl (by decide) (.slice (some ⟨g, 0, none⟩) P0.length cap) P0.length _ rfl hrow3 ⟨gq, 0, none⟩ Q.length cq (bC Q) rfl (by rw [bC_len]; omega) hsrc3 (bC_one _) hq0 (by unfold maxLen; omega) (by first | omega | (simp; omega)) (by first | omega | (simp; omega)) _ rfl ?_; intro gz capz w4 hown4 hg4 hat4 hlt4)
  have HG4 : Hid (G8 w w4 (.slice (some ⟨gz, 0, none⟩) (P0.length + Q.length) capz) (P0 ++ Q)) := Lib.hid (HG3.out.app (Below.refl _ _) rfl hown4 hg4)
  clear hown4 hg4 hat4 hlt4 hrow3 hsrc3 HG3
  have HEW : Hid (encW (wdOf 3 o s m1 c1 m2 c2 L) = P0 ++ Q) := Lib.hid (by rw [encW_nums, if_neg (by decide), if_pos rfl, HP0.out, HQE.out])
  have HLN : Hid ((P0 ++ Q).length = P0.length + Q.length) := Lib.hid (by first | rfl | exact List.length_append)
  have HF : Hid (Calls Tryd.prog 56 #[.slice (some ⟨gz, 0, none⟩) (P0.length + Q.length) capz] w4 fun e w' => (∃ g2 cap2, e = .returned (.tuple #[.slice (some ⟨g2, 0, none⟩) (12 + (P0.length + Q.length)) cap2, .int .i64 0]) ∧ Row8 w4.heap.size w' g2 cap2 (12 + (P0.length + Q.length)) (frE (P0 ++ Q))) ∧ Below w4.heap.size w4 w') := Lib.hid (by
    have hgr := HG4.out.row
    have hby := HBY.out
    have hbd := HBD.out
    rw [HEW.out] at hby hbd
    obtain ⟨A5, c5, e5, hy5, _⟩ := Own8.bytes hgr
    obtain ⟨rfl, rfl⟩ : some (⟨gz, 0, none⟩ : Addr) = A5 ∧ capz = c5 := by injection e5 with q1 q2 q3; exact ⟨q1, q3⟩
    exact ref_frame_n capz _ _ (P0 ++ Q) w4 HLN.out hy5 hby hbd.1 (by omega))
  have HBZ := Lib.hid HG4.out.hb
  clear HG4
  go_wp2_with fail
  refine HF.out.mono ?_; rintro e w6 ⟨⟨g6, cap6, rfl, hr6⟩, k6⟩
  have HB6 := Lib.hid (HBZ.out.trans (k6.mono HBZ.out.size))
  have HR6 := Lib.hid (hr6.base (b2 := w.heap.size) HBZ.out.size)
  clear hr6 k6 HF
  go_wp2
  go_ret2
  exact ⟨enc_res_of HEW.out (by first | exact HLN.out | rfl) ⟨g6, cap6, rfl, HR6.out⟩, HB6.out⟩
set_option maxRecDepth 100000 in
set_option maxHeartbeats 4000000 in
theorem rwd_enc_1 (o s m1 c1 m2 c2 : Int) (A : Option Addr) (c : Nat) (L : List Mr) (w : World) (hrow : RowAt w (.slice A L.length c) L) (hat : ∀ m ∈ L, m.At (fun _ => True) w) (hkb : ∀ m ∈ L, isBy m.r.key ∧ isBy m.r.val) (hl : L.length ≤ 100000) (h : okW (wdOf 1 o s m1 c1 m2 c2 L) = true) :
    Calls Tryd.prog 14 #[wdV 1 o s m1 c1 m2 c2 (.slice A L.length c)] w fun e w' => EncRes (wdOf 1 o s m1 c1 m2 c2 L) w w' e ∧ Below w.heap.size w w' := by
  obtain ⟨i0, hi0, hz0, hz1, hz2⟩ := info_parts u8_info
  have hb0 : Below w.heap.size w (w.alloc (.cells (wdC 1 o s m1 c1 m2 c2 (.slice A L.length c)) 34)) := by (repeat' (first | (with_reducible exact Below.refl _ _) | (with_reducible assumption) | (with_reducible refine Below.trans ?_ (Below.mono (by with_reducible assumption) ?_)) | (with_reducible refine Below.alloc ?_ ?_ _) | (with_reducible refine Below.setCell ?_ ?_ _) | (with_reducible refine below_drewN ?_ _) | (with_reducible refine Below.drew ?_) | go_size))
  have HI := Lib.hid (ref17_is 1 o s m1 c1 m2 c2 A c L _ (hrow.below hb0) (fun m hm => (hkb m hm).1) hl)
  rw [h] at HI
  have X0 := Lib.hid (Wd8.new w 34 1 o s m1 c1 m2 c2 (.slice A L.length c))
  have HB0 := Lib.hid hb0
  have HBD := Lib.hid (encW_bd h)
  have HBY : Hid (isBy (encW (wdOf 1 o s m1 c1 m2 c2 L))) := Lib.hid (encW_by (fun r hr => by
    obtain ⟨m, hm, rfl⟩ := List.mem_map.1 hr
    exact hkb m hm))
  have hh := headW_bd (okW_kind h).1
  have HZ : Hid (∀ x ∈ [(1 : Int), o, s], 0 ≤ x ∧ x ≤ 4611686018427387904) := Lib.hid (by
    have q : 0 ≤ o ∧ o < 5 ∧ 0 ≤ s ∧ s ≤ 1099511627776 := hh
    intro x hx
    simp at hx
    rcases hx with rfl | rfl | rfl <;> omega)
  have HZL := Lib.hid (numsE_len _ HZ.out)
  have HZ3 : Hid (∀ (g : Nat) (W : World), g < W.heap.size → (∀ (j : Nat) (q : j < [(1 : Int), o, s].length), W.cell? ⟨g, j, none⟩ = some (.int .i64 [(1 : Int), o, s][j])) → Calls Tryd.prog 54 #[.slice (some ⟨g, 0, none⟩) 3 3] W fun e w' => Told8 (numsE [(1 : Int), o, s]) W w' e ∧ Below W.heap.size W w') := Lib.hid (fun g W hg hq => ref_nums g 3 [1, o, s] W hg (by simp) hq HZ.out (by simp) (by have := HZL.out; simp at this; omega))
  obtain ⟨P0, hP0⟩ : ∃ P0, numsE [(1 : Int), o, s] = P0 := ⟨_, rfl⟩
  have HP0 := Lib.hid hP0
  have HLST : Hid (∀ W, Below w.heap.size w W → Calls Tryd.prog 55 #[.slice A L.length c] W fun e w' => LsRes (L.map Mr.r) w' e ∧ Below W.heap.size W w') := Lib.hid (fun W q => ref_list _ L W (hrow.below q) (fun m hm => (hat m hm).below q) (fun m hm => (hkb m hm).1) hl)
  have HLC : Hid (lsC (L.map Mr.r) = 0 ∧ 0 < (lsV (L.map Mr.r)).length) := Lib.hid (by
    rcases (okW_kind h).2 with ⟨_, _, q, _, q64⟩ | ⟨q, _⟩ | ⟨q, _⟩
    · refine ⟨lsC_ok q64 (rowB_ok _ _ _ q), ?_⟩
      have h9 : lsV (L.map Mr.r) = encN (L.map Mr.r).length ++ bodyE (L.map Mr.r) := (ls_yes (by have : (L.map Mr.r).length ≤ 64 := q64; omega) (rowB_ok _ _ _ q)).1
      rw [h9, List.length_append]
      have := encN_len0 (L.map Mr.r).length
      omega
    · exact absurd q (by simp [wdOf])
    · exact absurd q (by simp [wdOf]))
  have HPM : Hid (P0.length ≤ 1000) := Lib.hid (by rw [← hP0]; have := HZL.out; simp at this; omega)
  rw [hP0] at HZ3
  clear h hb0 hrow hat hkb hl hh hP0
  go_enter Tryd.func14, Tryd.ntmps14
  go_wp2_with fail
  refine HI.out.mono ?_; rintro e w1 ⟨rfl, k1⟩
  have hb1 := HB0.out.trans (k1.mono HB0.out.size)
  have x1 := X0.out.below k1
  have kA : Below w1.heap.size w1 (w1.alloc (.cells #[.int .i64 1, .int .i64 o, .int .i64 s] 3)) := (Below.refl _ _).alloc (Nat.le_refl _) _
  have HXA := Lib.hid (x1.below kA)
  have HBA := Lib.hid (hb1.trans (kA.mono hb1.size))
  obtain ⟨y0, y1, y2, y3, y4, y5, y6, y7, ylt⟩ := x1
  have HN := Lib.hid (HZ3.out w1.heap.size (w1.alloc (.cells #[.int .i64 1, .int .i64 o, .int .i64 s] 3)) (by simp) (by intro j q; rcases (show j = 0 ∨ j = 1 ∨ j = 2 from by simp at q; omega) with rfl | rfl | rfl <;> simp))
  have hw1 := hb1.size
  clear k1 hb1 kA HI X0 HB0 HZ3
  go_wp2_with fail
  refine HN.out.mono ?_; rintro e w2 ⟨⟨g, cap, rfl, hown⟩, k2⟩
  have HG2 : Hid (G8 w w2 (.slice (some ⟨g, 0, none⟩) P0.length cap) P0) := Lib.hid ⟨own_base (base' := w.heap.size) (by simp; omega) hown, HBA.out.trans (k2.mono HBA.out.size)⟩
  have HX2 := Lib.hid (HXA.out.below k2)
  clear hown k2 HN HXA HBA y0 y1 y2 y3 y4 y5 y6 y7 ylt hw1
  obtain ⟨y0, y1, y2, y3, y4, y5, y6, y7, ylt⟩ := HX2.out
  go_wp2_with fail
  refine (HLST.out _ HG2.out.hb).mono ?_; rintro e w3 ⟨⟨Al, cq, rfl, hyl, hnl, hql, hqc⟩, k3⟩
  have HG3 := Lib.hid (HG2.out.below k3)
  have hll := lsV_len (L.map Mr.r)
  rw [HLC.out.1]
  obtain ⟨Q, hQ⟩ : ∃ Q, lsV (L.map Mr.r) = Q := ⟨_, rfl⟩
  have HQE := Lib.hid hQ
  have HQ : Hid (0 < Q.length ∧ Q.length ≤ 80000) := Lib.hid (by rw [← hQ]; exact ⟨HLC.out.2, hll⟩)
  rw [hQ] at hyl ⊢
  obtain ⟨Bq, Oq, rfl, _⟩ := hyl HQ.out.1
  have hrow3 := HG3.out.row
  have hsrc3 := hyl.cells
  have z3 := HG3.out.hb.size
  clear hQ hll hyl hnl hql hqc k3 HLST HLC HG2 HX2 y0 y1 y2 y3 y4 y5 y6 y7 ylt
  have hq0 := HQ.out.1
  have hqm := HQ.out.2
  have hp0m := HPM.out
  go_wp2_with (at_builtin; refine wpList_append_lies _ rfl (.tmp 28) (.tmp 29) _ rfl w.heap.size 5 i0 _ 1 1 Tryd.underlying28 hi0 hz0 hz1 hz2 rfl (by decide) (.slice (some ⟨g, 0, none⟩) P0.length cap) P0.length _ rfl hrow3 ⟨Bq, Oq, none⟩ Q.length cq (bC Q) rfl (by rw [bC_len]; omega) hsrc3 (bC_one _) hq0 (by unfold maxLen; omega) (by first | omega | (simp; omega)) (by first | omega | (simp; omega)) _ rfl ?_; intro gz capz w4 hown4 hg4 hat4 hlt4)
  have HG4 : Hid (G8 w w4 (.slice (some ⟨gz, 0, none⟩) (P0.length + Q.length) capz) (P0 ++ Q)) := Lib.hid (HG3.out.app (Below.refl _ _) rfl hown4 hg4)
  clear hown4 hg4 hat4 hlt4 hrow3 hsrc3 HG3
  have HEW : Hid (encW (wdOf 1 o s m1 c1 m2 c2 L) = P0 ++ Q) := Lib.hid (by rw [encW_nums, if_pos rfl, HP0.out, HQE.out])
  have HLN : Hid ((P0 ++ Q).length = P0.length + Q.length) := Lib.hid (by first | rfl | exact List.length_append)
  have HF : Hid (Calls Tryd.prog 56 #[.slice (some ⟨gz, 0, none⟩) (P0.length + Q.length) capz] w4 fun e w' => (∃ g2 cap2, e = .returned (.tuple #[.slice (some ⟨g2, 0, none⟩) (12 + (P0.length + Q.length)) cap2, .int .i64 0]) ∧ Row8 w4.heap.size w' g2 cap2 (12 + (P0.length + Q.length)) (frE (P0 ++ Q))) ∧ Below w4.heap.size w4 w') := Lib.hid (by
    have hgr := HG4.out.row
    have hby := HBY.out
    have hbd := HBD.out
    rw [HEW.out] at hby hbd
    obtain ⟨A5, c5, e5, hy5, _⟩ := Own8.bytes hgr
    obtain ⟨rfl, rfl⟩ : some (⟨gz, 0, none⟩ : Addr) = A5 ∧ capz = c5 := by injection e5 with q1 q2 q3; exact ⟨q1, q3⟩
    exact ref_frame_n capz _ _ (P0 ++ Q) w4 HLN.out hy5 hby hbd.1 (by omega))
  have HBZ := Lib.hid HG4.out.hb
  clear HG4
  go_wp2_with fail
  refine HF.out.mono ?_; rintro e w6 ⟨⟨g6, cap6, rfl, hr6⟩, k6⟩
  have HB6 := Lib.hid (HBZ.out.trans (k6.mono HBZ.out.size))
  have HR6 := Lib.hid (hr6.base (b2 := w.heap.size) HBZ.out.size)
  clear hr6 k6 HF
  go_wp2
  go_ret2
  exact ⟨enc_res_of HEW.out (by first | exact HLN.out | rfl) ⟨g6, cap6, rfl, HR6.out⟩, HB6.out⟩
theorem rwd_enc (k o s m1 c1 m2 c2 : Int) (A : Option Addr) (c : Nat) (L : List Mr) (w : World) (hrow : RowAt w (.slice A L.length c) L) (hat : ∀ m ∈ L, m.At (fun _ => True) w) (hkb : ∀ m ∈ L, isBy m.r.key ∧ isBy m.r.val) (hl : L.length ≤ 100000) (h : okW (wdOf k o s m1 c1 m2 c2 L) = true) :
    Calls Tryd.prog 14 #[wdV k o s m1 c1 m2 c2 (.slice A L.length c)] w fun e w' => EncRes (wdOf k o s m1 c1 m2 c2 L) w w' e ∧ Below w.heap.size w w' := by
  rcases (okW_kind h).2 with ⟨q, _⟩ | ⟨q, _⟩ | ⟨q, _⟩
  · have q' : k = 1 := q
    subst q'
    exact rwd_enc_1 o s m1 c1 m2 c2 A c L w hrow hat hkb hl h
  · have q' : k = 2 := q
    subst q'
    exact rwd_enc_2 o s m1 c1 m2 c2 A c L w hrow hat hkb hl h
  · have q' : k = 3 := q
    subst q'
    exact rwd_enc_3 o s m1 c1 m2 c2 A c L w hrow hat hkb hl h
end Go.Proofs.YtdffldlcbihjmaaDoor

/- stream, the reference: NewIn, Own, Done (written by gen/strh.py). -/
namespace Go.Proofs.YtdffldlcbihjmaaDoor
open Go.RowKit Go.Sort

def plB (a : Int) : Bool := decide (0 ≤ a) && decide (a < 5)
set_option maxHeartbeats 4000000 in
theorem ref_place (a : Int) (w : World) : Calls Tryd.prog 71 #[.int .i64 a] w fun e w' => e = .returned (.bool (plB a)) ∧ w = w' := by
  by_cases h1 : 0 ≤ a
  rotate_left
  · have e : plB a = false := by simp [plB, h1]
    rw [e]
    go_enter Tryd.func71, Tryd.ntmps71
    go_wp2
    go_ret
    exact ⟨rfl, rfl⟩
  by_cases h2 : a < 5
  · have e : plB a = true := by simp [plB, h1, h2]
    rw [e]
    go_enter Tryd.func71, Tryd.ntmps71
    go_wp2
    go_ret
    exact ⟨rfl, rfl⟩
  · have e : plB a = false := by simp [plB, h2]
    rw [e]
    go_enter Tryd.func71, Tryd.ntmps71
    go_wp2
    go_ret
    exact ⟨rfl, rfl⟩
theorem placesB_eq (f t : Int) : placesB f t = (plB f && (plB t && decide (f ≠ t))) := by
  simp only [placesB, plB]
  cases decide (0 ≤ f) <;> cases decide (f < 5) <;> cases decide (0 ≤ t) <;> cases decide (t < 5) <;> simp
set_option maxRecDepth 100000 in
set_option maxHeartbeats 4000000 in
theorem ref_new_in (f t a : Int) (w : World) : Calls Tryd.prog 39 #[.int .i64 f, .int .i64 t, .int .i64 a] w fun e w' => NewRes (inC f t a) (newOk f t a) w w' e := by
  have HP := Lib.hid (ref_place f)
  have HT := Lib.hid (ref_place t)
  have HE := placesB_eq f t
  cases hp : plB f
  · rw [hp] at HP HE
    have e : newOk f t a = false := by simp [newOk, HE]
    rw [e]
    clear e hp HE
    go_enter Tryd.func39, Tryd.ntmps39
    go_wp2_with (go_at_call 71; refine (HP.out _).mono ?_; rintro e w1 ⟨rfl, rfl⟩)
    go_ret2
    exact .inl ⟨rfl, rfl, Below.refl _ _⟩
  rw [hp] at HP HE
  cases hq : plB t
  · rw [hq] at HT HE
    have e : newOk f t a = false := by simp [newOk, HE]
    rw [e]
    clear e hp HE hq
    go_enter Tryd.func39, Tryd.ntmps39
    go_wp2_with (go_at_call 71; first | (refine (HP.out _).mono ?_; rintro e w1 ⟨rfl, rfl⟩) | (refine (HT.out _).mono ?_; rintro e w1 ⟨rfl, rfl⟩))
    go_ret2
    exact .inl ⟨rfl, rfl, Below.refl _ _⟩
  rw [hq] at HT HE
  by_cases hx : f = t
  · have e : newOk f t a = false := by
      unfold newOk
      rw [HE, decide_eq_false (fun q => q hx)]
      rfl
    rw [e]
    have t1 : (f == t) = true := by simpa using hx
    clear e hp HE hq hx
    go_enter Tryd.func39, Tryd.ntmps39
    go_wp2_with (go_at_call 71; first | (refine (HP.out _).mono ?_; rintro e w1 ⟨rfl, rfl⟩) | (refine (HT.out _).mono ?_; rintro e w1 ⟨rfl, rfl⟩))
    go_ret2
    exact .inl ⟨rfl, rfl, Below.refl _ _⟩
  have t1 : (f == t) = false := by simpa using hx
  by_cases h1 : 0 ≤ a
  rotate_left
  · have e : newOk f t a = false := by simp [newOk, h1]
    rw [e]
    have h1' : a < 0 := by omega
    clear e hp h1 HE hq hx
    go_enter Tryd.func39, Tryd.ntmps39
    go_wp2_with (go_at_call 71; first | (refine (HP.out _).mono ?_; rintro e w1 ⟨rfl, rfl⟩) | (refine (HT.out _).mono ?_; rintro e w1 ⟨rfl, rfl⟩))
    go_ret2
    exact .inl ⟨rfl, rfl, Below.refl _ _⟩
  have h1' : ¬ a < 0 := by omega
  have h1d : decide (a < 0) = false := decide_eq_false h1'
  by_cases h2 : a ≤ 1099511627776
  rotate_left
  · have e : newOk f t a = false := by simp [newOk, h1, h2]
    rw [e]
    have h2' : 1099511627776 < a := by omega
    clear e hp h1 h2 HE hq hx
    go_enter Tryd.func39, Tryd.ntmps39
    go_wp2_with (go_at_call 71; first | (refine (HP.out _).mono ?_; rintro e w1 ⟨rfl, rfl⟩) | (refine (HT.out _).mono ?_; rintro e w1 ⟨rfl, rfl⟩))
    go_ret2
    exact .inl ⟨rfl, rfl, Below.refl _ _⟩
  · have e : newOk f t a = true := by simp [newOk, h1, h2, HE, hx]
    rw [e]
    have h2' : ¬ (1099511627776 : Int) < a := by omega
    have h2d : decide ((1099511627776 : Int) < a) = false := decide_eq_false h2'
    clear e hp h1 h2 HE hq hx
    go_enter Tryd.func39, Tryd.ntmps39
    go_wp2_with (go_at_call 71; first | (refine (HP.out _).mono ?_; rintro e w1 ⟨rfl, rfl⟩) | (refine (HT.out _).mono ?_; rintro e w1 ⟨rfl, rfl⟩))
    go_ret2
    exact .inr ⟨rfl, _, rfl, Nat.le_refl _, XB.new w _ _, by (repeat' (first | (with_reducible exact Below.refl _ _) | (with_reducible assumption) | (with_reducible refine Below.trans ?_ (Below.mono (by with_reducible assumption) ?_)) | (with_reducible refine Below.alloc ?_ ?_ _) | (with_reducible refine Below.setCell ?_ ?_ _) | (with_reducible refine below_drewN ?_ _) | (with_reducible refine Below.drew ?_) | go_size))⟩
set_option maxRecDepth 100000 in
set_option maxHeartbeats 4000000 in
theorem ref_done (b : Nat) (f o a q : Int) (w : World) (h : XB w b (inC f o a)) (ho : 0 ≤ o ∧ o < 5) (ha : 0 ≤ a ∧ a ≤ 1099511627776) :
    Calls Tryd.prog 44 #[.pointer (some ⟨b, 0, none⟩), .int .i64 q] w fun e w' => DoneRes b f o (doneM a q) w w' e := by
  have hz := doneM_bd (q := q) ha
  obtain ⟨z, hzz⟩ : ∃ z, doneM a q = z := ⟨_, rfl⟩
  rw [hzz] at hz ⊢
  have HQ3 : Hid (max a (min q 1099511627776) = z) := Lib.hid hzz
  clear hzz ha
  have c0 := h.c 0 _ rfl
  have c1 := h.c 1 _ rfl
  have c2 := h.c 2 _ rfl
  have f2 := h.fz 2
  have lt := h.lt
  obtain ⟨W1, hW1⟩ : ∃ W1, w.setCell ⟨b, 2, none⟩ (.int .i64 z) = W1 := ⟨_, rfl⟩
  have HX1 : Hid (XB W1 b (inC f o z)) := Lib.hid (by rw [← hW1]; exact h.set 2 (by simp) (.int .i64 z))
  have HO1 : Hid (Only b w W1) := Lib.hid (by rw [← hW1]; exact (Only.refl _ _).setB _)
  have HW1 := Lib.hid hW1
  obtain ⟨D, hD⟩ : ∃ D, ackE o z = D := ⟨_, rfl⟩
  obtain ⟨n, hn⟩ : ∃ n, 12 + (encW (wdOf 2 o z 0 0 0 0 [])).length = n := ⟨_, rfl⟩
  have HD := Lib.hid hD
  have HN : Hid (n ≤ 1000000) := Lib.hid (by have := encW_bd (ack_okW ho hz); omega)
  have HENC : Hid (∀ W, Calls Tryd.prog 14 #[wdV 2 o z 0 0 0 0 (.slice none 0 0)] W fun e w' => (∃ g cap, e = .returned (.tuple #[.slice (some ⟨g, 0, none⟩) n cap, .int .i64 0]) ∧ Row8 W.heap.size w' g cap n D) ∧ Below W.heap.size W w') := Lib.hid (fun W => by
    subst hn hD
    exact rwd_enc 2 o z 0 0 0 0 none 0 [] W ⟨_, _, rfl, fun h => absurd h (by simp)⟩ (fun _ h => by cases h) (fun _ h => by cases h) (by simp) (ack_okW ho hz))
  clear h ho hz hD hn hW1
  go_enter Tryd.func44, Tryd.ntmps44
  go_upto_region 2 with fail
  rw [HQ3.out, HW1.out]
  clear c0 c1 c2 f2 lt
  have lt := HX1.out.lt
  refine wp_region_held_drew (S := (fun w' => w'.cell? ⟨b, 1, none⟩ = some (.int .i64 o) ∧ w'.cell? ⟨b, 2, none⟩ = some (.int .i64 z))) (by kernel_rfl) ?_ (fun hHeld => ?_)
  · exact ⟨HX1.out.c 1 _ rfl, HX1.out.c 2 _ rfl⟩
  refine wpAnyH_take (i := 0) (v := ?_) rfl (by kernel_rfl) (by kernel_rfl) (by kernel_rfl) (fun _ _ _ h => h) (Or.inl ⟨by rfl, ?_⟩) (by assumption) ?_
  rotate_left
  · intro w' hSw; (try dsimp only at hSw); go_simp; (try with_reducible rfl)
  (try simp only [Act.put, List.setIfInBounds_toArray, List.set_cons_zero, List.set_cons_succ, List.getElem_toArray, List.getElem_cons_succ, List.getElem_cons_zero])
  refine wpAnyH_take (i := 1) (v := ?_) rfl (by kernel_rfl) (by kernel_rfl) (by kernel_rfl) (fun _ _ _ h => h) (Or.inl ⟨by rfl, ?_⟩) (by assumption) ?_
  rotate_left
  · intro w' hSw; (try dsimp only at hSw); go_simp; (try with_reducible rfl)
  (try simp only [Act.put, List.setIfInBounds_toArray, List.set_cons_zero, List.set_cons_succ, List.getElem_toArray, List.getElem_cons_succ, List.getElem_cons_zero])
  refine wpAnyH_take (i := 2) (v := ?_) rfl (by kernel_rfl) (by kernel_rfl) (by kernel_rfl) (fun _ _ _ h => h) (Or.inl ⟨by rfl, ?_⟩) (by assumption) ?_
  rotate_left
  · intro w' hSw; (try dsimp only at hSw); go_simp; (try with_reducible rfl)
  (try simp only [Act.put, List.setIfInBounds_toArray, List.set_cons_zero, List.set_cons_succ, List.getElem_toArray, List.getElem_cons_succ, List.getElem_cons_zero])
  refine wpAnyH_take (i := 3) (v := ?_) rfl (by kernel_rfl) (by kernel_rfl) (by kernel_rfl) (fun _ _ _ h => h) (Or.inl ⟨by rfl, ?_⟩) (by assumption) ?_
  rotate_left
  · intro w' hSw; (try dsimp only at hSw); go_simp; (try with_reducible rfl)
  (try simp only [Act.put, List.setIfInBounds_toArray, List.set_cons_zero, List.set_cons_succ, List.getElem_toArray, List.getElem_cons_succ, List.getElem_cons_zero])
  refine wpAnyH_take (i := 4) (v := ?_) rfl (by kernel_rfl) (by kernel_rfl) (by kernel_rfl) (fun _ _ _ h => h) (Or.inl ⟨by rfl, ?_⟩) (by assumption) ?_
  rotate_left
  · intro w' hSw; (try dsimp only at hSw); go_simp; (try with_reducible rfl)
  (try simp only [Act.put, List.setIfInBounds_toArray, List.set_cons_zero, List.set_cons_succ, List.getElem_toArray, List.getElem_cons_succ, List.getElem_cons_zero])
  refine wpAnyH_take (i := 5) (v := ?_) rfl (by kernel_rfl) (by kernel_rfl) (by kernel_rfl) (fun _ _ _ h => h) (Or.inl ⟨by rfl, ?_⟩) (by assumption) ?_
  rotate_left
  · intro w' hSw; (try dsimp only at hSw); go_simp; (try with_reducible rfl)
  (try simp only [Act.put, List.setIfInBounds_toArray, List.set_cons_zero, List.set_cons_succ, List.getElem_toArray, List.getElem_cons_succ, List.getElem_cons_zero])
  refine wpAnyH_take (i := 6) (v := ?_) rfl (by kernel_rfl) (by kernel_rfl) (by kernel_rfl) (fun _ _ _ h => h) (Or.inl ⟨by rfl, ?_⟩) (by assumption) ?_
  rotate_left
  · intro w' hSw; (try dsimp only at hSw); go_simp; (try with_reducible rfl)
  (try simp only [Act.put, List.setIfInBounds_toArray, List.set_cons_zero, List.set_cons_succ, List.getElem_toArray, List.getElem_cons_succ, List.getElem_cons_zero])
  refine wpAnyH_take (i := 7) (v := ?_) rfl (by kernel_rfl) (by kernel_rfl) (by kernel_rfl) (fun _ _ _ h => h) (Or.inl ⟨by rfl, ?_⟩) (by assumption) ?_
  rotate_left
  · intro w' hSw; (try dsimp only at hSw); go_simp; (try with_reducible rfl)
  (try simp only [Act.put, List.setIfInBounds_toArray, List.set_cons_zero, List.set_cons_succ, List.getElem_toArray, List.getElem_cons_succ, List.getElem_cons_zero])
  refine wpAnyH_take (i := 8) (v := ?_) rfl (by kernel_rfl) (by kernel_rfl) (by kernel_rfl) (fun _ _ _ h => h) (Or.inl ⟨by rfl, ?_⟩) (by assumption) ?_
  rotate_left
  · intro w' hSw; (try dsimp only at hSw); go_simp; (try with_reducible rfl)
  (try simp only [Act.put, List.setIfInBounds_toArray, List.set_cons_zero, List.set_cons_succ, List.getElem_toArray, List.getElem_cons_succ, List.getElem_cons_zero])
  refine wpAnyH_ready (rs := [9]) (by kernel_rfl) (by simp) ?_
  refine AllReadyH.cons rfl (fun K hK => ?_) AllReadyH.nil
  go_simp
  (go_at_call 14; refine (HENC.out _).mono ?_; rintro e w2 ⟨⟨g, cap, rfl, hr⟩, k2⟩; have k2' : Below W1.heap.size W1 w2 := (Below.refl W1.heap.size W1).drew.trans k2; have HX2 := Lib.hid (HX1.out.below k2'); have HR2 : Hid (Row8 W1.heap.size w2 g cap n D) := Lib.hid hr; have HK2 : Hid (Below W1.heap.size W1 w2) := Lib.hid k2'; clear hr k2 k2')
  (try dsimp only)
  refine hK.out _ _ ?_ (fun hHeld => ?_)
  · exact ⟨HX2.out.c 1 _ rfl, HX2.out.c 2 _ rfl⟩
  clear hK K
  (try simp only [Act.put, List.setIfInBounds_toArray, List.set_cons_zero, List.set_cons_succ, List.getElem_toArray, List.getElem_cons_succ, List.getElem_cons_zero])
  refine wpAnyH_take (i := 10) (v := ?_) rfl (by kernel_rfl) (by kernel_rfl) (by kernel_rfl) (fun _ _ _ h => h) (Or.inl ⟨by rfl, ?_⟩) (by assumption) ?_
  rotate_left
  · intro w' hSw; (try dsimp only at hSw); go_simp; (try with_reducible rfl)
  (try simp only [Act.put, List.setIfInBounds_toArray, List.set_cons_zero, List.set_cons_succ, List.getElem_toArray, List.getElem_cons_succ, List.getElem_cons_zero])
  refine wpAnyH_take (i := 11) (v := ?_) rfl (by kernel_rfl) (by kernel_rfl) (by kernel_rfl) (fun _ _ _ h => h) (Or.inl ⟨by rfl, ?_⟩) (by assumption) ?_
  rotate_left
  · intro w' hSw; (try dsimp only at hSw); go_simp; (try with_reducible rfl)
  (try simp only [Act.put, List.setIfInBounds_toArray, List.set_cons_zero, List.set_cons_succ, List.getElem_toArray, List.getElem_cons_succ, List.getElem_cons_zero])
  refine wpAnyH_take (i := 12) (v := ?_) rfl (by kernel_rfl) (by kernel_rfl) (by kernel_rfl) (fun _ _ _ h => h) (Or.inl ⟨by rfl, ?_⟩) (by assumption) ?_
  rotate_left
  · intro w' hSw; (try dsimp only at hSw); go_simp; (try with_reducible rfl)
  (try simp only [Act.put, List.setIfInBounds_toArray, List.set_cons_zero, List.set_cons_succ, List.getElem_toArray, List.getElem_cons_succ, List.getElem_cons_zero])
  refine wpAnyH_take (i := 13) (v := ?_) rfl (by kernel_rfl) (by kernel_rfl) (by kernel_rfl) (fun _ _ _ h => h) (Or.inl ⟨by rfl, ?_⟩) (by assumption) ?_
  rotate_left
  · intro w' hSw; (try dsimp only at hSw); go_simp; (try with_reducible rfl)
  (try simp only [Act.put, List.setIfInBounds_toArray, List.set_cons_zero, List.set_cons_succ, List.getElem_toArray, List.getElem_cons_succ, List.getElem_cons_zero])
  refine wpAnyH_take (i := 14) (v := ?_) rfl (by kernel_rfl) (by kernel_rfl) (by kernel_rfl) (fun _ _ _ h => h) (Or.inl ⟨by rfl, ?_⟩) (by assumption) ?_
  rotate_left
  · intro w' hSw; (try dsimp only at hSw); go_simp; (try with_reducible rfl)
  (try simp only [Act.put, List.setIfInBounds_toArray, List.set_cons_zero, List.set_cons_succ, List.getElem_toArray, List.getElem_cons_succ, List.getElem_cons_zero])
  refine wpAnyH_done (by kernel_rfl) ?_ _
  clear hHeld lt
  have c0 := HX2.out.c 0 _ rfl
  have c1 := HX2.out.c 1 _ rfl
  have lt := HX2.out.lt
  go_wp2_with fail
  go_region
  go_wp2
  go_ret
  exact done_fin HD.out HO1.out HK2.out HX1.out HR2.out HN.out (by (repeat' (first | (with_reducible exact Below.refl _ _) | (with_reducible assumption) | (with_reducible refine Below.trans ?_ (Below.mono (by with_reducible assumption) ?_)) | (with_reducible refine Below.alloc ?_ ?_ _) | (with_reducible refine Below.setCell ?_ ?_ _) | (with_reducible refine below_drewN ?_ _) | (with_reducible refine Below.drew ?_) | go_size))) (Nat.le_refl _) ((XB.new w2 #[.int .i64 f, .int .i64 o, .slice (some ⟨g, 0, none⟩) n cap] 84).below (by (repeat' (first | (with_reducible exact Below.refl _ _) | (with_reducible assumption) | (with_reducible refine Below.trans ?_ (Below.mono (by with_reducible assumption) ?_)) | (with_reducible refine Below.alloc ?_ ?_ _) | (with_reducible refine Below.setCell ?_ ?_ _) | (with_reducible refine below_drewN ?_ _) | (with_reducible refine Below.drew ?_) | go_size))))
end Go.Proofs.YtdffldlcbihjmaaDoor

/- stream, the reference: NewOut, Need, Ack, Tick (written by gen/stru.py). -/
namespace Go.Proofs.YtdffldlcbihjmaaDoor
open Go.RowKit Go.Sort

set_option maxRecDepth 100000 in
set_option maxHeartbeats 4000000 in
theorem ref_new_out (f t a : Int) (w : World) : Calls Tryd.prog 26 #[.int .i64 f, .int .i64 t, .int .i64 a] w fun e w' => NewRes (outC f t a a 0) (newOk f t a) w w' e := by
  have HP := Lib.hid (ref_place f)
  have HT := Lib.hid (ref_place t)
  have HE := placesB_eq f t
  cases hp : plB f
  · rw [hp] at HP HE
    have e : newOk f t a = false := by simp [newOk, HE]
    rw [e]
    clear e hp HE
    go_enter Tryd.func26, Tryd.ntmps26
    go_wp2_with (go_at_call 71; refine (HP.out _).mono ?_; rintro e w1 ⟨rfl, rfl⟩)
    go_ret2
    exact .inl ⟨rfl, rfl, Below.refl _ _⟩
  rw [hp] at HP HE
  cases hq : plB t
  · rw [hq] at HT HE
    have e : newOk f t a = false := by simp [newOk, HE]
    rw [e]
    clear e hp HE hq
    go_enter Tryd.func26, Tryd.ntmps26
    go_wp2_with (go_at_call 71; first | (refine (HP.out _).mono ?_; rintro e w1 ⟨rfl, rfl⟩) | (refine (HT.out _).mono ?_; rintro e w1 ⟨rfl, rfl⟩))
    go_ret2
    exact .inl ⟨rfl, rfl, Below.refl _ _⟩
  rw [hq] at HT HE
  by_cases hx : f = t
  · have e : newOk f t a = false := by
      unfold newOk
      rw [HE, decide_eq_false (fun q => q hx)]
      rfl
    rw [e]
    have t1 : (f == t) = true := by simpa using hx
    clear e hp HE hq hx
    go_enter Tryd.func26, Tryd.ntmps26
    go_wp2_with (go_at_call 71; first | (refine (HP.out _).mono ?_; rintro e w1 ⟨rfl, rfl⟩) | (refine (HT.out _).mono ?_; rintro e w1 ⟨rfl, rfl⟩))
    go_ret2
    exact .inl ⟨rfl, rfl, Below.refl _ _⟩
  have t1 : (f == t) = false := by simpa using hx
  by_cases h1 : 0 ≤ a
  rotate_left
  · have e : newOk f t a = false := by simp [newOk, h1]
    rw [e]
    have h1' : a < 0 := by omega
    clear e hp h1 HE hq hx
    go_enter Tryd.func26, Tryd.ntmps26
    go_wp2_with (go_at_call 71; first | (refine (HP.out _).mono ?_; rintro e w1 ⟨rfl, rfl⟩) | (refine (HT.out _).mono ?_; rintro e w1 ⟨rfl, rfl⟩))
    go_ret2
    exact .inl ⟨rfl, rfl, Below.refl _ _⟩
  have h1' : ¬ a < 0 := by omega
  have h1d : decide (a < 0) = false := decide_eq_false h1'
  by_cases h2 : a ≤ 1099511627776
  rotate_left
  · have e : newOk f t a = false := by simp [newOk, h1, h2]
    rw [e]
    have h2' : 1099511627776 < a := by omega
    clear e hp h1 h2 HE hq hx
    go_enter Tryd.func26, Tryd.ntmps26
    go_wp2_with (go_at_call 71; first | (refine (HP.out _).mono ?_; rintro e w1 ⟨rfl, rfl⟩) | (refine (HT.out _).mono ?_; rintro e w1 ⟨rfl, rfl⟩))
    go_ret2
    exact .inl ⟨rfl, rfl, Below.refl _ _⟩
  · have e : newOk f t a = true := by simp [newOk, h1, h2, HE, hx]
    rw [e]
    have h2' : ¬ (1099511627776 : Int) < a := by omega
    have h2d : decide ((1099511627776 : Int) < a) = false := decide_eq_false h2'
    clear e hp h1 h2 HE hq hx
    go_enter Tryd.func26, Tryd.ntmps26
    go_wp2_with (go_at_call 71; first | (refine (HP.out _).mono ?_; rintro e w1 ⟨rfl, rfl⟩) | (refine (HT.out _).mono ?_; rintro e w1 ⟨rfl, rfl⟩))
    go_ret2
    exact .inr ⟨rfl, _, rfl, Nat.le_refl _, XB.new w _ _, by (repeat' (first | (with_reducible exact Below.refl _ _) | (with_reducible assumption) | (with_reducible refine Below.trans ?_ (Below.mono (by with_reducible assumption) ?_)) | (with_reducible refine Below.alloc ?_ ?_ _) | (with_reducible refine Below.setCell ?_ ?_ _) | (with_reducible refine below_drewN ?_ _) | (with_reducible refine Below.drew ?_) | go_size))⟩
set_option maxRecDepth 100000 in
set_option maxHeartbeats 4000000 in
theorem ref_need (b : Nat) (f t a s n last : Int) (w : World) (h : XB w b (outC f t a s n)) (ha : 0 ≤ a ∧ a ≤ 4611686018427387904) (hs : 0 ≤ s ∧ s ≤ 4611686018427387904) :
    Calls Tryd.prog 28 #[.pointer (some ⟨b, 0, none⟩), .int .i64 last] w fun e w' => e = .returned (.tuple #[.int .i64 (needM a s n last).1, .bool (needM a s n last).2]) ∧ w = w' := by
  have c2 := h.c 2 _ rfl
  have c3 := h.c 3 _ rfl
  have c4 := h.c 4 _ rfl
  have lt := h.lt
  have e1 : IntKind.i64.wrap (s + 1) = s + 1 := IntWalk.i64_in _ (by omega)
  have e2 : IntKind.i64.wrap (a + 1) = a + 1 := IntWalk.i64_in _ (by omega)
  clear h ha hs
  by_cases h1 : s < last
  · have e : needM a s n last = (s + 1, true) := by simp [needM, h1]
    rw [e]
    clear e
    go_enter Tryd.func28, Tryd.ntmps28
    go_wp2
    go_ret2
    exact ⟨rfl, rfl⟩
  by_cases h2 : a < last
  rotate_left
  · have e : needM a s n last = (0, false) := by simp [needM, h1, h2]
    rw [e]
    clear e
    go_enter Tryd.func28, Tryd.ntmps28
    go_wp2
    go_ret2
    exact ⟨rfl, rfl⟩
  by_cases h3 : 4 ≤ n
  · have e : needM a s n last = (a + 1, true) := by simp [needM, h1, h2, h3]
    rw [e]
    clear e
    go_enter Tryd.func28, Tryd.ntmps28
    go_wp2
    go_ret2
    exact ⟨rfl, rfl⟩
  · have e : needM a s n last = (0, false) := by simp [needM, h1, h3]
    rw [e]
    clear e
    go_enter Tryd.func28, Tryd.ntmps28
    go_wp2
    go_ret2
    exact ⟨rfl, rfl⟩
set_option maxRecDepth 100000 in
set_option maxHeartbeats 4000000 in
theorem ref_ack (b : Nat) (f t a s n q : Int) (w : World) (h : XB w b (outC f t a s n)) :
    Calls Tryd.prog 31 #[.pointer (some ⟨b, 0, none⟩), .int .i64 q] w fun e w' => e = .returned (.bool (ackB a s q)) ∧ StPost b (if ackB a s q = true then outC f t q s 0 else outC f t a s n) w w' := by
  have c2 := h.c 2 _ rfl
  have c3 := h.c 3 _ rfl
  have c4 := h.c 4 _ rfl
  have f2 := h.fz 2
  have f4 := h.fz 4
  have lt := h.lt
  have HX := Lib.hid h
  clear h
  by_cases h1 : a < q
  rotate_left
  · have e : ackB a s q = false := by simp [ackB, h1]
    rw [e]
    have h1' : q ≤ a := by omega
    clear e h1
    go_enter Tryd.func31, Tryd.ntmps31
    go_wp2
    go_ret
    exact ⟨rfl, HX.out, Only.refl _ _⟩
  have h1' : ¬ q ≤ a := by omega
  by_cases h2 : q ≤ s
  rotate_left
  · have e : ackB a s q = false := by simp [ackB, h2]
    rw [e]
    have h2' : s < q := by omega
    clear e h1 h2
    go_enter Tryd.func31, Tryd.ntmps31
    go_wp2
    go_ret
    exact ⟨rfl, HX.out, Only.refl _ _⟩
  · have e : ackB a s q = true := by simp [ackB, h1, h2]
    rw [e]
    have h2' : ¬ s < q := by omega
    clear e h1 h2
    have FIN : Hid (StPost b (outC f t q s 0) w ((w.setCell ⟨b, 2, none⟩ (.int .i64 q)).setCell ⟨b, 4, none⟩ (.int .i64 0))) := Lib.hid ⟨(HX.out.set 2 (by simp) (.int .i64 q)).set 4 (by simp) (.int .i64 0), by (repeat' (first | (with_reducible exact Only.refl _ _) | (with_reducible assumption) | (with_reducible refine Only.alloc ?_ _) | (with_reducible refine Only.setB ?_ _) | (refine Only.setCell ?_ (Or.inr ?_) _) | (with_reducible refine Only.drewN ?_ _) | (with_reducible refine Only.drew ?_) | (with_reducible refine Only.trans ?_ (by with_reducible assumption)) | (with_reducible refine Only.trans ?_ (Only.of_below (by with_reducible assumption))) | go_size))⟩
    go_enter Tryd.func31, Tryd.ntmps31
    go_wp2
    go_ret
    exact ⟨rfl, FIN.out⟩
set_option maxRecDepth 100000 in
set_option maxHeartbeats 4000000 in
theorem ref_tick (b : Nat) (f t a s n : Int) (w : World) (h : XB w b (outC f t a s n)) (hn : 0 ≤ n ∧ n ≤ 4611686018427387904) :
    Calls Tryd.prog 33 #[.pointer (some ⟨b, 0, none⟩)] w fun e w' => e = .returned (.tuple #[]) ∧ StPost b (outC f t a s (tickM a s n)) w w' := by
  have c2 := h.c 2 _ rfl
  have c3 := h.c 3 _ rfl
  have c4 := h.c 4 _ rfl
  have f4 := h.fz 4
  have lt := h.lt
  have e1 : IntKind.i64.wrap (n + 1) = n + 1 := IntWalk.i64_in _ (by omega)
  have HX := Lib.hid h
  clear h hn
  by_cases h1 : a < s
  · have e : tickM a s n = n + 1 := by simp [tickM, h1]
    rw [e]
    have hd : decide (a < s) = true := by simpa using h1
    clear e h1
    have FIN : Hid (∀ k, StPost b (outC f t a s (n + 1)) w ((w.drewN k).setCell ⟨b, 4, none⟩ (.int .i64 (n + 1)))) := Lib.hid (fun k => ⟨(HX.out.below (below_drewN (Below.refl _ _) k)).set 4 (by simp) (.int .i64 (n + 1)), by (repeat' (first | (with_reducible exact Only.refl _ _) | (with_reducible assumption) | (with_reducible refine Only.alloc ?_ _) | (with_reducible refine Only.setB ?_ _) | (refine Only.setCell ?_ (Or.inr ?_) _) | (with_reducible refine Only.drewN ?_ _) | (with_reducible refine Only.drew ?_) | (with_reducible refine Only.trans ?_ (by with_reducible assumption)) | (with_reducible refine Only.trans ?_ (Only.of_below (by with_reducible assumption))) | go_size))⟩)
    go_enter Tryd.func33, Tryd.ntmps33
    go_wp2_with fail
    go_quiet (fail)
    go_wp2
    exact bodyPost_end (by simp [results, Tryd.results33, go_sem]) rfl ⟨rfl, FIN.out _⟩
  · have e : tickM a s n = n := by simp [tickM, h1]
    rw [e]
    have hd : decide (a < s) = false := by simpa using h1
    clear e h1
    have FIN : Hid (∀ k, StPost b (outC f t a s n) w (w.drewN k)) := Lib.hid (fun k => ⟨HX.out.below (below_drewN (Below.refl _ _) k), by (repeat' (first | (with_reducible exact Only.refl _ _) | (with_reducible assumption) | (with_reducible refine Only.alloc ?_ _) | (with_reducible refine Only.setB ?_ _) | (refine Only.setCell ?_ (Or.inr ?_) _) | (with_reducible refine Only.drewN ?_ _) | (with_reducible refine Only.drew ?_) | (with_reducible refine Only.trans ?_ (by with_reducible assumption)) | (with_reducible refine Only.trans ?_ (Only.of_below (by with_reducible assumption))) | go_size))⟩)
    go_enter Tryd.func33, Tryd.ntmps33
    go_wp2_with fail
    go_quiet (fail)
    go_wp2
    exact bodyPost_end (by simp [results, Tryd.results33, go_sem]) rfl ⟨rfl, FIN.out _⟩
end Go.Proofs.YtdffldlcbihjmaaDoor

/- stream, the reference: Send (written by gen/strv.py). -/
namespace Go.Proofs.YtdffldlcbihjmaaDoor
open Go.RowKit Go.Sort

theorem ref_send_nil (b : Nat) (f t a s n : Int) (A : Option Addr) (c : Nat) (w : World) (h : XB w b (outC f t a s n)) :
    Calls Tryd.prog 35 #[.pointer (some ⟨b, 0, none⟩), .slice A 0 c] w fun e w' => SendRes b f t a s n [] w w' e := by
  have lt := h.lt
  clear h
  go_enter Tryd.func35, Tryd.ntmps35
  go_wp2
  go_ret2
  exact send_no (k := 1) rfl (by decide) (Below.refl _ _)
theorem send_gap2 {f a s : Int} {rs : List Rc} (h0 : 0 < rs.length) (ha : ∀ r ∈ rs, okR r = true ∧ r.o = f) (h : ¬ 8 < rs.length) (hb : rowB f (fstS rs) rs = false) : sendC f a s rs = 12 := by
  unfold sendC
  rw [if_neg (by omega), if_neg (fun q => q ha), if_neg h]
  split
  · rfl
  · rw [if_neg (by rw [hb]; decide)]
theorem send_fin2 {b : Nat} {f t a s n : Int} {rs : List Rc} {w w2 V : World} {N g cap m : Nat} {D : List Int} (hc : sendC f a s rs = 0) (hD : recE f rs = D) (hO : Only b w V) (hx : XB V b (outC f t a (max s (fstS rs + (rs.length : Int) - 1)) 0)) (hr : Row8 N w2 g cap m D) (hN : w.heap.size ≤ N) (hm : m ≤ 1000000)
    (k : Below w2.heap.size w2 V) {B : Nat} (hBB : w.heap.size ≤ B) (hB : XB V B [.int .i64 f, .int .i64 t, .slice (some ⟨g, 0, none⟩) m cap]) : SendRes b f t a s n rs w V (.returned (.tuple #[.slice (some ⟨B, 0, none⟩) 1 1, .int .i64 0])) := by
  subst hD
  have hl := hr.len
  subst hl
  exact .inr ⟨hc, _, rfl, ⟨B, 1, g, cap, hBB, Nat.le_trans hN hr.ge.1, rfl, hB, (hr.below k).by_, hm, hr.cap_le.1, hr.cap_le.2⟩, hx, hO⟩
set_option maxRecDepth 100000 in
set_option maxHeartbeats 8000000 in
theorem ref_send (b : Nat) (f t a s n : Int) (B O c : Nat) (L : List Mr) (w : World) (h : XB w b (outC f t a s n)) (hrow : RowAt w (.slice (some ⟨B, O, none⟩) L.length c) L) (hat : ∀ m ∈ L, m.At (fun i => i ≠ b) w) (hkb : ∀ m ∈ L, isBy m.r.key ∧ isBy m.r.val) (hl0 : 0 < L.length) (hl : L.length ≤ 100000) (hBb : B ≠ b)
    (ha : 0 ≤ a ∧ a ≤ 2199023255552) (hs : 0 ≤ s ∧ s ≤ 2199023255552) :
    Calls Tryd.prog 35 #[.pointer (some ⟨b, 0, none⟩), .slice (some ⟨B, O, none⟩) L.length c] w fun e w' => SendRes b f t a s n (L.map Mr.r) w w' e := by
  have hni : (L.length : Int) ≤ 100000 := by omega
  obtain ⟨A', c', he', hc'⟩ := hrow.ex
  have HC : Hid (B < w.heap.size ∧ ∀ j u, (rowM L)[j]? = some u → w.cell? ⟨B, O + j, none⟩ = some u) := Lib.hid (by
    obtain ⟨B', O', e, h⟩ := hc' (by omega)
    injection he' with q1 q2 q3
    rw [e] at q1
    injection q1 with q1
    injection q1 with q1 q4
    subst q1 q4
    exact h)
  have HX := Lib.hid h
  have HA := Lib.hid hat
  have HL : Hid (0 < (L.map Mr.r).length ∧ L.length ≤ 100000) := Lib.hid ⟨by simpa using hl0, hl⟩
  have hl0i : (0 : Int) < (L.length : Int) := by omega
  have hl0n : ¬ L.length = 0 := by omega
  have hl0b : ((L.length : Int) == 0) = false := beq_false_of_ne (by omega)
  have HSA := Lib.hid (And.intro ha hs)
  have e1 : IntKind.i64.wrap (s + 1) = s + 1 := IntWalk.i64_in _ (by omega)
  have HENC : Hid (okW (wdOf 1 f (fstS (L.map Mr.r)) 0 0 0 0 L) = true → ∀ W, Only b w W → Calls Tryd.prog 14 #[wdV 1 f (fstS (L.map Mr.r)) 0 0 0 0 (.slice (some ⟨B, O, none⟩) L.length c)] W fun e w' => (∃ g2 cap2, e = .returned (.tuple #[.slice (some ⟨g2, 0, none⟩) (12 + (encW (wdOf 1 f (fstS (L.map Mr.r)) 0 0 0 0 L)).length) cap2, .int .i64 0]) ∧ Row8 W.heap.size w' g2 cap2 (12 + (encW (wdOf 1 f (fstS (L.map Mr.r)) 0 0 0 0 L)).length) (recE f (L.map Mr.r))) ∧ Below W.heap.size W w') := Lib.hid (fun hok W k =>
    rwd_enc 1 f (fstS (L.map Mr.r)) 0 0 0 0 (some ⟨B, O, none⟩) c L W ⟨_, _, rfl, fun h0 => ⟨B, O, rfl, Nat.lt_of_lt_of_le HC.out.1 k.size, fun j u hu => (k.cell B (O + j) HC.out.1 hBb).trans (HC.out.2 j u hu)⟩⟩ (fun m hm => ⟨((hat m hm).but (S := fun i => i = b) (But.of_only k rfl) (fun i e q => q e)).b, (hat m hm).n, fun _ _ _ => trivial⟩) hkb (by omega) hok)
  clear h hrow hat hkb hl hl0 ha hs he' hc'
  go_enter Tryd.func35, Tryd.ntmps35
  go_wp2
  go_loopw [6] (fun i wr => ∃ j : Nat, j ≤ L.length ∧ i = .int .i64 j ∧ Below w.heap.size w wr ∧ Hid (∀ (i : Nat) (m : Mr), i < j → L[i]? = some m → okR m.r = true ∧ m.r.o = f)) (fun i _ => L.length - (intOf i).toNat)
  case atStart => exact ⟨0, Nat.zero_le _, rfl, Below.refl _ _, Lib.hid (fun _ _ h => by omega)⟩
  case round =>
    obtain ⟨j, hj, rfl, hBB, hO⟩ := hrel
    by_cases hlt : j < L.length
    · have lk : (j : Int) < (L.length : Int) := by omega
      have tk : decide ((j : Int) < (L.length : Int)) = true := by simpa using hlt
      have wj : IntKind.i64.wrap ((j : Int) + 1) = (j : Int) + 1 := IntWalk.i64_in _ (by omega)
      have hx : L[j]? = some L[j] := List.getElem?_eq_getElem hlt
      have hmem : L[j].r ∈ L.map Mr.r := List.mem_map_of_mem (List.getElem_mem hlt)
      generalize L[j] = x at *
      have hBl := HC.out.1
      have hcell := HC.out.2
      have a0 : wr.cell? ⟨B, O + j * 9, none⟩ = some (.int .i64 x.r.o) := (hBB.cell (p := ⟨B, O + j * 9, none⟩) hBl).trans (hcell (j * 9) _ (by have := rowM_at hx 0 (by omega); rwa [Nat.add_zero] at this))
      have a1 : wr.cell? ⟨B, O + j * 9 + 1, none⟩ = some (.int .i64 x.r.s) := by rw [Nat.add_assoc]; exact (hBB.cell (p := ⟨B, O + (j * 9 + 1), none⟩) hBl).trans (hcell _ _ (rowM_at hx 1 (by omega)))
      have a2 : wr.cell? ⟨B, O + j * 9 + 2, none⟩ = some (.string (strB x.r.key)) := by rw [Nat.add_assoc]; exact (hBB.cell (p := ⟨B, O + (j * 9 + 2), none⟩) hBl).trans (hcell _ _ (rowM_at hx 2 (by omega)))
      have a3 : wr.cell? ⟨B, O + j * 9 + 3, none⟩ = some (.int .i64 x.r.ml) := by rw [Nat.add_assoc]; exact (hBB.cell (p := ⟨B, O + (j * 9 + 3), none⟩) hBl).trans (hcell _ _ (rowM_at hx 3 (by omega)))
      have a4 : wr.cell? ⟨B, O + j * 9 + 4, none⟩ = some (.int .i64 x.r.ct) := by rw [Nat.add_assoc]; exact (hBB.cell (p := ⟨B, O + (j * 9 + 4), none⟩) hBl).trans (hcell _ _ (rowM_at hx 4 (by omega)))
      have a5 : wr.cell? ⟨B, O + j * 9 + 5, none⟩ = some (.int .i64 x.r.vo) := by rw [Nat.add_assoc]; exact (hBB.cell (p := ⟨B, O + (j * 9 + 5), none⟩) hBl).trans (hcell _ _ (rowM_at hx 5 (by omega)))
      have a6 : wr.cell? ⟨B, O + j * 9 + 6, none⟩ = some (.slice x.A x.r.val.length x.c) := by rw [Nat.add_assoc]; exact (hBB.cell (p := ⟨B, O + (j * 9 + 6), none⟩) hBl).trans (hcell _ _ (rowM_at hx 6 (by omega)))
      have a7 : wr.cell? ⟨B, O + j * 9 + 7, none⟩ = some (.bool x.r.gone) := by rw [Nat.add_assoc]; exact (hBB.cell (p := ⟨B, O + (j * 9 + 7), none⟩) hBl).trans (hcell _ _ (rowM_at hx 7 (by omega)))
      have a8 : wr.cell? ⟨B, O + j * 9 + 8, none⟩ = some (.int .i64 x.r.tt) := by rw [Nat.add_assoc]; exact (hBB.cell (p := ⟨B, O + (j * 9 + 8), none⟩) hBl).trans (hcell _ _ (rowM_at hx 8 (by omega)))
      have HOK : Hid (okR x.r = okN x.r.o x.r.s (strB x.r.key).size x.r.ml x.r.ct x.r.vo x.r.val.length x.r.gone x.r.tt) := Lib.hid (by rw [okR_n, strB_size])
      have Y6 := HX.out.below hBB
      have HKA := Lib.hid hBB
      have HCON : Hid (∀ W, Calls Tryd.prog 46 #[recV x.r.o x.r.s (strB x.r.key) x.r.ml x.r.ct x.r.vo x.A x.r.val.length x.c x.r.gone x.r.tt] W fun e w' => e = .returned (.bool (okR x.r)) ∧ Below W.heap.size W w') := Lib.hid (fun W => by rw [HOK.out]; exact ref_is x.r.o x.r.s (strB x.r.key) x.r.ml x.r.ct x.r.vo x.A x.r.val.length x.c x.r.gone x.r.tt W)
      have HNX : Hid (okR x.r = true ∧ x.r.o = f → ∀ (i : Nat) (m : Mr), i < j + 1 → L[i]? = some m → okR m.r = true ∧ m.r.o = f) := Lib.hid (fun q i m hi hm => by
        by_cases hij : i = j
        · subst hij
          rw [hx] at hm
          injection hm with hm
          subst hm
          exact q
        · exact hO.out i m (by omega) hm)
      have HBAD : Hid (¬ (okR x.r = true ∧ x.r.o = f) → sendC f a s (L.map Mr.r) = 1) := Lib.hid (fun q => send_bad HL.out.1 hmem q)
      have r0 := fun d os => cell_regrown a0 d os
      have r1 := fun d os => cell_regrown a1 d os
      have r2 := fun d os => cell_regrown a2 d os
      have r3 := fun d os => cell_regrown a3 d os
      have r4 := fun d os => cell_regrown a4 d os
      have r5 := fun d os => cell_regrown a5 d os
      have r6 := fun d os => cell_regrown a6 d os
      have r7 := fun d os => cell_regrown a7 d os
      have r8 := fun d os => cell_regrown a8 d os
      have y0 := fun d os => cell_regrown (Y6.c 0 _ rfl) d os
      clear Y6 hx hmem hcell hBl hBB hlt hO HOK a0 a1 a2 a3 a4 a5 a6 a7 a8
      have AC := Lib.hid fun (d' : Nat) (os : Array Obj) => Calls.regrown_of (HCON.out (grow (redrawn wr d') os))
      clear HCON
      cases hok : okR x.r
      · rw [hok] at AC
        have HE := Lib.hid (HBAD.out (fun q => by have := q.1; rw [hok] at this; cases this))
        clear hok
        go_wp2_with fail
        refine wp_region_quiet_below (by kernel_rfl) (by kernel_rfl) ?_
        repeat (go_big_quiet_step ((go_at_call 46; exact AC.out _ _)))
        refine wpQuiet_nil ?_
        intro _ hw'
        obtain ⟨⟨dq, osq⟩, hw''⟩ := hw'
        subst hw''
        have hq := below_regrown wr dq osq
        have HK7 := Lib.hid (HKA.out.trans (hq.mono HKA.out.size))
        clear hq AC r0 r1 r2 r3 r4 r5 r6 r7 r8 y0
        generalize grow (redrawn wr dq) osq = W7 at *
        go_wp2
        go_ret2
        exact send_no HE.out (by decide) HK7.out
      rw [hok] at AC
      by_cases ho : x.r.o = f
      rotate_left
      · have t1 : (x.r.o != f) = true := by simpa using ho
        have HE := Lib.hid (HBAD.out (fun q => ho q.2))
        clear hok ho
        go_wp2_with fail
        refine wp_region_quiet_below (by kernel_rfl) (by kernel_rfl) ?_
        repeat (go_big_quiet_step ((go_at_call 46; exact AC.out _ _)))
        refine wpQuiet_nil ?_
        intro _ hw'
        obtain ⟨⟨dq, osq⟩, hw''⟩ := hw'
        subst hw''
        have hq := below_regrown wr dq osq
        have HK7 := Lib.hid (HKA.out.trans (hq.mono HKA.out.size))
        clear hq AC r0 r1 r2 r3 r4 r5 r6 r7 r8 y0
        generalize grow (redrawn wr dq) osq = W7 at *
        go_wp2
        go_ret2
        exact send_no HE.out (by decide) HK7.out
      · have t1 : (x.r.o != f) = false := by simpa using ho
        have HNY := Lib.hid (HNX.out ⟨hok, ho⟩)
        clear hok ho HNX HBAD
        go_wp2_with fail
        refine wp_region_quiet_below (by kernel_rfl) (by kernel_rfl) ?_
        repeat (go_big_quiet_step ((go_at_call 46; exact AC.out _ _)))
        refine wpQuiet_nil ?_
        intro _ hw'
        obtain ⟨⟨dq, osq⟩, hw''⟩ := hw'
        subst hw''
        have hq := below_regrown wr dq osq
        have HK7 := Lib.hid (HKA.out.trans (hq.mono HKA.out.size))
        clear hq AC r0 r1 r2 r3 r4 r5 r6 r7 r8 y0
        generalize grow (redrawn wr dq) osq = W7 at *
        go_wp2
        go_roundw
        case rel => exact ⟨j + 1, by omega, by go_num, HK7.out, Lib.hid HNY.out⟩
        case measure => simp [intOf]; omega
    · obtain rfl : j = L.length := by omega
      have tk : decide ((L.length : Int) < (L.length : Int)) = false := by simp
      have HALL : Hid (∀ r ∈ L.map Mr.r, okR r = true ∧ r.o = f) := Lib.hid (fun r hr => by
        obtain ⟨m, hm, rfl⟩ := List.mem_map.1 hr
        obtain ⟨i, hi, e⟩ := List.mem_iff_getElem.1 hm
        exact hO.out i m hi (by rw [← e]; exact List.getElem?_eq_getElem hi))
      have HB := Lib.hid hBB
      clear hlt hO
      by_cases h8 : 8 < L.length
      · have t8 : (8 : Int) < (L.length : Int) := by omega
        have t8d : decide ((8 : Int) < (L.length : Int)) = true := by simpa using t8
        have HE := Lib.hid (send_long (a := a) (s := s) HL.out.1 HALL.out (by simpa using h8))
        clear hBB h8
        go_wp2
        go_ret2
        exact send_no HE.out (by decide) HB.out
      have t8 : ¬ (8 : Int) < (L.length : Int) := by omega
      have t8d : decide ((8 : Int) < (L.length : Int)) = false := decide_eq_false t8
      have h8i : (L.length : Int) ≤ 8 := by omega
      have h0l : 0 < L.length := by omega
      have hx : L[0]? = some L[0] := List.getElem?_eq_getElem h0l
      have HF : Hid (fstS (L.map Mr.r) = L[0].r.s) := Lib.hid (by
        cases L with
        | nil => simp at h0l
        | cons m t => rfl)
      have HOK0 := HALL.out L[0].r (List.mem_map_of_mem (List.getElem_mem h0l))
      generalize L[0] = x at *
      have C0 : Hid (∀ W, Below w.heap.size w W → W.cell? ⟨B, O + 1, none⟩ = some (.int .i64 x.r.s)) := Lib.hid (fun W hb => (hb.cell (p := ⟨B, O + 1, none⟩) HC.out.1).trans (HC.out.2 1 _ (by have := rowM_at hx 1 (by omega); rw [Nat.zero_mul, Nat.zero_add] at this; exact this)))
      have hsb : 1 ≤ x.r.s ∧ x.r.s ≤ 1099511627776 := ⟨((ok_iff _).1 HOK0.1).s0, ((ok_iff _).1 HOK0.1).s1⟩
      have hfb : Hid (0 ≤ f ∧ f < 5) := Lib.hid (by have h1 := ((ok_iff _).1 HOK0.1).o0; have h2 := ((ok_iff _).1 HOK0.1).o1; rw [HOK0.2] at h1 h2; exact ⟨h1, h2⟩)
      rw [HF.out] at HENC
      obtain ⟨F, hF⟩ : ∃ F, x.r.s = F := ⟨_, rfl⟩
      rw [hF] at C0 hsb HENC HF
      have H8 := Lib.hid h8
      clear hx HOK0 hF h8 hBB
      go_wp2_with fail
      go_loopw [7] (fun i wr => ∃ j : Nat, j ≤ L.length ∧ i = .int .i64 j ∧ Below w.heap.size w wr ∧ Hid (∀ (i : Nat) (m : Mr), i < j → L[i]? = some m → m.r.s = F + (i : Int))) (fun i _ => L.length - (intOf i).toNat)
      case atStart => exact ⟨0, Nat.zero_le _, rfl, HB.out, Lib.hid (fun _ _ h => by omega)⟩
      case round =>
        obtain ⟨j, hj, rfl, hBB, hO⟩ := hrel
        clear HB
        by_cases hlt : j < L.length
        · have lk : (j : Int) < (L.length : Int) := by omega
          have tk : decide ((j : Int) < (L.length : Int)) = true := by simpa using hlt
          have wj : IntKind.i64.wrap ((j : Int) + 1) = (j : Int) + 1 := IntWalk.i64_in _ (by omega)
          have hx : L[j]? = some L[j] := List.getElem?_eq_getElem hlt
          generalize L[j] = x at *
          have a1 : wr.cell? ⟨B, O + j * 9 + 1, none⟩ = some (.int .i64 x.r.s) := by rw [Nat.add_assoc]; exact (hBB.cell (p := ⟨B, O + (j * 9 + 1), none⟩) HC.out.1).trans (HC.out.2 _ _ (rowM_at hx 1 (by omega)))
          have c0 := C0.out wr hBB
          have HKA := Lib.hid hBB
          have e2 : IntKind.i64.wrap (F + (j : Int)) = F + (j : Int) := IntWalk.i64_in _ (by omega)
          have HNX : Hid (x.r.s = F + (j : Int) → ∀ (i : Nat) (m : Mr), i < j + 1 → L[i]? = some m → m.r.s = F + (i : Int)) := Lib.hid (fun q i m hi hm => by
            by_cases hij : i = j
            · subst hij
              rw [hx] at hm
              injection hm with hm
              subst hm
              exact q
            · exact hO.out i m (by omega) hm)
          have HBAD : Hid (¬ x.r.s = F + (j : Int) → sendC f a s (L.map Mr.r) = 12) := Lib.hid (fun q => send_gap2 HL.out.1 HALL.out (by simpa using H8.out) (by
            rw [HF.out]
            cases hb : rowB f F (L.map Mr.r)
            · rfl
            · exact absurd (rowB_at' hb j x.r (by rw [List.getElem?_map, hx]; rfl)).2.2 q))
          have k1 := fun d os => cell_regrown a1 d os
          have k0 := fun d os => cell_regrown c0 d os
          have HXX : True := trivial
          clear hx hBB hlt hO a1 c0
          by_cases hs : x.r.s = F + (j : Int)
          · have t2 : (x.r.s != F + (j : Int)) = false := by simpa using hs
            have HNY := Lib.hid (HNX.out hs)
            clear hs HNX HBAD
            go_wp2_with fail
            refine wp_region_quiet_below (by kernel_rfl) (by kernel_rfl) ?_
            repeat (go_big_quiet_step ((go_at_call 46; exact HXX)))
            refine wpQuiet_nil ?_
            intro _ hw'
            obtain ⟨⟨dq, osq⟩, hw''⟩ := hw'
            subst hw''
            have HK7 := Lib.hid (HKA.out.trans ((below_regrown wr dq osq).mono HKA.out.size))
            clear k0 k1
            generalize grow (redrawn wr dq) osq = W7 at *
            go_wp2
            go_roundw
            case rel => exact ⟨j + 1, by omega, by go_num, HK7.out, Lib.hid HNY.out⟩
            case measure => simp [intOf]; omega
          · have t2 : (x.r.s != F + (j : Int)) = true := by simpa using hs
            have HE := Lib.hid (HBAD.out hs)
            clear hs HNX HBAD
            go_wp2_with fail
            refine wp_region_quiet_below (by kernel_rfl) (by kernel_rfl) ?_
            repeat (go_big_quiet_step ((go_at_call 46; exact HXX)))
            refine wpQuiet_nil ?_
            intro _ hw'
            obtain ⟨⟨dq, osq⟩, hw''⟩ := hw'
            subst hw''
            have HK7 := Lib.hid (HKA.out.trans ((below_regrown wr dq osq).mono HKA.out.size))
            clear k0 k1
            generalize grow (redrawn wr dq) osq = W7 at *
            go_wp2
            go_ret2
            exact send_no HE.out (by decide) HK7.out
        · obtain rfl : j = L.length := by omega
          have tk : decide ((L.length : Int) < (L.length : Int)) = false := by simp
          have HROW : Hid (rowB f F (L.map Mr.r) = true) := Lib.hid (rowB_of' (fun i r hr => by
            rw [List.getElem?_map] at hr
            cases hm : L[i]? with
            | none => rw [hm] at hr; cases hr
            | some m =>
              rw [hm] at hr
              injection hr with hr
              subst hr
              have hi : i < L.length := by rw [List.getElem?_eq_some_iff] at hm; exact hm.1
              have q := HALL.out m.r (List.mem_map_of_mem (List.mem_of_getElem? hm))
              exact ⟨q.1, q.2, hO.out i m hi hm⟩))
          have HB := Lib.hid hBB
          have c0 := C0.out wr hBB
          have Y6 := HX.out.below hBB
          have k0 := fun d os => cell_regrown c0 d os
          have k2 := fun d os => cell_regrown (Y6.c 2 _ rfl) d os
          have k3 := fun d os => cell_regrown (Y6.c 3 _ rfl) d os
          have HXX : True := trivial
          have HLAST : Hid (∃ l1 : Nat, L.length = l1 + 1 ∧ ∃ y : Mr, L[l1]? = some y ∧ y.r.s = F + (l1 : Int)) := Lib.hid (by
            refine ⟨L.length - 1, by omega, L[L.length - 1]'(by omega), List.getElem?_eq_getElem _, ?_⟩
            exact hO.out (L.length - 1) _ (by omega) (List.getElem?_eq_getElem _))
          clear hlt hO hBB c0 Y6
          by_cases hfa : F ≤ a
          · have hfad : decide (F ≤ a) = true := by simpa using hfa
            have HE := Lib.hid (send_first (a := a) (s := s) HL.out.1 HALL.out (by simpa using H8.out) (.inl (by rw [HF.out]; exact hfa)))
            go_wp2_with fail
            refine wp_region_quiet_below (by kernel_rfl) (by kernel_rfl) ?_
            repeat (go_big_quiet_step ((go_at_call 46; exact HXX)))
            refine wpQuiet_nil ?_
            intro _ hw'
            obtain ⟨⟨dq, osq⟩, hw''⟩ := hw'
            subst hw''
            have HK7 := Lib.hid (HB.out.trans ((below_regrown wr dq osq).mono HB.out.size))
            clear k0 k2 k3
            generalize grow (redrawn wr dq) osq = W7 at *
            go_wp2
            go_ret2
            exact send_no HE.out (by decide) HK7.out
          have hfad : decide (F ≤ a) = false := by simp only [decide_eq_false_iff_not]; exact hfa
          by_cases hfs : s + 1 < F
          · have hfsd : decide (s + 1 < F) = true := by simpa using hfs
            have HE := Lib.hid (send_first (a := a) HL.out.1 HALL.out (by simpa using H8.out) (.inr (by rw [HF.out]; exact hfs)))
            go_wp2_with fail
            refine wp_region_quiet_below (by kernel_rfl) (by kernel_rfl) ?_
            repeat (go_big_quiet_step ((go_at_call 46; exact HXX)))
            refine wpQuiet_nil ?_
            intro _ hw'
            obtain ⟨⟨dq, osq⟩, hw''⟩ := hw'
            subst hw''
            have HK7 := Lib.hid (HB.out.trans ((below_regrown wr dq osq).mono HB.out.size))
            clear k0 k2 k3
            generalize grow (redrawn wr dq) osq = W7 at *
            go_wp2
            go_ret2
            exact send_no HE.out (by decide) HK7.out
          have hfsd : decide (s + 1 < F) = false := by simp only [decide_eq_false_iff_not]; exact hfs
          have HNF : Hid (¬ (fstS (L.map Mr.r) ≤ a ∨ s + 1 < fstS (L.map Mr.r))) := Lib.hid (by rw [HF.out]; omega)
          have HOKW : Hid (okW (wdOf 1 f F 0 0 0 0 L) = true) := Lib.hid (by
            have h1 := hfb.out
            have h2 := HROW.out
            have h3 := H8.out
            show okW ⟨1, f, F, 0, 0, 0, 0, L.map Mr.r⟩ = true
            simp [okW, headW, bareW, h1.1, h1.2, h2]
            omega)
          have HBD := Lib.hid (encW_bd HOKW.out)
          have HEC : Hid (sendC f a s (L.map Mr.r) = 0) := Lib.hid (send_yes HL.out.1 HALL.out (by simpa using H8.out) HNF.out (by rw [HF.out]; exact HROW.out))
          have HE := Lib.hid (HENC.out HOKW.out)
          obtain ⟨m, hm⟩ : ∃ m, 12 + (encW (wdOf 1 f F 0 0 0 0 L)).length = m := ⟨_, rfl⟩
          have HM : Hid (m ≤ 1000000) := Lib.hid (by have := HBD.out; omega)
          rw [hm] at HE
          obtain ⟨D, hD⟩ : ∃ D, recE f (L.map Mr.r) = D := ⟨_, rfl⟩
          have HDE := Lib.hid hD
          rw [hD] at HE
          clear hD hm HENC
          go_wp2_with fail
          refine wp_region_quiet_below (by kernel_rfl) (by kernel_rfl) ?_
          repeat (go_big_quiet_step ((go_at_call 46; exact HXX)))
          refine wpQuiet_nil ?_
          intro _ hw'
          obtain ⟨⟨dq, osq⟩, hw''⟩ := hw'
          subst hw''
          have HK7 := Lib.hid (HB.out.trans ((below_regrown wr dq osq).mono HB.out.size))
          clear k0 k2 k3
          generalize grow (redrawn wr dq) osq = W7 at *
          obtain ⟨l1, hl1, y, hy, hys⟩ := HLAST.out
          have XW := HX.out.below HK7.out
          have c0 := XW.c 0 _ rfl
          have c2 := XW.c 2 _ rfl
          have c3 := XW.c 3 _ rfl
          have c4 := XW.c 4 _ rfl
          have f3 := XW.fz 3
          have f4 := XW.fz 4
          have lt := XW.lt
          have cl : W7.cell? ⟨B, O + l1 * 9 + 1, none⟩ = some (.int .i64 (F + (l1 : Int))) := by rw [Nat.add_assoc, ← hys]; exact (HK7.out.cell (p := ⟨B, O + (l1 * 9 + 1), none⟩) HC.out.1).trans (HC.out.2 _ _ (rowM_at hy 1 (by omega)))
          have cf := C0.out W7 HK7.out
          have wl1 : IntKind.i64.wrap ((L.length : Int) - 1) = (l1 : Int) := (IntWalk.i64_in _ (by omega)).trans (by omega)
          have ll1 : (l1 : Int) < (L.length : Int) := by omega
          have ll2 : (0 : Int) ≤ (l1 : Int) := by omega
          obtain ⟨z, hz⟩ : ∃ z, max s (F + (l1 : Int)) = z := ⟨_, rfl⟩
          have HZ := Lib.hid hz
          have HZ2 : Hid (max s (F + (L.length : Int) - 1) = z) := Lib.hid (by rw [← hz]; congr 1; omega)
          have HXW := Lib.hid XW
          clear hy hys hl1 hz XW HLAST
          go_upto_region 17 with fail
          go_region
          go_upto_region 19 with fail
          rw [HZ.out]
          obtain ⟨W3, hW3⟩ : ∃ W3, (W7.setCell ⟨b, 3, none⟩ (.int .i64 z)).setCell ⟨b, 4, none⟩ (.int .i64 0) = W3 := ⟨_, rfl⟩
          have HX3 : Hid (XB W3 b (outC f t a z 0)) := Lib.hid (by rw [← hW3]; exact (HXW.out.set 3 (by simp) (.int .i64 z)).set 4 (by simp) (.int .i64 0))
          have HO73 : Hid (Only b W7 W3) := Lib.hid (by rw [← hW3]; (repeat' (first | (with_reducible exact Only.refl _ _) | (with_reducible assumption) | (with_reducible refine Only.alloc ?_ _) | (with_reducible refine Only.setB ?_ _) | (refine Only.setCell ?_ (Or.inr ?_) _) | (with_reducible refine Only.drewN ?_ _) | (with_reducible refine Only.drew ?_) | (with_reducible refine Only.trans ?_ (by with_reducible assumption)) | (with_reducible refine Only.trans ?_ (Only.of_below (by with_reducible assumption))) | go_size)))
          have HO3 : Hid (Only b w W3) := Lib.hid ((Only.of_below HK7.out).trans HO73.out)
          have HB3 : Hid (B < W3.heap.size ∧ W3.cell? ⟨B, O + 1, none⟩ = some (.int .i64 F)) := Lib.hid ⟨Nat.lt_of_lt_of_le HC.out.1 HO3.out.size, (HO73.out.cell B (O + 1) (Nat.lt_of_lt_of_le HC.out.1 HK7.out.size) hBb).trans cf⟩
          rw [hW3]
          clear hW3 c0 c2 c3 c4 f3 f4 lt cl cf wl1 HXW
          have lt := HX3.out.lt
          refine wp_region_held_drew (S := (fun w' => w'.cell? ⟨b, 0, none⟩ = some (.int .i64 f) ∧ w'.cell? ⟨B, O + 1, none⟩ = some (.int .i64 F))) (by kernel_rfl) ?_ (fun hHeld => ?_)
          · exact ⟨HX3.out.c 0 _ rfl, HB3.out.2⟩
          refine wpAnyH_take (i := 0) (v := ?_) rfl (by kernel_rfl) (by kernel_rfl) (by kernel_rfl) (fun _ _ _ h => h) (Or.inl ⟨by rfl, ?_⟩) (by assumption) ?_
          rotate_left
          · intro w' hSw; (try dsimp only at hSw); go_simp; (try with_reducible rfl)
          (try simp only [Act.put, List.setIfInBounds_toArray, List.set_cons_zero, List.set_cons_succ, List.getElem_toArray, List.getElem_cons_succ, List.getElem_cons_zero])
          refine wpAnyH_take (i := 1) (v := ?_) rfl (by kernel_rfl) (by kernel_rfl) (by kernel_rfl) (fun _ _ _ h => h) (Or.inl ⟨by rfl, ?_⟩) (by assumption) ?_
          rotate_left
          · intro w' hSw; (try dsimp only at hSw); go_simp; (try with_reducible rfl)
          (try simp only [Act.put, List.setIfInBounds_toArray, List.set_cons_zero, List.set_cons_succ, List.getElem_toArray, List.getElem_cons_succ, List.getElem_cons_zero])
          refine wpAnyH_take (i := 2) (v := ?_) rfl (by kernel_rfl) (by kernel_rfl) (by kernel_rfl) (fun _ _ _ h => h) (Or.inl ⟨by rfl, ?_⟩) (by assumption) ?_
          rotate_left
          · intro w' hSw; (try dsimp only at hSw); go_simp; (try with_reducible rfl)
          (try simp only [Act.put, List.setIfInBounds_toArray, List.set_cons_zero, List.set_cons_succ, List.getElem_toArray, List.getElem_cons_succ, List.getElem_cons_zero])
          refine wpAnyH_take (i := 3) (v := ?_) rfl (by kernel_rfl) (by kernel_rfl) (by kernel_rfl) (fun _ _ _ h => h) (Or.inl ⟨by rfl, ?_⟩) (by assumption) ?_
          rotate_left
          · intro w' hSw; (try dsimp only at hSw); go_simp; (try with_reducible rfl)
          (try simp only [Act.put, List.setIfInBounds_toArray, List.set_cons_zero, List.set_cons_succ, List.getElem_toArray, List.getElem_cons_succ, List.getElem_cons_zero])
          refine wpAnyH_take (i := 4) (v := ?_) rfl (by kernel_rfl) (by kernel_rfl) (by kernel_rfl) (fun _ _ _ h => h) (Or.inl ⟨by rfl, ?_⟩) (by assumption) ?_
          rotate_left
          · intro w' hSw; (try dsimp only at hSw); go_simp; (try with_reducible rfl)
          (try simp only [Act.put, List.setIfInBounds_toArray, List.set_cons_zero, List.set_cons_succ, List.getElem_toArray, List.getElem_cons_succ, List.getElem_cons_zero])
          refine wpAnyH_take (i := 5) (v := ?_) rfl (by kernel_rfl) (by kernel_rfl) (by kernel_rfl) (fun _ _ _ h => h) (Or.inl ⟨by rfl, ?_⟩) (by assumption) ?_
          rotate_left
          · intro w' hSw; (try dsimp only at hSw); go_simp; (try with_reducible rfl)
          (try simp only [Act.put, List.setIfInBounds_toArray, List.set_cons_zero, List.set_cons_succ, List.getElem_toArray, List.getElem_cons_succ, List.getElem_cons_zero])
          refine wpAnyH_take (i := 6) (v := ?_) rfl (by kernel_rfl) (by kernel_rfl) (by kernel_rfl) (fun _ _ _ h => h) (Or.inl ⟨by rfl, ?_⟩) (by assumption) ?_
          rotate_left
          · intro w' hSw; (try dsimp only at hSw); go_simp; (try with_reducible rfl)
          (try simp only [Act.put, List.setIfInBounds_toArray, List.set_cons_zero, List.set_cons_succ, List.getElem_toArray, List.getElem_cons_succ, List.getElem_cons_zero])
          refine wpAnyH_take (i := 7) (v := ?_) rfl (by kernel_rfl) (by kernel_rfl) (by kernel_rfl) (fun _ _ _ h => h) (Or.inl ⟨by rfl, ?_⟩) (by assumption) ?_
          rotate_left
          · intro w' hSw; (try dsimp only at hSw); go_simp; (try with_reducible rfl)
          (try simp only [Act.put, List.setIfInBounds_toArray, List.set_cons_zero, List.set_cons_succ, List.getElem_toArray, List.getElem_cons_succ, List.getElem_cons_zero])
          refine wpAnyH_take (i := 8) (v := ?_) rfl (by kernel_rfl) (by kernel_rfl) (by kernel_rfl) (fun _ _ _ h => h) (Or.inl ⟨by rfl, ?_⟩) (by assumption) ?_
          rotate_left
          · intro w' hSw; (try dsimp only at hSw); go_simp; (try with_reducible rfl)
          (try simp only [Act.put, List.setIfInBounds_toArray, List.set_cons_zero, List.set_cons_succ, List.getElem_toArray, List.getElem_cons_succ, List.getElem_cons_zero])
          refine wpAnyH_take (i := 9) (v := ?_) rfl (by kernel_rfl) (by kernel_rfl) (by kernel_rfl) (fun _ _ _ h => h) (Or.inl ⟨by rfl, ?_⟩) (by assumption) ?_
          rotate_left
          · intro w' hSw; (try dsimp only at hSw); go_simp; (try with_reducible rfl)
          (try simp only [Act.put, List.setIfInBounds_toArray, List.set_cons_zero, List.set_cons_succ, List.getElem_toArray, List.getElem_cons_succ, List.getElem_cons_zero])
          refine wpAnyH_ready (rs := [10]) (by kernel_rfl) (by simp) ?_
          refine AllReadyH.cons rfl (fun K hK => ?_) AllReadyH.nil
          go_simp
          (go_at_call 14; refine (HE.out _ (HO3.out.trans (Only.of_below ((Below.refl W3.heap.size W3).drew.drew)))).mono ?_; rintro e w2 ⟨⟨g, cap, rfl, hr⟩, k2⟩; have k2' : Below W3.heap.size W3 w2 := (Below.refl W3.heap.size W3).drew.drew.trans k2; have HX4 := Lib.hid (HX3.out.below k2'); have HR2 : Hid (Row8 W3.heap.size w2 g cap m D) := Lib.hid hr; have HK2 : Hid (Below W3.heap.size W3 w2) := Lib.hid k2'; have HC2 : Hid (w2.cell? ⟨B, O + 1, none⟩ = some (.int .i64 F)) := Lib.hid ((k2'.cell (p := ⟨B, O + 1, none⟩) HB3.out.1).trans HB3.out.2); clear hr k2 k2')
          (try dsimp only)
          refine hK.out _ _ ?_ (fun hHeld => ?_)
          · exact ⟨HX4.out.c 0 _ rfl, HC2.out⟩
          clear hK K
          (try simp only [Act.put, List.setIfInBounds_toArray, List.set_cons_zero, List.set_cons_succ, List.getElem_toArray, List.getElem_cons_succ, List.getElem_cons_zero])
          refine wpAnyH_take (i := 11) (v := ?_) rfl (by kernel_rfl) (by kernel_rfl) (by kernel_rfl) (fun _ _ _ h => h) (Or.inl ⟨by rfl, ?_⟩) (by assumption) ?_
          rotate_left
          · intro w' hSw; (try dsimp only at hSw); go_simp; (try with_reducible rfl)
          (try simp only [Act.put, List.setIfInBounds_toArray, List.set_cons_zero, List.set_cons_succ, List.getElem_toArray, List.getElem_cons_succ, List.getElem_cons_zero])
          refine wpAnyH_take (i := 12) (v := ?_) rfl (by kernel_rfl) (by kernel_rfl) (by kernel_rfl) (fun _ _ _ h => h) (Or.inl ⟨by rfl, ?_⟩) (by assumption) ?_
          rotate_left
          · intro w' hSw; (try dsimp only at hSw); go_simp; (try with_reducible rfl)
          (try simp only [Act.put, List.setIfInBounds_toArray, List.set_cons_zero, List.set_cons_succ, List.getElem_toArray, List.getElem_cons_succ, List.getElem_cons_zero])
          refine wpAnyH_take (i := 13) (v := ?_) rfl (by kernel_rfl) (by kernel_rfl) (by kernel_rfl) (fun _ _ _ h => h) (Or.inl ⟨by rfl, ?_⟩) (by assumption) ?_
          rotate_left
          · intro w' hSw; (try dsimp only at hSw); go_simp; (try with_reducible rfl)
          (try simp only [Act.put, List.setIfInBounds_toArray, List.set_cons_zero, List.set_cons_succ, List.getElem_toArray, List.getElem_cons_succ, List.getElem_cons_zero])
          refine wpAnyH_take (i := 14) (v := ?_) rfl (by kernel_rfl) (by kernel_rfl) (by kernel_rfl) (fun _ _ _ h => h) (Or.inl ⟨by rfl, ?_⟩) (by assumption) ?_
          rotate_left
          · intro w' hSw; (try dsimp only at hSw); go_simp; (try with_reducible rfl)
          (try simp only [Act.put, List.setIfInBounds_toArray, List.set_cons_zero, List.set_cons_succ, List.getElem_toArray, List.getElem_cons_succ, List.getElem_cons_zero])
          refine wpAnyH_take (i := 15) (v := ?_) rfl (by kernel_rfl) (by kernel_rfl) (by kernel_rfl) (fun _ _ _ h => h) (Or.inl ⟨by rfl, ?_⟩) (by assumption) ?_
          rotate_left
          · intro w' hSw; (try dsimp only at hSw); go_simp; (try with_reducible rfl)
          (try simp only [Act.put, List.setIfInBounds_toArray, List.set_cons_zero, List.set_cons_succ, List.getElem_toArray, List.getElem_cons_succ, List.getElem_cons_zero])
          refine wpAnyH_done (by kernel_rfl) ?_ _
          clear hHeld lt
          have c0 := HX4.out.c 0 _ rfl
          have c1 := HX4.out.c 1 _ rfl
          have lt := HX4.out.lt
          have FIN : Hid (∀ V, Below w2.heap.size w2 V → XB V w2.heap.size [.int .i64 f, .int .i64 t, .slice (some ⟨g, 0, none⟩) m cap] → SendRes b f t a s n (L.map Mr.r) w V (.returned (.tuple #[.slice (some ⟨w2.heap.size, 0, none⟩) 1 1, .int .i64 0]))) := Lib.hid (fun V k hB =>
            send_fin2 HEC.out HDE.out ((HO3.out.trans (Only.of_below HK2.out)).trans (Only.of_below k)) (by rw [HF.out, List.length_map, HZ2.out]; exact HX4.out.below k) HR2.out HO3.out.size HM.out k (Nat.le_trans HO3.out.size HK2.out.size) hB)
          go_wp2_with fail
          go_region
          go_wp2
          go_ret2
          exact FIN.out _ (by (repeat' (first | (with_reducible exact Below.refl _ _) | (with_reducible assumption) | (with_reducible refine Below.trans ?_ (Below.mono (by with_reducible assumption) ?_)) | (with_reducible refine Below.alloc ?_ ?_ _) | (with_reducible refine Below.setCell ?_ ?_ _) | (with_reducible refine below_drewN ?_ _) | (with_reducible refine Below.drew ?_) | go_size))) ((XB.new w2 #[.int .i64 f, .int .i64 t, .slice (some ⟨g, 0, none⟩) m cap] 84).below (by (repeat' (first | (with_reducible exact Below.refl _ _) | (with_reducible assumption) | (with_reducible refine Below.trans ?_ (Below.mono (by with_reducible assumption) ?_)) | (with_reducible refine Below.alloc ?_ ?_ _) | (with_reducible refine Below.setCell ?_ ?_ _) | (with_reducible refine below_drewN ?_ _) | (with_reducible refine Below.drew ?_) | go_size))))
end Go.Proofs.YtdffldlcbihjmaaDoor

/- stream: known (package meridianlaw18). -/
namespace Go.Proofs.YtdffldlcbihjmaaDoor
open Go.RowKit Go.Sort

theorem new_yes {cs : List Value} {ok : Bool} {w w' : World} {e : Ending} (h : NewRes cs ok w w' e) (hk : ok = true) : ∃ b, e = .returned (.tuple #[.pointer (some ⟨b, 0, none⟩), .int .i64 0]) ∧ w.heap.size ≤ b ∧ XB w' b cs ∧ Below w.heap.size w w' := by
  rcases h with ⟨q, _⟩ | ⟨_, q⟩
  · rw [hk] at q; cases q
  · exact q
/-- The record that the law makes, of a small number. -/
theorem rec_lit (s : Nat) (W : World) (h : s ≤ 255) : Calls Tryd.prog 69 #[.int .i64 0, .int .i64 s] W fun e w' => ∃ g, e = .returned (recV 0 s (strB [107]) s 0 0 (some ⟨g, 0, none⟩) 1 1 false 0) ∧ (Mr.mk (recS 0 s) (some ⟨g, 0, none⟩) 1).At (fun i => W.heap.size ≤ i) w' ∧ Below W.heap.size W w' :=
  (law_rec 0 s W).mono fun e w' ⟨g, he, h1, h2, h3, k⟩ => ⟨g, by rw [he, Nat.min_eq_left (by omega)], RecRes.at_ h1 h2 h3, k⟩
theorem rowAt_xb {W : World} {g n c : Nat} {L : List Mr} (h : XB W g (rowM L)) (hn : L.length = n) : RowAt W (.slice (some ⟨g, 0, none⟩) n c) L :=
  ⟨some ⟨g, 0, none⟩, c, by rw [hn], fun _ => ⟨g, 0, rfl, h.lt, fun j u hu => by rw [Nat.zero_add]; exact h.c j u hu⟩⟩
set_option maxRecDepth 100000 in
set_option maxHeartbeats 4000000 in
theorem known18 (w : World) : Calls Tryd.prog 24 #[] w fun e w' => e = .returned (.bool true) ∧ Below w.heap.size w w' := by
  have HI := Lib.hid (st_new_in 1 0 4 w)
  have R3 : Hid (∀ W, _) := Lib.hid (fun W => rec_lit 3 W (by omega))
  have R5 : Hid (∀ W, _) := Lib.hid (fun W => rec_lit 5 W (by omega))
  have R6 : Hid (∀ W, _) := Lib.hid (fun W => rec_lit 6 W (by omega))
  have R8 : Hid (∀ W, _) := Lib.hid (fun W => rec_lit 8 W (by omega))
  have HTK : Hid (takeS 0 4 [] [recS 0 3, recS 0 5, recS 0 6, recS 0 8] = someR 0 5 2) := Lib.hid (by kernel_rfl)
  have HND : Hid (needM 4 4 0 6 = (5, true)) := Lib.hid (by kernel_rfl)
  go_enter Tryd.func24, Tryd.ntmps24
  go_wp2_with fail
  refine HI.out.mono ?_; rintro e w1 hr
  obtain ⟨bi, rfl, hbi, xi, k1⟩ := new_yes hr (by decide)
  have HXI := Lib.hid xi
  have HB1 := Lib.hid k1
  clear xi k1 hr HI
  go_wp2_with fail
  refine (st_new_out 0 1 4 w1).mono ?_; rintro e w2 hr
  obtain ⟨bo, rfl, hbo, xo, k2⟩ := new_yes hr (by decide)
  have HXO := Lib.hid xo
  have HXI2 := Lib.hid (HXI.out.below k2)
  have HB2 := Lib.hid (HB1.out.trans (k2.mono HB1.out.size))
  clear xo k2 hr HXI HB1
  go_wp2_with fail
  refine (R3.out w2).mono ?_; rintro e w3 ⟨g3, rfl, m3, k3⟩
  have HM3 := Lib.hid m3
  have HK3 := Lib.hid k3
  clear m3 k3 R3
  go_wp2_with fail
  refine (R5.out w3).mono ?_; rintro e w4 ⟨g5, rfl, m5, k4⟩
  have HM5 := Lib.hid m5
  have HM3b := Lib.hid (HM3.out.below k4)
  have HK4 := Lib.hid (HK3.out.trans (k4.mono HK3.out.size))
  clear m5 k4 R5 HM3 HK3
  go_wp2_with fail
  refine (R6.out w4).mono ?_; rintro e w5 ⟨g6, rfl, m6, k5⟩
  have HM6 := Lib.hid m6
  have HM3c := Lib.hid (HM3b.out.below k5)
  have HM5b := Lib.hid (HM5.out.below k5)
  have HK5 := Lib.hid (HK4.out.trans (k5.mono HK4.out.size))
  clear m6 k5 R6 HM3b HM5 HK4
  go_wp2_with fail
  refine (R8.out w5).mono ?_; rintro e w6 ⟨g8, rfl, m8, k6⟩
  have HK6 := Lib.hid (HK5.out.trans (k6.mono HK5.out.size))
  have z2 := HB2.out.size
  have zk := HK6.out.size
  have HTAKE : Hid (∀ cs : Array Value, cs.toList = rowM [Mr.mk (recS 0 3) (some ⟨g3, 0, none⟩) 1, Mr.mk (recS 0 5) (some ⟨g5, 0, none⟩) 1, Mr.mk (recS 0 6) (some ⟨g6, 0, none⟩) 1, Mr.mk (recS 0 8) (some ⟨g8, 0, none⟩) 1] →
      Calls Tryd.prog 40 #[.pointer (some ⟨bi, 0, none⟩), .slice (some ⟨w6.heap.size, 0, none⟩) 4 4] (w6.alloc (.cells cs 89)) fun e w' => TakeR 0 4 [recS 0 3, recS 0 5, recS 0 6, recS 0 8] (w6.alloc (.cells cs 89)) w' e) := Lib.hid (fun cs hcs => by
    have kA : Below w6.heap.size w6 (w6.alloc (.cells cs 89)) := (Below.refl _ _).alloc (Nat.le_refl _) _
    have CS : XB (w6.alloc (.cells cs 89)) w6.heap.size (rowM [Mr.mk (recS 0 3) (some ⟨g3, 0, none⟩) 1, Mr.mk (recS 0 5) (some ⟨g5, 0, none⟩) 1, Mr.mk (recS 0 6) (some ⟨g6, 0, none⟩) 1, Mr.mk (recS 0 8) (some ⟨g8, 0, none⟩) 1]) := hcs ▸ XB.new w6 cs _
    exact st_take bi 1 0 4 (some ⟨w6.heap.size, 0, none⟩) 4 [Mr.mk (recS 0 3) (some ⟨g3, 0, none⟩) 1, Mr.mk (recS 0 5) (some ⟨g5, 0, none⟩) 1, Mr.mk (recS 0 6) (some ⟨g6, 0, none⟩) 1, Mr.mk (recS 0 8) (some ⟨g8, 0, none⟩) 1] _ (HXI2.out.below (HK6.out.trans (kA.mono zk))) (rowAt_xb CS rfl) (fun m hm => by
      simp only [List.mem_cons, List.not_mem_nil, or_false] at hm
      rcases hm with rfl | rfl | rfl | rfl
      · exact (((HM3c.out.below k6).below kA).mono (fun _ _ _ => trivial))
      · exact (((HM5b.out.below k6).below kA).mono (fun _ _ _ => trivial))
      · exact (((HM6.out.below k6).below kA).mono (fun _ _ _ => trivial))
      · exact ((m8.below kA).mono (fun _ _ _ => trivial))) (by simp) (by omega))
  clear m8 k6 R8 HM3c HM5b HM6 HK5 HXI2
  go_wp2_with fail
  refine (HTAKE.out _ rfl).mono ?_; rintro e w8 ⟨v8, Z, rfl, hT, hZ⟩
  have hZ' : Z.map Mr.r = someR 0 5 2 := hZ.trans HTK.out
  have HZ := Lib.hid hZ'
  have hTb := hT.bel
  have kA8 : Below w6.heap.size w6 w8 := ((Below.refl w6.heap.size w6).alloc (Nat.le_refl _) _).trans (hTb.mono (by simp))
  have HTA := Lib.hid hT.at_
  have HTL := Lib.hid hT.rowAt
  obtain ⟨A8, c8, rfl⟩ := hT.shape
  have HXO8 := Lib.hid (HXO.out.below (HK6.out.trans (kA8.mono zk)))
  have HB8 := Lib.hid (HB2.out.trans ((HK6.out.trans (kA8.mono zk)).mono z2))
  clear hT hZ hZ' HTAKE HXO HB2 hTb kA8 HK6
  have HN := Lib.hid (st_need bo 0 1 4 4 0 6 w8 HXO8.out (by omega) (by omega))
  rw [HND.out] at HN
  go_wp2_with fail
  refine HN.out.mono ?_; rintro e w9 ⟨rfl, rfl⟩
  clear HN HXO8
  go_wp2_with fail
  refine (law_some 0 5 2 w8 (by omega) (by omega)).mono ?_; rintro e w10 ⟨v10, Y, rfl, hT10, hY⟩
  have k10 := hT10.bel
  have HRC := Lib.hid (law_recs18 _ v10 Z Y w10 (HTL.out.below k10) hT10.rowAt (fun m hm => (HTA.out m hm).below k10) hT10.at_ (fun m hm => by
    have := List.mem_map_of_mem (f := Mr.r) hm
    rw [HZ.out] at this
    obtain ⟨i, _, e⟩ := someR_mem this
    rw [e]
    exact (recS_by _ _).2) (fun m hm => by
    have := List.mem_map_of_mem (f := Mr.r) hm
    rw [HZ.out] at this
    obtain ⟨i, _, e⟩ := someR_mem this
    rw [e]
    exact (recS_by _ _).1) (fun m hm => by
    have := List.mem_map_of_mem (f := Mr.r) hm
    rw [hY] at this
    obtain ⟨i, _, e⟩ := someR_mem this
    rw [e]
    exact recS_by _ _) (by have := congrArg List.length HZ.out; rw [someR_len] at this; simp at this; omega))
  have HEQ : Hid (Z.map Mr.r = Y.map Mr.r) := Lib.hid (HZ.out.trans hY.symm)
  have HB10 := Lib.hid (HB8.out.trans (k10.mono HB8.out.size))
  obtain ⟨A10, c10, rfl⟩ := hT10.shape
  clear hT10 hY k10 HTA HTL HB8
  go_wp2_with fail
  refine HRC.out.mono ?_; rintro e w11 ⟨⟨b, rfl, hb⟩, k11⟩
  obtain rfl : b = true := hb.2 HEQ.out
  have HB11 := Lib.hid (HB10.out.trans (k11.mono HB10.out.size))
  clear k11 hb HRC
  go_wp2
  go_ret
  exact ⟨rfl, HB11.out⟩
end Go.Proofs.YtdffldlcbihjmaaDoor

/- An argument that is a record. -/
/- An argument that is a row of records (head of ArgRecs). -/
/- Stage 17: what the cards share. -/
/- An argument that is a word. -/
namespace Go.Proofs.YtdffldlcbihjmaaDoor
open Go.ChangeShapes Go.WideShapes Go.ChangeAt Go.RowKit Go.Joins Go.Deep

theorem weights_field {H : Type} {P : Program} {t : TypeId} {xs : List (DataW H)} {fs : Array Field} (hu : P.underlying t = some (.struct fs)) {i : Nat} {f : Field} (hf : fs[i]? = some f) {d : DataW H} (hd : xs[i]? = some d) : ∀ n ∈ d.weights P f.type, n ∈ (DataW.agg xs).weights P t := by
  intro n hn
  simp only [DataW.weights, hu]
  exact DataW.weights_mem_each (j := i) (t := f.type) (by simp; exact ⟨f, by simpa using hf, rfl⟩) hd n hn
theorem u8_cells' : Tryd.prog.cellsOf 5 = 1 := by kernel_rfl
theorem wf_u8' {x : Int} (h : (Lit.int .u8 x).wf = true) : 0 ≤ x ∧ x ≤ 255 := by
  simp [Lit.wf, IntKind.min, IntKind.max, IntKind.signed, IntKind.bits] at h
  omega
theorem cell_lt' {w : World} {B o : Nat} {v : Value} (h : w.cell? ⟨B, o, none⟩ = some v) : B < w.heap.size := by
  rcases Nat.lt_or_ge B w.heap.size with q | q
  · exact q
  · simp [World.cell?, Array.getElem?_eq_none q] at h
/-- A slice of bytes, as it is trod. -/
theorem open_bytes {H : Type} {enc : TypeId × Value → H} {w : World} {base : Nat} {sp : Nat → Bool} {fuel : Nat} {cs : List Value} {x : DataW H × List MemPlace} (hf : DataW.trod enc Tryd.prog w base sp true fuel 28 cs = some x) :
    ∃ (A : Option Addr) (l : List Int) (c : Nat), cs = [.slice A l.length c] ∧ l.length ≤ c ∧ c ≤ maxLen ∧ ByL w A l ∧ isBy l ∧ (A = none → l.length = 0) ∧ (∀ M, (∀ n ∈ x.1.weights Tryd.prog 28, n ≤ M) → l.length ≤ M) := by
  rcases open_ints Tryd.underlying28 Tryd.underlying5 u8_cells' hf with ⟨hcs, hx⟩ | ⟨a, len, cap, zs, hcs, _, hl, hm, hz, hx, hcell, hwz⟩
  · exact ⟨none, [], 0, hcs, by simp, by unfold maxLen; omega, ByL.nil _ _, isBy_nil, fun _ => rfl, fun M _ => by simp⟩
  · have hlz : len ≤ zs.length := by rw [hz]; split <;> omega
    have hle : (zs.take len).length = len := by rw [List.length_take]; omega
    refine ⟨some a, zs.take len, cap, by rw [hle]; exact hcs, by omega, by omega, fun h0 => ?_, fun b hb => ?_, (fun e => by cases e), fun M hM => ?_⟩
    · rw [hle] at h0
      obtain ⟨B, O, spot⟩ := a
      have hspot : spot = none := by simpa [Addr.add] using World.cell?_spot (hcell 0 (by omega))
      subst hspot
      have hc : ∀ j, j < len → w.cell? ⟨B, O + j, none⟩ = some (.int .u8 (zs.getD j 0)) := fun j hj => by rw [← add_plain]; exact hcell j (by omega)
      refine ⟨B, O, rfl, cell_lt' (hc 0 h0), fun j u hu => ?_⟩
      obtain ⟨q, rfl⟩ := bC_some hu
      rw [hle] at q
      rw [hc j q, List.getD_eq_getElem?_getD, List.getElem?_eq_getElem (by omega), List.getElem_take]
      rfl
    · exact wf_u8' (hwz b (List.mem_of_mem_take hb))
    · rw [hle]
      have := hM ((len + (zs.length - len)) * Tryd.prog.bytesOf 5) ?_
      · have hb1 : Tryd.prog.bytesOf 5 = 1 := by kernel_rfl
        rw [hb1] at this
        omega
      · rw [hx]
        simp [DataW.weights, Tryd.underlying28, lits]
        rw [show min len zs.length = len from by omega]
        exact Or.inl rfl
theorem rec_cells : Tryd.prog.cellsOf 89 = 9 := by kernel_rfl
theorem ver_cells : Tryd.prog.cellsOf 87 = 6 := by kernel_rfl
theorem stamp_cells : Tryd.prog.cellsOf 23 = 2 := by kernel_rfl
theorem one_cell {cs : List Value} {v : Value} (h : cs = [v]) : cs = [v] := h
set_option maxRecDepth 100000 in
/-- What a version's six cells read as. -/
theorem open_ver {H : Type} {enc : TypeId × Value → H} {w : World} {base : Nat} {sp : Nat → Bool} {fuel : Nat} {c0 c1 c2 c3 c4 c5 : Value} {x : DataW H × List MemPlace} (hf : DataW.trod enc Tryd.prog w base sp true fuel 87 [c0, c1, c2, c3, c4, c5] = some x) :
    ∃ (ml ct vo : Int) (A : Option Addr) (l : List Int) (c : Nat) (gone : Bool) (tt : Int), [c0, c1, c2, c3, c4, c5] = [.int .i64 ml, .int .i64 ct, .int .i64 vo, .slice A l.length c, .bool gone, .int .i64 tt] ∧ l.length ≤ c ∧ c ≤ maxLen ∧ ByL w A l ∧ isBy l ∧ (A = none → l.length = 0) ∧
      ((Lit.int .i64 ml).wf = true ∧ (Lit.int .i64 ct).wf = true ∧ (Lit.int .i64 vo).wf = true ∧ (Lit.int .i64 tt).wf = true) ∧ (∀ M, (∀ n ∈ x.1.weights Tryd.prog 87, n ≤ M) → l.length ≤ M) := by
  obtain ⟨xs, n, _, hx, _, hlen, hg⟩ := DataW.trod_struct Tryd.underlying87 hf
  have hlen' : xs.length = 5 := hlen
  have g0 := hg 0 _ rfl
  have g1 := hg 1 _ rfl
  have g2 := hg 2 _ rfl
  have g3 := hg 3 _ rfl
  have g4 := hg 4 _ rfl
  rw [List.getElem?_eq_getElem (by omega)] at g0 g1 g2 g3 g4
  have k0 : DataW.trod enc Tryd.prog w base sp true n 23 [c0, c1] = some xs[0] := g0
  have k1 : DataW.trod enc Tryd.prog w base sp true n 3 [c2] = some xs[1] := g1
  have k2 : DataW.trod enc Tryd.prog w base sp true n 28 [c3] = some xs[2] := g2
  have k3 : DataW.trod enc Tryd.prog w base sp true n 4 [c4] = some xs[3] := g3
  have k4 : DataW.trod enc Tryd.prog w base sp true n 3 [c5] = some xs[4] := g4
  obtain ⟨ys, m, _, hy, _, hlen2, hg2⟩ := DataW.trod_struct Tryd.underlying23 k0
  have hlen2' : ys.length = 2 := hlen2
  have j0 := hg2 0 _ rfl
  have j1 := hg2 1 _ rfl
  rw [List.getElem?_eq_getElem (by omega)] at j0 j1
  have i0 : DataW.trod enc Tryd.prog w base sp true m 3 [c0] = some ys[0] := j0
  have i1 : DataW.trod enc Tryd.prog w base sp true m 3 [c1] = some ys[1] := j1
  obtain ⟨ml, e0, _, w0⟩ := DataW.trod_int Tryd.underlying3 i0
  obtain ⟨ct, e1, _, w1⟩ := DataW.trod_int Tryd.underlying3 i1
  obtain ⟨vo, e2, _, w2⟩ := DataW.trod_int Tryd.underlying3 k1
  obtain ⟨A, l, c, e3, hl, hm, hby, hb, hn, hw⟩ := open_bytes k2
  obtain ⟨gone, e4, _⟩ := DataW.trod_bool Tryd.underlying4 k3
  obtain ⟨tt, e5, _, w5⟩ := DataW.trod_int Tryd.underlying3 k4
  simp only [List.cons.injEq, and_true] at e0 e1 e2 e3 e4 e5
  subst e0 e1 e2 e3 e4 e5
  refine ⟨ml, ct, vo, A, l, c, gone, tt, rfl, hl, hm, hby, hb, hn, ⟨w0, w1, w2, w5⟩, fun M hM => hw M (fun q hq => hM q ?_)⟩
  rw [hx]
  exact weights_field (i := 2) Tryd.underlying87 rfl (by simp only [List.getElem?_map]; rw [List.getElem?_eq_getElem (by omega)]; rfl) q hq
set_option maxRecDepth 100000 in
theorem open_record {H : Type} {enc : TypeId × Value → H} {w : World} {base b0 : Nat} {r : Reach} {sp : Nat → Bool} {v : Value} {d : DataW H} {p : List MemPlace} (hv : Value.okWide Tryd.prog w r b0 89 v) (h : DataW.Trod enc Tryd.prog w base sp true 89 v d p) :
    ∃ (o s : Int) (key : ByteArray) (ml ct vo : Int) (A : Option Addr) (l : List Int) (c : Nat) (gone : Bool) (tt : Int), v = recV o s key ml ct vo A l.length c gone tt ∧ l.length ≤ c ∧ c ≤ maxLen ∧ ByL w A l ∧ isBy l ∧ (A = none → l.length = 0) ∧
      (∀ M, (∀ n ∈ d.weights Tryd.prog 89, n ≤ M) → l.length ≤ M ∧ key.size ≤ M) := by
  obtain ⟨cs, rfl, hsz⟩ := okWide_struct Tryd.underlying89 hv
  rw [rec_cells] at hsz
  obtain ⟨ls⟩ := cs
  match ls, hsz with
  | [c0, c1, c2, c3, c4, c5, c6, c7, c8], _ =>
    obtain ⟨fuel, hf⟩ := h
    have e : (Value.agg #[c0, c1, c2, c3, c4, c5, c6, c7, c8]).cells.toList = [c0, c1, c2, c3, c4, c5, c6, c7, c8] := by simp [Value.cells]
    rw [e] at hf
    obtain ⟨xs, n, _, hx, _, hlen, hg⟩ := DataW.trod_struct Tryd.underlying89 hf
    have hlen' : xs.length = 4 := hlen
    have g0 := hg 0 _ rfl
    have g1 := hg 1 _ rfl
    have g2 := hg 2 _ rfl
    have g3 := hg 3 _ rfl
    rw [List.getElem?_eq_getElem (by omega)] at g0 g1 g2 g3
    have k0 : DataW.trod enc Tryd.prog w base sp true n 3 [c0] = some xs[0] := g0
    have k1 : DataW.trod enc Tryd.prog w base sp true n 3 [c1] = some xs[1] := g1
    have k2 : DataW.trod enc Tryd.prog w base sp true n 9 [c2] = some xs[2] := g2
    have k3 : DataW.trod enc Tryd.prog w base sp true n 87 [c3, c4, c5, c6, c7, c8] = some xs[3] := g3
    obtain ⟨o, e0, _, w0⟩ := DataW.trod_int Tryd.underlying3 k0
    obtain ⟨s, e1, _, w1⟩ := DataW.trod_int Tryd.underlying3 k1
    obtain ⟨key, e2, hk, _⟩ := DataW.trod_string Tryd.underlying9 k2
    obtain ⟨ml, ct, vo, A, l, c, gone, tt, e3, hl, hm, hby, hb, hn, _, hw⟩ := open_ver k3
    simp only [List.cons.injEq, and_true] at e0 e1 e2 e3
    obtain ⟨rfl, rfl, rfl, rfl, rfl, rfl⟩ := e3
    subst e0 e1 e2
    injection hx with hx1 hx2
    refine ⟨o, s, key, ml, ct, vo, A, l, c, gone, tt, rfl, hl, hm, hby, hb, hn, fun M hM => ⟨hw M (fun q hq => hM q ?_), hM key.size ?_⟩⟩
    · rw [hx1]
      exact weights_field (i := 3) Tryd.underlying89 rfl (by simp only [List.getElem?_map]; rw [List.getElem?_eq_getElem (by omega)]; rfl) q hq
    · rw [hx1]
      refine weights_field (i := 2) Tryd.underlying89 rfl (by simp only [List.getElem?_map]; rw [List.getElem?_eq_getElem (by omega)]; rfl) _ ?_
      rw [hk]
      simp [DataW.weights]
theorem sized_each {H : Type} {P : Program} {ts : List TypeId} {ds : List (DataW H)} (h : (DataW.weightsEach P ts ds).all (· ≤ reachBytes) = true) {j : Nat} {t : TypeId} {d : DataW H} (ht : ts[j]? = some t) (hd : ds[j]? = some d) : ∀ n ∈ d.weights P t, n ≤ reachBytes := fun n hn => by
  simpa using List.all_eq_true.1 h n (DataW.weights_mem_each ht hd n hn)
end Go.Proofs.YtdffldlcbihjmaaDoor
namespace Go.Proofs.YtdffldlcbihjmaaDoor
set_option maxRecDepth 100000
open Go.ChangeShapes Go.WideShapes Go.ChangeAt Go.RowKit Go.Joins Go.Deep

theorem weightsAll_mem {H : Type} {P : Program} {e : TypeId} : ∀ {ds : List (DataW H)} {d : DataW H}, d ∈ ds → ∀ n ∈ d.weights P e, n ∈ DataW.weightsAll P e ds
  | [], _, h, _, _ => by cases h
  | d' :: r, d, h, n, hn => by
    rw [DataW.weightsAll]
    rcases List.mem_cons.1 h with rfl | h
    · exact List.mem_append_left _ hn
    · exact List.mem_append_right _ (weightsAll_mem h n hn)
/-- What is known of a record that came in. -/
structure MrIn (w : World) (m : Mr) : Prop where
  at_ : m.At (fun _ => True) w
  key : isBy m.r.key
  val : isBy m.r.val
theorem open_rec_trod {H : Type} {enc : TypeId × Value → H} {w : World} {base : Nat} {sp : Nat → Bool} {fuel : Nat} {cs : List Value} {x : DataW H × List MemPlace} (hl : cs.length = 9) (hf : DataW.trod enc Tryd.prog w base sp true fuel 89 cs = some x) :
    ∃ m : Mr, cs = m.cs ∧ MrIn w m ∧ (∀ M, (∀ n ∈ x.1.weights Tryd.prog 89, n ≤ M) → m.r.val.length ≤ M ∧ m.r.key.length ≤ M) := by
  match cs, hl with
  | [c0, c1, c2, c3, c4, c5, c6, c7, c8], _ =>
    obtain ⟨xs, n, _, hx, _, hlen, hg⟩ := DataW.trod_struct Tryd.underlying89 hf
    have hlen' : xs.length = 4 := hlen
    have g0 := hg 0 _ rfl
    have g1 := hg 1 _ rfl
    have g2 := hg 2 _ rfl
    have g3 := hg 3 _ rfl
    rw [List.getElem?_eq_getElem (by omega)] at g0 g1 g2 g3
    have k0 : DataW.trod enc Tryd.prog w base sp true n 3 [c0] = some xs[0] := g0
    have k1 : DataW.trod enc Tryd.prog w base sp true n 3 [c1] = some xs[1] := g1
    have k2 : DataW.trod enc Tryd.prog w base sp true n 9 [c2] = some xs[2] := g2
    have k3 : DataW.trod enc Tryd.prog w base sp true n 87 [c3, c4, c5, c6, c7, c8] = some xs[3] := g3
    obtain ⟨o, e0, _, w0⟩ := DataW.trod_int Tryd.underlying3 k0
    obtain ⟨s, e1, _, w1⟩ := DataW.trod_int Tryd.underlying3 k1
    obtain ⟨key, e2, hk, _⟩ := DataW.trod_string Tryd.underlying9 k2
    obtain ⟨ml, ct, vo, A, l, c, gone, tt, e3, hl, hm, hby, hb, hn, _, hw⟩ := open_ver k3
    simp only [List.cons.injEq, and_true] at e0 e1 e2 e3
    obtain ⟨rfl, rfl, rfl, rfl, rfl, rfl⟩ := e3
    subst e0 e1 e2
    refine ⟨⟨⟨o, s, kL key, ml, ct, vo, l, gone, tt⟩, A, c⟩, by simp [Mr.cs, str_kL], ⟨⟨hby, hn, fun _ _ _ => trivial⟩, kL_by key, hb⟩, fun M hM => ⟨hw M (fun q hq => hM q ?_), ?_⟩⟩
    · rw [hx]
      exact weights_field (i := 3) Tryd.underlying89 rfl (by simp only [List.getElem?_map]; rw [List.getElem?_eq_getElem (by omega)]; rfl) q hq
    · show (kL key).length ≤ M
      rw [kL_len]
      refine hM key.size ?_
      rw [hx]
      refine weights_field (i := 2) Tryd.underlying89 rfl (by simp only [List.getElem?_map]; rw [List.getElem?_eq_getElem (by omega)]; rfl) _ ?_
      rw [hk]
      simp [DataW.weights]
theorem open_records {H : Type} {enc : TypeId × Value → H} {w : World} {r : Reach} {b0 base : Nat} {sp : Nat → Bool} {v : Value} {d : DataW H} {p : List MemPlace} (hv : Value.okWide Tryd.prog w r b0 24 v) (h : DataW.Trod enc Tryd.prog w base sp true 24 v d p) :
    ∃ (L : List Mr) (A : Option Addr) (c : Nat), v = .slice A L.length c ∧ L.length ≤ maxLen ∧ RowAt w v L ∧ (∀ m ∈ L, MrIn w m) ∧ (A = none → L.length = 0 ∧ c = 0) ∧ (∀ M, (∀ n ∈ d.weights Tryd.prog 24, n ≤ M) → ∀ m ∈ L, m.r.val.length ≤ M ∧ m.r.key.length ≤ M) := by
  obtain ⟨a0, len, cap, rfl⟩ := okWide_slice Tryd.underlying24 hv
  obtain ⟨fuel, hf⟩ := h
  rcases Go.Deep.open_slice Tryd.underlying24 hf with ⟨hcs, _⟩ | ⟨a, len', cap', mm, k, D, Pl, hcs, _, hl, hmx, hmm, hx, hi⟩
  · simp [Value.cells] at hcs
    obtain ⟨rfl, rfl, rfl⟩ := hcs
    exact ⟨[], none, 0, rfl, by simp, ⟨none, 0, rfl, fun h => absurd h (by simp)⟩, fun m hm => (by cases hm), fun _ => ⟨rfl, rfl⟩, fun M _ m hm => (by cases hm)⟩
  · simp [Value.cells] at hcs
    obtain ⟨rfl, rfl, rfl⟩ := hcs
    rw [rec_cells] at hi
    have hlm : len ≤ mm := by rw [hmm]; split <;> omega
    have hex : ∀ i, ∃ m : Mr, i < len → (∀ j u, m.cs[j]? = some u → w.cell? ((a.add (i * 9)).add j) = some u) ∧ MrIn w m ∧ (∀ M, (∀ n ∈ (D i).weights Tryd.prog 89, n ≤ M) → m.r.val.length ≤ M ∧ m.r.key.length ≤ M) := fun i => by
      by_cases hil : i < len
      · obtain ⟨cs', hc, ht⟩ := hi i (by omega)
        obtain ⟨_, hcl, hat⟩ := World.cells?_some hc
        obtain ⟨m, hm, hin, hw⟩ := open_rec_trod hcl ht
        refine ⟨m, fun _ => ⟨fun j u hu => ?_, hin, hw⟩⟩
        have hj : j < 9 := by
          have := (List.getElem?_eq_some_iff.1 hu).1
          simpa [Mr.cs] using this
        rw [hat j hj, hm]
        exact hu
      · exact ⟨⟨⟨0, 0, [], 0, 0, 0, [], false, 0⟩, none, 0⟩, fun h => absurd h hil⟩
    have hF : ∃ F : Nat → Mr, ∀ i, i < len → (∀ j u, (F i).cs[j]? = some u → w.cell? ((a.add (i * 9)).add j) = some u) ∧ MrIn w (F i) ∧ (∀ M, (∀ n ∈ (D i).weights Tryd.prog 89, n ≤ M) → (F i).r.val.length ≤ M ∧ (F i).r.key.length ≤ M) := ⟨fun i => Classical.choose (hex i), fun i => Classical.choose_spec (hex i)⟩
    obtain ⟨F, hF⟩ := hF
    have hLl : ((List.range len).map F).length = len := by simp
    have hLa : ∀ i, i < len → ((List.range len).map F)[i]? = some (F i) := fun i hi => by simp [hi]
    refine ⟨(List.range len).map F, some a, cap, by rw [hLl], by rw [hLl]; omega, ⟨some a, cap, by rw [hLl], fun h0 => ?_⟩, fun m hm => ?_, (fun e => by cases e), fun M hM m hm => ?_⟩
    · rw [hLl] at h0
      obtain ⟨B, O, spot⟩ := a
      have h00 := (hF 0 h0).1 0 _ rfl
      have hspot : spot = none := by simpa [Addr.add] using World.cell?_spot h00
      subst hspot
      rw [add_plain, add_plain] at h00
      refine ⟨B, O, rfl, cell_lt' h00, fun j u hu => ?_⟩
      have hj : j < len * 9 := by
        have := (List.getElem?_eq_some_iff.1 hu).1
        rwa [rowM_len, hLl] at this
      have hk : j / 9 < len := by omega
      have he : j / 9 * 9 + j % 9 = j := by omega
      have h2 := rowM_at (hLa (j / 9) hk) (j % 9) (by omega)
      rw [he] at h2
      rw [h2] at hu
      have h3 := (hF (j / 9) hk).1 (j % 9) u hu
      rw [add_plain, add_plain, Nat.add_assoc, he] at h3
      exact h3
    · obtain ⟨i, hi', rfl⟩ := List.mem_map.1 hm
      exact (hF i (List.mem_range.1 hi')).2.1
    · obtain ⟨i, hi', rfl⟩ := List.mem_map.1 hm
      have hil := List.mem_range.1 hi'
      refine (hF i hil).2.2 M (fun n hn => hM n ?_)
      injection hx with hx1 _
      rw [hx1]
      simp only [DataW.weights, Tryd.underlying24]
      exact List.mem_cons_of_mem _ (List.mem_append_left _ (weightsAll_mem (List.mem_map.2 ⟨i, List.mem_range.2 hil, rfl⟩) n hn))
end Go.Proofs.YtdffldlcbihjmaaDoor
namespace Go.Proofs.YtdffldlcbihjmaaDoor
open Go.ChangeShapes Go.WideShapes Go.ChangeAt Go.RowKit Go.Joins

def litCells : Nat → DataW Unit → List Value
  | 0, _ => []
  | _ + 1, .lit (.int k n) => [.int k n]
  | f + 1, .agg l => l.flatMap (litCells f)
  | _ + 1, _ => []
/-- A world in which a listed table holds what it is laid with. -/
def layAt (w : World) (g : Nat) (d : DataW Unit) : World := { w with heap := w.heap.modify g fun
  | .cells _ t fr => .cells (litCells 4 d).toArray t fr
  | o => o }
theorem plain_of {lk : Bool} {f0 : Nat} {fn0 : Func} {nm : String} (h1 : Tryd.prog.funcNamed nm = some f0) (h2 : Tryd.prog.funcs[f0]? = some fn0) (h3 : lk = Tryd.prog.looks []) (h4 : (fn0.params.all fun t => !Tryd.prog.wantsStandIn t) = true) (f : FuncId) (fn : Func) (hf : Tryd.pinned.checked.prog.funcNamed nm = some f) (hfn : Tryd.pinned.checked.prog.funcs[f]? = some fn) :
    lk = Tryd.pinned.checked.prog.looks [] ∧ ∀ (j : Nat) t, fn.params[j]? = some t → Tryd.pinned.checked.prog.wantsStandIn t = false := by
  obtain rfl : f = f0 := Option.some.inj ((show Tryd.prog.funcNamed nm = some f from hf).symm.trans h1)
  obtain rfl : fn = fn0 := Option.some.inj ((show Tryd.prog.funcs[f]? = some fn from hfn).symm.trans h2)
  refine ⟨h3, fun j t ht => ?_⟩
  have hm := Array.mem_of_getElem? ht
  have := Array.all_eq_true'.1 h4 t hm
  exact (show Tryd.prog.wantsStandIn t = false by simpa using this)
theorem nib_of_laid {W : World} (h : laidMet Tryd.prog [("meridian/octet.nibbles", Rows.laid_meridian_octet_nibbles)] W) : Nib W :=
  Lib.tabIs_of_head (g := 0) (t := 155) (e := 136) (n := 16) (rest := []) (by kernel_rfl) (by kernel_rfl) Tryd.underlying155 Tryd.underlying136 (by kernel_rfl) (by kernel_rfl) h
noncomputable def layW1 (os : Os) : World := layAt (World.holding Tryd.prog os ⟨#[], #[], []⟩) 0 Rows.laid_meridian_octet_nibbles
end Go.Proofs.YtdffldlcbihjmaaDoor
namespace Go.Proofs.YtdffldlcbihjmaaDoor
set_option maxRecDepth 100000
open Go.ChangeShapes Go.WideShapes Go.ChangeAt Go.RowKit Go.Joins Go.Deep

theorem open_recs_trod {H : Type} {enc : TypeId × Value → H} {w : World} {base : Nat} {sp : Nat → Bool} {fuel : Nat} {cs : List Value} {x : DataW H × List MemPlace} (hf : DataW.trod enc Tryd.prog w base sp true fuel 24 cs = some x) :
    ∃ (L : List Mr) (A : Option Addr) (c : Nat), cs = [.slice A L.length c] ∧ L.length ≤ maxLen ∧ RowAt w (.slice A L.length c) L ∧ (∀ m ∈ L, MrIn w m) ∧ (A = none → L.length = 0 ∧ c = 0) ∧ (∀ M, (∀ n ∈ x.1.weights Tryd.prog 24, n ≤ M) → ∀ m ∈ L, m.r.val.length ≤ M ∧ m.r.key.length ≤ M) := by
  rcases Go.Deep.open_slice Tryd.underlying24 hf with ⟨hcs, _⟩ | ⟨a, len, cap, mm, k, D, Pl, hcs, _, hl, hmx, hmm, hx, hi⟩
  · exact ⟨[], none, 0, hcs, by simp, ⟨none, 0, rfl, fun h => absurd h (by simp)⟩, fun m hm => (by cases hm), fun _ => ⟨rfl, rfl⟩, fun M _ m hm => (by cases hm)⟩
  · rw [rec_cells] at hi
    have hlm : len ≤ mm := by rw [hmm]; split <;> omega
    have hex : ∀ i, ∃ m : Mr, i < len → (∀ j u, m.cs[j]? = some u → w.cell? ((a.add (i * 9)).add j) = some u) ∧ MrIn w m ∧ (∀ M, (∀ n ∈ (D i).weights Tryd.prog 89, n ≤ M) → m.r.val.length ≤ M ∧ m.r.key.length ≤ M) := fun i => by
      by_cases hil : i < len
      · obtain ⟨cs', hc, ht⟩ := hi i (by omega)
        obtain ⟨_, hcl, hat⟩ := World.cells?_some hc
        obtain ⟨m, hm, hin, hw⟩ := open_rec_trod hcl ht
        refine ⟨m, fun _ => ⟨fun j u hu => ?_, hin, hw⟩⟩
        have hj : j < 9 := by
          have := (List.getElem?_eq_some_iff.1 hu).1
          simpa [Mr.cs] using this
        rw [hat j hj, hm]
        exact hu
      · exact ⟨⟨⟨0, 0, [], 0, 0, 0, [], false, 0⟩, none, 0⟩, fun h => absurd h hil⟩
    have hF : ∃ F : Nat → Mr, ∀ i, i < len → (∀ j u, (F i).cs[j]? = some u → w.cell? ((a.add (i * 9)).add j) = some u) ∧ MrIn w (F i) ∧ (∀ M, (∀ n ∈ (D i).weights Tryd.prog 89, n ≤ M) → (F i).r.val.length ≤ M ∧ (F i).r.key.length ≤ M) := ⟨fun i => Classical.choose (hex i), fun i => Classical.choose_spec (hex i)⟩
    obtain ⟨F, hF⟩ := hF
    have hLl : ((List.range len).map F).length = len := by simp
    have hLa : ∀ i, i < len → ((List.range len).map F)[i]? = some (F i) := fun i hi => by simp [hi]
    refine ⟨(List.range len).map F, some a, cap, by rw [hLl]; exact hcs, by rw [hLl]; omega, ⟨some a, cap, by rw [hLl], fun h0 => ?_⟩, fun m hm => ?_, (fun e => by cases e), fun M hM m hm => ?_⟩
    · rw [hLl] at h0
      obtain ⟨B, O, spot⟩ := a
      have h00 := (hF 0 h0).1 0 _ rfl
      have hspot : spot = none := by simpa [Addr.add] using World.cell?_spot h00
      subst hspot
      rw [add_plain, add_plain] at h00
      refine ⟨B, O, rfl, cell_lt' h00, fun j u hu => ?_⟩
      have hj : j < len * 9 := by
        have := (List.getElem?_eq_some_iff.1 hu).1
        rwa [rowM_len, hLl] at this
      have hk : j / 9 < len := by omega
      have he : j / 9 * 9 + j % 9 = j := by omega
      have h2 := rowM_at (hLa (j / 9) hk) (j % 9) (by omega)
      rw [he] at h2
      rw [h2] at hu
      have h3 := (hF (j / 9) hk).1 (j % 9) u hu
      rw [add_plain, add_plain, Nat.add_assoc, he] at h3
      exact h3
    · obtain ⟨i, hi', rfl⟩ := List.mem_map.1 hm
      exact (hF i (List.mem_range.1 hi')).2.1
    · obtain ⟨i, hi', rfl⟩ := List.mem_map.1 hm
      have hil := List.mem_range.1 hi'
      refine (hF i hil).2.2 M (fun n hn => hM n ?_)
      rw [hx]
      simp only [DataW.weights, Tryd.underlying24]
      exact List.mem_cons_of_mem _ (List.mem_append_left _ (weightsAll_mem (List.mem_map.2 ⟨i, List.mem_range.2 hil, rfl⟩) n hn))
theorem word_cells : Tryd.prog.cellsOf 26 = 8 := by kernel_rfl
theorem open_stamp_trod {H : Type} {enc : TypeId × Value → H} {w : World} {base : Nat} {sp : Nat → Bool} {fuel : Nat} {c0 c1 : Value} {x : DataW H × List MemPlace} (hf : DataW.trod enc Tryd.prog w base sp true fuel 23 [c0, c1] = some x) :
    ∃ m c : Int, c0 = .int .i64 m ∧ c1 = .int .i64 c := by
  obtain ⟨ys, m, _, hy, _, hlen2, hg2⟩ := DataW.trod_struct Tryd.underlying23 hf
  have hlen2' : ys.length = 2 := hlen2
  have j0 := hg2 0 _ rfl
  have j1 := hg2 1 _ rfl
  rw [List.getElem?_eq_getElem (by omega)] at j0 j1
  have i0 : DataW.trod enc Tryd.prog w base sp true m 3 [c0] = some ys[0] := j0
  have i1 : DataW.trod enc Tryd.prog w base sp true m 3 [c1] = some ys[1] := j1
  obtain ⟨ml, e0, _, w0⟩ := DataW.trod_int Tryd.underlying3 i0
  obtain ⟨ct, e1, _, w1⟩ := DataW.trod_int Tryd.underlying3 i1
  simp only [List.cons.injEq, and_true] at e0 e1
  exact ⟨ml, ct, e0, e1⟩
theorem open_word {H : Type} {enc : TypeId × Value → H} {w : World} {base b0 : Nat} {r : Reach} {sp : Nat → Bool} {v : Value} {d : DataW H} {p : List MemPlace} (hv : Value.okWide Tryd.prog w r b0 26 v) (h : DataW.Trod enc Tryd.prog w base sp true 26 v d p) :
    ∃ (k o s m1 c1 m2 c2 : Int) (L : List Mr) (A : Option Addr) (c : Nat), v = wdV k o s m1 c1 m2 c2 (.slice A L.length c) ∧ L.length ≤ maxLen ∧ RowAt w (.slice A L.length c) L ∧ (∀ m ∈ L, MrIn w m) ∧
      (∀ M, (∀ n ∈ d.weights Tryd.prog 26, n ≤ M) → ∀ m ∈ L, m.r.val.length ≤ M ∧ m.r.key.length ≤ M) := by
  obtain ⟨cs, rfl, hsz⟩ := okWide_struct Tryd.underlying26 hv
  rw [word_cells] at hsz
  obtain ⟨ls⟩ := cs
  match ls, hsz with
  | [c0, c1, c2, c3, c4, c5, c6, c7], _ =>
    obtain ⟨fuel, hf⟩ := h
    have e : (Value.agg #[c0, c1, c2, c3, c4, c5, c6, c7]).cells.toList = [c0, c1, c2, c3, c4, c5, c6, c7] := by simp [Value.cells]
    rw [e] at hf
    obtain ⟨xs, n, _, hx, _, hlen, hg⟩ := DataW.trod_struct Tryd.underlying26 hf
    have hlen' : xs.length = 6 := hlen
    have g0 := hg 0 _ rfl
    have g1 := hg 1 _ rfl
    have g2 := hg 2 _ rfl
    have g3 := hg 3 _ rfl
    have g4 := hg 4 _ rfl
    have g5 := hg 5 _ rfl
    rw [List.getElem?_eq_getElem (by omega)] at g0 g1 g2 g3 g4 g5
    have k0 : DataW.trod enc Tryd.prog w base sp true n 3 [c0] = some xs[0] := g0
    have k1 : DataW.trod enc Tryd.prog w base sp true n 3 [c1] = some xs[1] := g1
    have k2 : DataW.trod enc Tryd.prog w base sp true n 3 [c2] = some xs[2] := g2
    have k3 : DataW.trod enc Tryd.prog w base sp true n 23 [c3, c4] = some xs[3] := g3
    have k4 : DataW.trod enc Tryd.prog w base sp true n 23 [c5, c6] = some xs[4] := g4
    have k5 : DataW.trod enc Tryd.prog w base sp true n 24 [c7] = some xs[5] := g5
    obtain ⟨k, e0, _, _⟩ := DataW.trod_int Tryd.underlying3 k0
    obtain ⟨o, e1, _, _⟩ := DataW.trod_int Tryd.underlying3 k1
    obtain ⟨s, e2, _, _⟩ := DataW.trod_int Tryd.underlying3 k2
    obtain ⟨m1, n1, rfl, rfl⟩ := open_stamp_trod k3
    obtain ⟨m2, n2, rfl, rfl⟩ := open_stamp_trod k4
    obtain ⟨L, A, c, e7, hmx, hrow, hin, _, hz⟩ := open_recs_trod k5
    simp only [List.cons.injEq, and_true] at e0 e1 e2 e7
    subst e0 e1 e2 e7
    injection hx with hx1 hx2
    refine ⟨k, o, s, m1, n1, m2, n2, L, A, c, rfl, hmx, hrow, hin, fun M hM => hz M (fun q hq => hM q ?_)⟩
    rw [hx1]
    exact weights_field (i := 5) Tryd.underlying26 rfl (by simp only [List.getElem?_map]; rw [List.getElem?_eq_getElem (by omega)]; rfl) q hq
end Go.Proofs.YtdffldlcbihjmaaDoor

/- Arguments that are rows of structs, of whatever shape: one theorem for all. -/
namespace Go.Proofs.YtdffldlcbihjmaaDoor
open Go.ChangeShapes Go.WideShapes Go.ChangeAt Go.RowKit Go.Joins Go.Deep

theorem fm_len {α : Type} (f : α → List Value) (m : Nat) (hm : ∀ x, (f x).length = m) : ∀ L : List α, (L.flatMap f).length = L.length * m
  | [] => by simp
  | a :: t => by
    rw [List.flatMap_cons, List.length_append, hm, fm_len f m hm t, List.length_cons, Nat.add_mul]
    omega
theorem fm_at {α : Type} (f : α → List Value) (m : Nat) (hm : ∀ x, (f x).length = m) {L : List α} {k : Nat} {x : α} (h : L[k]? = some x) (j : Nat) (hj : j < m) : (L.flatMap f)[k * m + j]? = (f x)[j]? := by
  have hk : k < L.length := (List.getElem?_eq_some_iff.1 h).1
  have e : L = L.take k ++ x :: L.drop (k + 1) := by
    have h2 : L[k] = x := by have := List.getElem?_eq_getElem hk; rw [this] at h; injection h
    conv => lhs; rw [← List.take_append_drop k L]
    rw [List.drop_eq_getElem_cons hk, h2]
  have hl : ((L.take k).flatMap f).length = k * m := by rw [fm_len f m hm, List.length_take, show min k L.length = k from by omega]
  rw [e, List.flatMap_append, List.getElem?_append_right (by rw [hl]; omega), hl, show k * m + j - k * m = j from by omega, List.flatMap_cons, List.getElem?_append_left (by rw [hm]; exact hj)]
/-- Structs of m cells at an address. -/
def RowG {α : Type} (f : α → List Value) (w : World) (A : Option Addr) (L : List α) : Prop := 0 < L.length → ∃ B O, A = some ⟨B, O, none⟩ ∧ B < w.heap.size ∧ ∀ j u, (L.flatMap f)[j]? = some u → w.cell? ⟨B, O + j, none⟩ = some u
theorem RowG.below {α : Type} {f : α → List Value} {w w' : World} {A : Option Addr} {L : List α} (h : RowG f w A L) (k : Below w.heap.size w w') : RowG f w' A L := by
  intro h0
  obtain ⟨B, O, rfl, hB, hc⟩ := h h0
  exact ⟨B, O, rfl, Nat.lt_of_lt_of_le hB k.size, fun j u hu => (k.cell (p := ⟨B, O + j, none⟩) hB).trans (hc j u hu)⟩
theorem weightsAll_memG {H : Type} {P : Program} {e : TypeId} : ∀ {ds : List (DataW H)} {d : DataW H}, d ∈ ds → ∀ n ∈ d.weights P e, n ∈ DataW.weightsAll P e ds
  | [], _, h, _, _ => by cases h
  | d' :: r, d, h, n, hn => by
    rw [DataW.weightsAll]
    rcases List.mem_cons.1 h with rfl | h
    · exact List.mem_append_left _ hn
    · exact List.mem_append_right _ (weightsAll_memG h n hn)
/-- A slice of structs, as it is trod: f tells a struct's cells, Q what is known of each, Z what the weights bound. -/
theorem rows_trod {H : Type} {enc : TypeId × Value → H} {w : World} {base : Nat} {sp : Nat → Bool} {t e : TypeId} {α : Type} (f : α → List Value) (m : Nat) (hm0 : 0 < m) (hm : ∀ x, (f x).length = m) (hu : Tryd.prog.underlying t = some (.slice e)) (he : Tryd.prog.cellsOf e = m) (Q : α → Prop) (Z : α → Nat → Prop) (dflt : α)
    (helem : ∀ (fuel : Nat) (cs : List Value) (x : DataW H × List MemPlace), cs.length = m → DataW.trod enc Tryd.prog w base sp true fuel e cs = some x → ∃ a : α, cs = f a ∧ Q a ∧ (∀ M, (∀ n ∈ x.1.weights Tryd.prog e, n ≤ M) → Z a M))
    {fuel : Nat} {cs : List Value} {x : DataW H × List MemPlace} (hf : DataW.trod enc Tryd.prog w base sp true fuel t cs = some x) :
    ∃ (L : List α) (A : Option Addr) (c : Nat), cs = [.slice A L.length c] ∧ L.length ≤ c ∧ c ≤ maxLen ∧ RowG f w A L ∧ (∀ a ∈ L, Q a) ∧ (A = none → L.length = 0) ∧ (∀ M, (∀ n ∈ x.1.weights Tryd.prog t, n ≤ M) → ∀ a ∈ L, Z a M) := by
  rcases Go.Deep.open_slice hu hf with ⟨hcs, _⟩ | ⟨a, len, cap, mm, k, D, Pl, hcs, _, hl, hmx, hmm, hx, hi⟩
  · exact ⟨[], none, 0, hcs, by simp, by unfold maxLen; omega, (fun h => absurd h (by simp)), fun m hm => (by cases hm), fun _ => rfl, fun M _ m hm => (by cases hm)⟩
  · rw [he] at hi
    have hlm : len ≤ mm := by rw [hmm]; split <;> omega
    have hex : ∀ i, ∃ b : α, i < len → (∀ j u, (f b)[j]? = some u → w.cell? ((a.add (i * m)).add j) = some u) ∧ Q b ∧ (∀ M, (∀ n ∈ (D i).weights Tryd.prog e, n ≤ M) → Z b M) := fun i => by
      by_cases hil : i < len
      · obtain ⟨cs', hc, ht⟩ := hi i (by omega)
        obtain ⟨_, hcl, hat⟩ := World.cells?_some hc
        obtain ⟨b, hb, hq, hz⟩ := helem _ _ _ hcl ht
        refine ⟨b, fun _ => ⟨fun j u hu => ?_, hq, hz⟩⟩
        have hj : j < m := by
          have := (List.getElem?_eq_some_iff.1 hu).1
          rwa [hm] at this
        rw [hat j hj, hb]
        exact hu
      · exact ⟨dflt, fun h => absurd h hil⟩
    have hF : ∃ F : Nat → α, ∀ i, i < len → (∀ j u, (f (F i))[j]? = some u → w.cell? ((a.add (i * m)).add j) = some u) ∧ Q (F i) ∧ (∀ M, (∀ n ∈ (D i).weights Tryd.prog e, n ≤ M) → Z (F i) M) := ⟨fun i => Classical.choose (hex i), fun i => Classical.choose_spec (hex i)⟩
    obtain ⟨F, hF⟩ := hF
    have hLl : ((List.range len).map F).length = len := by simp
    have hLa : ∀ i, i < len → ((List.range len).map F)[i]? = some (F i) := fun i hi => by simp [hi]
    refine ⟨(List.range len).map F, some a, cap, by rw [hLl]; exact hcs, by rw [hLl]; omega, by omega, fun h0 => ?_, fun b hb => ?_, (fun e => by cases e), fun M hM b hb => ?_⟩
    · rw [hLl] at h0
      obtain ⟨B, O, spot⟩ := a
      have h01 : (f (F 0))[0]? = some ((f (F 0))[0]'(by rw [hm]; exact hm0)) := List.getElem?_eq_getElem _
      have h00 := (hF 0 h0).1 0 _ h01
      have hspot : spot = none := by simpa [Addr.add] using World.cell?_spot h00
      subst hspot
      rw [add_plain, add_plain] at h00
      refine ⟨B, O, rfl, cell_lt' h00, fun j u hu => ?_⟩
      have hj : j < len * m := by
        have := (List.getElem?_eq_some_iff.1 hu).1
        rwa [fm_len f m hm, hLl] at this
      have hk : j / m < len := Nat.div_lt_of_lt_mul (by rw [Nat.mul_comm]; exact hj)
      have hr : j % m < m := Nat.mod_lt _ hm0
      have hej : j / m * m + j % m = j := by rw [Nat.mul_comm]; exact Nat.div_add_mod j m
      have h2 := fm_at f m hm (hLa (j / m) hk) (j % m) hr
      rw [hej] at h2
      rw [h2] at hu
      have h3 := (hF (j / m) hk).1 (j % m) u hu
      rw [add_plain, add_plain, Nat.add_assoc, hej] at h3
      exact h3
    · obtain ⟨i, hi', rfl⟩ := List.mem_map.1 hb
      exact (hF i (List.mem_range.1 hi')).2.1
    · obtain ⟨i, hi', rfl⟩ := List.mem_map.1 hb
      have hil := List.mem_range.1 hi'
      refine (hF i hil).2.2 M (fun n hn => hM n ?_)
      rw [hx]
      simp only [DataW.weights, hu]
      exact List.mem_cons_of_mem _ (List.mem_append_left _ (weightsAll_memG (List.mem_map.2 ⟨i, List.mem_range.2 hil, rfl⟩) n hn))
set_option maxRecDepth 100000 in
theorem open_rows {H : Type} {enc : TypeId × Value → H} {w : World} {r : Reach} {b0 base : Nat} {sp : Nat → Bool} {t e : TypeId} {v : Value} {d : DataW H} {p : List MemPlace} {α : Type} (f : α → List Value) (m : Nat) (hm0 : 0 < m) (hm : ∀ x, (f x).length = m) (hu : Tryd.prog.underlying t = some (.slice e)) (he : Tryd.prog.cellsOf e = m) (Q : α → Prop) (Z : α → Nat → Prop) (dflt : α)
    (helem : ∀ (fuel : Nat) (cs : List Value) (x : DataW H × List MemPlace), cs.length = m → DataW.trod enc Tryd.prog w base sp true fuel e cs = some x → ∃ a : α, cs = f a ∧ Q a ∧ (∀ M, (∀ n ∈ x.1.weights Tryd.prog e, n ≤ M) → Z a M))
    (hv : Value.okWide Tryd.prog w r b0 t v) (h : DataW.Trod enc Tryd.prog w base sp true t v d p) :
    ∃ (L : List α) (A : Option Addr) (c : Nat), v = .slice A L.length c ∧ L.length ≤ c ∧ c ≤ maxLen ∧ RowG f w A L ∧ (∀ a ∈ L, Q a) ∧ (A = none → L.length = 0) ∧ (∀ M, (∀ n ∈ d.weights Tryd.prog t, n ≤ M) → ∀ a ∈ L, Z a M) := by
  obtain ⟨a0, len, cap, rfl⟩ := okWide_slice hu hv
  obtain ⟨fuel, hf⟩ := h
  obtain ⟨L, A, c, hcs, h1, h2, h3, h4, h5, h6⟩ := rows_trod f m hm0 hm hu he Q Z dflt helem hf
  simp [Value.cells] at hcs
  obtain ⟨rfl, rfl, rfl⟩ := hcs
  exact ⟨L, _, _, rfl, h1, h2, h3, h4, h5, h6⟩
theorem sized_eachG {H : Type} {P : Program} {ts : List TypeId} {ds : List (DataW H)} (h : (DataW.weightsEach P ts ds).all (· ≤ reachBytes) = true) {j : Nat} {t : TypeId} {d : DataW H} (ht : ts[j]? = some t) (hd : ds[j]? = some d) : ∀ n ∈ d.weights P t, n ≤ reachBytes := fun n hn => by
  simpa using List.all_eq_true.1 h n (DataW.weights_mem_each ht hd n hn)
end Go.Proofs.YtdffldlcbihjmaaDoor

/- Stage 18: StreamSends: every script of the side that sends, each answer and message (written by gen/s18n.py). -/
namespace Go.Proofs.YtdffldlcbihjmaaDoor
open Go.RowKit Go.Sort

/-- An act of the script. -/
structure Ax where
  k : Int
  n : Int
  m : Int
  A : Option Addr
  L : List Mr
  c : Nat
abbrev Ax.v (x : Ax) : Value := .slice x.A x.L.length x.c
def Ax.cs (x : Ax) : List Value := [.int .i64 x.k, .int .i64 x.n, .int .i64 x.m, x.v]
theorem Ax.len (x : Ax) : x.cs.length = 4 := rfl
/-- Records in memory, all of it in blocks of a kind. -/
structure RowQ (Q : Nat → Prop) (W : World) (v : Value) (L : List Mr) : Prop where
  row : RowAt W v L
  ab : 0 < L.length → ∀ A n c, v = .slice A n c → ∀ ad, A = some ad → Q ad.block
  at_ : ∀ m ∈ L, m.At Q W
  by_ : ∀ m ∈ L, isBy m.r.key ∧ isBy m.r.val
theorem RowQ.only {Q : Nat → Prop} {b : Nat} {W W' : World} {v : Value} {L : List Mr} (h : RowQ Q W v L) (k : Only b W W') (hb : ¬ Q b) : RowQ Q W' v L := by
  obtain ⟨A, c, hv, hc⟩ := h.row.ex
  refine ⟨⟨A, c, hv, fun h0 => ?_⟩, h.ab, fun m hm => (h.at_ m hm).but (S := fun i => i = b) (But.of_only k rfl) (fun i e q => hb (e ▸ q)), h.by_⟩
  obtain ⟨B, O, hA, hl, hcell⟩ := hc h0
  have hne : B ≠ b := fun e => hb (e ▸ h.ab h0 A _ c hv ⟨B, O, none⟩ hA)
  exact ⟨B, O, hA, Nat.lt_of_lt_of_le hl k.size, fun j u hu => (k.cell B (O + j) hl hne).trans (hcell j u hu)⟩
theorem RowQ.below {Q : Nat → Prop} {W W' : World} {v : Value} {L : List Mr} (h : RowQ Q W v L) (k : Below W.heap.size W W') : RowQ Q W' v L :=
  ⟨h.row.below k, h.ab, fun m hm => (h.at_ m hm).below k, h.by_⟩
theorem RowQ.mono {Q Q' : Nat → Prop} {W : World} {v : Value} {L : List Mr} (h : RowQ Q W v L) (k : ∀ i, i < W.heap.size → Q i → Q' i) : RowQ Q' W v L := by
  refine ⟨h.row, fun h0 A n c hv ad hA => ?_, fun m hm => (h.at_ m hm).mono k, h.by_⟩
  have hq := h.ab h0 A n c hv ad hA
  obtain ⟨A1, c1, hv1, hc⟩ := h.row.ex
  obtain ⟨B, O, hA1, hl, _⟩ := hc h0
  rw [hv] at hv1
  injection hv1 with q1 q2 q3
  rw [hA, hA1] at q1
  injection q1 with q1
  subst q1
  exact k _ hl hq
theorem TL.rowQ {w wr : World} {v : Value} {k : Nat} {L : List Mr} (h : TL w wr v k L) (hb : ∀ m ∈ L, isBy m.r.key ∧ isBy m.r.val) : RowQ (fun i => w.heap.size ≤ i) wr v L := by
  refine ⟨h.rowAt, fun _ A n c hv ad hA => ?_, fun m hm => (h.ats m hm).mono (fun i _ hq => hq.1), hb⟩
  subst hv hA
  have hl := h.row
  rcases hl.2 with ⟨e, _⟩ | ⟨g, cap, cur, e, hg, _⟩
  · cases e
  · injection e with e1 e2 e3
    injection e1 with e1
    rw [e1]
    exact hg
theorem some_by {o : Int} {f n : Nat} {L : List Mr} (h : L.map Mr.r = someR o f n) : ∀ m ∈ L, isBy m.r.key ∧ isBy m.r.val := fun m hm => by
  have h2 := List.mem_map_of_mem (f := Mr.r) hm
  rw [h] at h2
  obtain ⟨i, _, e⟩ := someR_mem h2
  rw [e]
  exact recS_by o (f + i)
/-- An act that came in. -/
structure AxIn (w : World) (x : Ax) : Prop where
  i : -9223372036854775808 ≤ x.n ∧ x.n ≤ 9223372036854775807
  row : RowAt w x.v x.L
  ins : ∀ m ∈ x.L, MrIn w m
  mx : x.L.length ≤ maxLen
theorem AxIn.q {w : World} {x : Ax} (h : AxIn w x) : RowQ (fun i => i < w.heap.size) w x.v x.L := by
  refine ⟨h.row, fun h0 A n c hv ad hA => ?_, fun m hm => ((h.ins m hm).at_).mono (fun i hi _ => hi), fun m hm => ⟨(h.ins m hm).key, (h.ins m hm).val⟩⟩
  obtain ⟨A1, c1, hv1, hc⟩ := h.row.ex
  obtain ⟨B, O, hA1, hl, _⟩ := hc h0
  rw [hv] at hv1
  injection hv1 with q1 q2 q3
  rw [hA, hA1] at q1
  injection q1 with q1
  subst q1
  exact hl
theorem bits_15 (x : Int) : ∃ k : Nat, k ≤ 15 ∧ bits .and .i64 x 15 = (k : Int) := by
  refine ⟨(BitVec.ofInt 64 x &&& BitVec.ofInt 64 15).toNat, ?_, ?_⟩
  · rw [BitVec.toNat_and]
    exact Nat.le_trans Nat.and_le_right (by decide)
  · show IntKind.i64.wrap ((BitVec.ofInt 64 x &&& BitVec.ofInt 64 15).toNat : Int) = _
    have h : (BitVec.ofInt 64 x &&& BitVec.ofInt 64 15).toNat ≤ 15 := by
      rw [BitVec.toNat_and]
      exact Nat.le_trans Nat.and_le_right (by decide)
    exact IntWalk.i64_in _ (by omega)
theorem send_bd {f a s : Int} {rs : List Rc} (h : sendC f a s rs = 0) : fstS rs + (rs.length : Int) - 1 ≤ 1099511627776 := by
  unfold sendC at h
  split at h
  · cases h
  rename_i h0
  split at h
  · cases h
  split at h
  · cases h
  split at h
  · cases h
  split at h
  rotate_left
  · cases h
  rename_i hb
  have hl : rs.length - 1 < rs.length := by omega
  have q := rowB_at' hb (rs.length - 1) _ (List.getElem?_eq_getElem hl)
  have q1 := ((ok_iff _).1 q.1).s1
  have q2 := q.2.2
  omega
theorem need_bd {a s n last : Int} (ha : 0 ≤ a ∧ a ≤ 1099511627776) (hs : 0 ≤ s ∧ s ≤ 1099511627776) (h : (needM a s n last).2 = true) : ∃ F : Nat, (needM a s n last).1 = (F : Int) ∧ 1 ≤ F ∧ F ≤ 1099511627777 ∧ (F : Int) ≤ last := by
  unfold needM at h ⊢
  split at h
  · rename_i h1
    rw [if_pos h1]
    exact ⟨(s + 1).toNat, by simp only; omega, by omega, by omega, by omega⟩
  split at h
  · rename_i h1 h2
    rw [if_neg h1, if_pos h2]
    exact ⟨(a + 1).toNat, by simp only; omega, by omega, by omega, by omega⟩
  · cases h
theorem ends_out {f t a : Int} (h : newOk f t a = true) : 0 ≤ a ∧ a ≤ 1099511627776 := by
  simp [newOk, placesB] at h
  omega
/-- What stands behind the switch. -/
structure Sw (w : World) (b bx sb : Nat) (f t : Int) (j : Nat) (k n m : Int) (a s z : Int) (A : Option Addr) (L : List Mr) (c : Nat) (wx : World) : Prop where
  x : XB wx b (outC f t a s z)
  y : XB wx bx (outC f t a s z)
  sx : XB wx sb [.int .i64 k, .int .i64 n, .int .i64 m, .slice A L.length c]
  bel : Below w.heap.size w wx
  a0 : 0 ≤ a ∧ a ≤ 1099511627776
  s0 : 0 ≤ s ∧ s ≤ 1099511627776
  z0 : 0 ≤ z ∧ z ≤ (j : Int) + 1
  row : RowQ (fun i => i ≠ b ∧ i ≠ bx) wx (.slice A L.length c) L
  len : L.length ≤ 400
theorem Sw.below {w : World} {b bx sb : Nat} {f t : Int} {j : Nat} {k n m a s z : Int} {A : Option Addr} {L : List Mr} {c : Nat} {wx W : World} (h : Sw w b bx sb f t j k n m a s z A L c wx) (q : Below wx.heap.size wx W) : Sw w b bx sb f t j k n m a s z A L c W :=
  ⟨h.x.below q, h.y.below q, h.sx.below q, h.bel.trans (q.mono h.bel.size), h.a0, h.s0, h.z0, h.row.below q, h.len⟩
/-- Both sides were written. -/
theorem sw_ab {w : World} {b bx sb : Nat} {f t : Int} {j : Nat} {k n m a s z a' s' z' : Int} {A : Option Addr} {L : List Mr} {c : Nat} {wx V1 V2 : World} (h : Sw w b bx sb f t j k n m a s z A L c wx) (hn : b ≠ bx) (hb : b ≠ sb) (hx : bx ≠ sb) (hwb : w.heap.size ≤ b) (hwx : w.heap.size ≤ bx)
    (p1 : StPost b (outC f t a' s' z') wx V1) (p2 : StPost bx (outC f t a' s' z') V1 V2) (ha : 0 ≤ a' ∧ a' ≤ 1099511627776) (hs : 0 ≤ s' ∧ s' ≤ 1099511627776) (hz : 0 ≤ z' ∧ z' ≤ (j : Int) + 1) : Sw w b bx sb f t j k n m a' s' z' A L c V2 := by
  have h1 := h.bel.trans (p1.only.below hwb h.bel.size)
  exact ⟨p1.xb.only p2.only hn, p2.xb, (h.sx.only p1.only hb.symm).only p2.only hx.symm, h1.trans (p2.only.below hwx h1.size), ha, hs, hz, (h.row.only p1.only (fun q => q.1 rfl)).only p2.only (fun q => q.2 rfl), h.len⟩
theorem sw_ba {w : World} {b bx sb : Nat} {f t : Int} {j : Nat} {k n m a s z a' s' z' : Int} {A : Option Addr} {L : List Mr} {c : Nat} {wx V1 V2 : World} (h : Sw w b bx sb f t j k n m a s z A L c wx) (hn : b ≠ bx) (hb : b ≠ sb) (hx : bx ≠ sb) (hwb : w.heap.size ≤ b) (hwx : w.heap.size ≤ bx)
    (p1 : StPost bx (outC f t a' s' z') wx V1) (p2 : StPost b (outC f t a' s' z') V1 V2) (ha : 0 ≤ a' ∧ a' ≤ 1099511627776) (hs : 0 ≤ s' ∧ s' ≤ 1099511627776) (hz : 0 ≤ z' ∧ z' ≤ (j : Int) + 1) : Sw w b bx sb f t j k n m a' s' z' A L c V2 := by
  have h1 := h.bel.trans (p1.only.below hwx h.bel.size)
  exact ⟨p2.xb, p1.xb.only p2.only hn.symm, (h.sx.only p1.only hx.symm).only p2.only hb.symm, h1.trans (p2.only.below hwb h1.size), ha, hs, hz, (h.row.only p1.only (fun q => q.2 rfl)).only p2.only (fun q => q.1 rfl), h.len⟩
/-- The act's records are others. -/
theorem sw_put {w : World} {b bx sb : Nat} {f t : Int} {j : Nat} {k n m a s z : Int} {A A1 : Option Addr} {L L1 : List Mr} {c c1 kk : Nat} {wx w1 : World} (h : Sw w b bx sb f t j k n m a s z A L c wx) (hb : b ≠ sb) (hx : bx ≠ sb) (hw : w.heap.size ≤ sb) (hT : TL wx w1 (.slice A1 kk c1) kk L1) (hby : ∀ m ∈ L1, isBy m.r.key ∧ isBy m.r.val) (hk : kk ≤ 400) :
    Sw w b bx sb f t j k n m a s z A1 L1 c1 (w1.setCell ⟨sb, 3, none⟩ (.slice A1 kk c1)) := by
  have hl := hT.len
  subst hl
  have hB := h.bel.trans (hT.bel.mono h.bel.size)
  have hO : Only sb w1 (w1.setCell ⟨sb, 3, none⟩ (.slice A1 L1.length c1)) := (Only.refl _ _).setB _
  have hq := (hT.rowQ hby).only hO (fun q => by have := h.sx.lt; omega)
  exact ⟨(h.x.below hT.bel).other (fun e => hb e.symm) _, (h.y.below hT.bel).other (fun e => hx e.symm) _, (h.sx.below hT.bel).set 3 (by simp) _, hB.trans (hO.below hw hB.size), h.a0, h.s0, h.z0, hq.mono (fun i _ hi => ⟨by have := h.x.lt; omega, by have := h.y.lt; omega⟩), hk⟩
theorem ack_sh (f t a s z q : Int) (j : Nat) (ha : 0 ≤ a ∧ a ≤ 1099511627776) (hs : 0 ≤ s ∧ s ≤ 1099511627776) (hz : 0 ≤ z ∧ z ≤ (j : Int) + 1) : ∃ a' s' z', (if ackB a s q = true then outC f t q s 0 else outC f t a s z) = outC f t a' s' z' ∧ (0 ≤ a' ∧ a' ≤ 1099511627776) ∧ (0 ≤ s' ∧ s' ≤ 1099511627776) ∧ (0 ≤ z' ∧ z' ≤ (j : Int) + 1) := by
  cases h : ackB a s q
  · exact ⟨a, s, z, rfl, ha, hs, hz⟩
  · simp [ackB] at h
    exact ⟨q, s, 0, rfl, by omega, hs, by omega⟩
theorem sendC_bd (f a s : Int) (rs : List Rc) : 0 ≤ sendC f a s rs ∧ sendC f a s rs ≤ 12 := by
  unfold sendC
  repeat' split
  all_goals omega
theorem empty_loads18s : (∀ (ad : Addr) (w : World), (loadCellsFrom ad 0 0 #[]).run Tryd.prog w = .ok #[] w) ∧ (∀ (w : World) (p : Addr), (storeCells p []).run Tryd.prog w = .ok () w) := ⟨fun ad w => by simp [loadCellsFrom], fun w p => by simp [storeCells]⟩
set_option maxHeartbeats 1000000 in
theorem no_messages (w : World) : Calls Tryd.prog 36 #[.slice none 0 0, .slice none 0 0] w fun e w' => e = .returned (.bool true) ∧ Below w.heap.size w w' := by
  go_enter Tryd.func36, Tryd.ntmps36
  go_wp2
  refine wp_loop_rounds 1 ?_
  rw [rounds_succ]
  go_wp2
  go_ret
  exact ⟨rfl, Below.refl _ _⟩
set_option maxRecDepth 100000 in
set_option maxHeartbeats 60000000 in
theorem law_sends (f t a : Int) (A : Option Addr) (c : Nat) (S : List Ax) (w : World) (ht : Nib w) (hR : RowG Ax.cs w A S) (hin : ∀ x ∈ S, AxIn w x) (hsz : ∀ x ∈ S, ∀ m ∈ x.L, m.r.val.length ≤ 281474976710656 ∧ m.r.key.length ≤ 281474976710656) :
    Calls Tryd.prog 5 #[.int .i64 f, .int .i64 t, .int .i64 a, .slice A S.length c] w fun e w' => e = .returned (.bool true) ∧ Below w.heap.size w w' := by
  obtain ⟨i0, hi0, hz0, hz1, hz2⟩ := info_parts rec_info
  have HR := Lib.hid hR
  have HIN : Hid (∀ (i : Nat) (x : Ax), S[i]? = some x → AxIn w x ∧ ∀ m ∈ x.L, m.r.val.length ≤ 281474976710656 ∧ m.r.key.length ≤ 281474976710656) := Lib.hid (fun i x hx => ⟨hin x (List.mem_of_getElem? hx), hsz x (List.mem_of_getElem? hx)⟩)
  have HT := Lib.hid (fun (W : World) (q : Below w.heap.size w W) => ht.below q)
  clear hR hin hsz ht
  go_enter Tryd.func5, Tryd.ntmps5
  go_wp2
  go_loopw [9, 10] (fun n i wr => ∃ (j m : Nat), j ≤ S.length ∧ j ≤ 150 ∧ n = .int .i64 m ∧ i = .int .i64 j ∧ m ≤ 21 ∧ Below w.heap.size w wr ∧ Hid (∀ i x, i < j → S[i]? = some x → x.L.length ≤ 400)) (fun _ i _ => S.length - (intOf i).toNat)
  case atStart => exact ⟨0, 0, Nat.zero_le _, by omega, rfl, rfl, by omega, Below.refl _ _, Lib.hid (fun i x h => absurd h (by omega))⟩
  case round =>
    obtain ⟨j, m, hj, hj40, rfl, rfl, hm, hB, HO⟩ := hrel
    have HB := Lib.hid hB
    clear hB
    by_cases hlt : j < S.length
    · have lk : (j : Int) < (S.length : Int) := by omega
      by_cases h40 : j < 150
      · have l40 : (j : Int) < 150 := by omega
        have l40d : decide ((j : Int) < 150) = true := decide_eq_true l40
        have hi1 : ((j : Int).toNat) = j := by simp
        obtain ⟨B, O, rfl, hBl, hcell⟩ := HR.out (by omega)
        have hx : S[j]? = some S[j] := List.getElem?_eq_getElem hlt
        generalize S[j] = x at *
        obtain ⟨hxi, hxs⟩ := HIN.out j x hx
        have hrc : wr.cell? ⟨B, O + j * 4 + 3, none⟩ = some (.slice x.A x.L.length x.c) := by rw [Nat.add_assoc]; exact (HB.out.cell (p := ⟨B, O + (j * 4 + 3), none⟩) hBl).trans (hcell _ _ (fm_at Ax.cs 4 Ax.len hx 3 (by omega)))
        have HH := Lib.hid (law_heavy18 x.v x.L wr (hxi.row.below HB.out) hxs hxi.mx)
        have HX := Lib.hid hx
        have HCC : Hid (∀ W, Below w.heap.size w W → W.cell? ⟨B, O + j * 4 + 3, none⟩ = some (.slice x.A x.L.length x.c)) := Lib.hid (fun W q => by rw [Nat.add_assoc]; exact (q.cell (p := ⟨B, O + (j * 4 + 3), none⟩) hBl).trans (hcell _ _ (fm_at Ax.cs 4 Ax.len hx 3 (by omega))))
        have hmi : (m : Int) ≤ 21 := by omega
        have w1 : IntKind.i64.wrap ((m : Int) + 1) = (m : Int) + 1 := IntWalk.i64_in _ (by omega)
        have w2 : IntKind.i64.wrap ((j : Int) + 1) = (j : Int) + 1 := IntWalk.i64_in _ (by omega)
        clear hxi hxs hx hBl hcell hlt h40
        go_wp2_with fail
        refine HH.out.mono ?_; rintro e w1 ⟨⟨b1, rfl, hb1⟩, q1, hq1⟩
        have k1 : Below wr.heap.size wr w1 := by rw [hq1]; exact below_drewN (Below.refl _ _) q1
        have HB1 := Lib.hid (HB.out.trans (k1.mono HB.out.size))
        clear HH hq1 k1 hrc
        cases b1
        rotate_left
        · clear hb1
          go_wp2_with fail
          refine (known18 w1).mono ?_; rintro e w2 ⟨rfl, k2⟩
          have HB2 := Lib.hid (HB1.out.trans (k2.mono HB1.out.size))
          clear k2
          go_wp2
          go_ret
          exact ⟨rfl, HB2.out⟩
        have HL4 := Lib.hid (hb1 rfl)
        have hrc := HCC.out w1 HB1.out
        clear hb1
        by_cases hg : 20 < m
        · have hg' : (20 : Int) < (m : Int) := by omega
          have hgd : decide ((20 : Int) < (m : Int)) = true := decide_eq_true hg'
          clear hg
          go_wp2_with fail
          refine (known18 w1).mono ?_; rintro e w2 ⟨rfl, k2⟩
          have HB2 := Lib.hid (HB1.out.trans (k2.mono HB1.out.size))
          clear k2
          go_wp2
          go_ret
          exact ⟨rfl, HB2.out⟩
        have hg' : ¬ (20 : Int) < (m : Int) := by omega
        have hgd : decide ((20 : Int) < (m : Int)) = false := decide_eq_false hg'
        have HNX : Hid (∀ i y, i < j + 1 → S[i]? = some y → y.L.length ≤ 400) := Lib.hid (fun i y hi hy => by
          rcases Nat.lt_succ_iff_lt_or_eq.1 hi with h | rfl
          · exact HO.out i y h hy
          · have e := HX.out.symm.trans hy
            injection e with e
            subst e
            exact HL4.out)
        clear HO
        by_cases hp : 0 < x.L.length
        · have hp' : (0 : Int) < (x.L.length : Int) := by omega
          have hpd : decide ((0 : Int) < (x.L.length : Int)) = true := decide_eq_true hp'
          clear hp
          go_wp2_with fail
          go_roundw
          case rel => exact ⟨j + 1, m + 1, by omega, by omega, by go_num, by go_num, by omega, HB1.out, HNX⟩
          case measure => simp [intOf]; omega
        · have hp' : ¬ (0 : Int) < (x.L.length : Int) := by omega
          have hpd : decide ((0 : Int) < (x.L.length : Int)) = false := decide_eq_false hp'
          clear hp
          go_wp2_with fail
          go_roundw
          case rel => exact ⟨j + 1, m, by omega, by omega, by go_num, by go_num, by omega, HB1.out, HNX⟩
          case measure => simp [intOf]; omega
      · have l40 : ¬ (j : Int) < 150 := by omega
        have l40d : decide ((j : Int) < 150) = false := decide_eq_false l40
        have HL4 : Hid (∀ i x, i < S.length → i < 150 → S[i]? = some x → x.L.length ≤ 400) := Lib.hid (fun i x _ h hx => HO.out i x (by omega) hx)
        clear hlt h40 HO
        go_wp2_with fail
        refine (st_new_out f t a wr).mono ?_; rintro e w1 (⟨hk, rfl, k1⟩ | ⟨hk, b, rfl, hb, hxi, k1⟩)
        · have HK := Lib.hid hk
          have HB1 := Lib.hid (HB.out.trans (k1.mono HB.out.size))
          clear k1 hk
          go_wp2_with fail
          refine (ref_new_out f t a w1).mono ?_; rintro e w2 (⟨_, rfl, k2⟩ | ⟨hk2, _⟩)
          rotate_left
          · exact absurd (HK.out.symm.trans hk2) (by decide)
          have HB2 := Lib.hid (HB1.out.trans (k2.mono HB1.out.size))
          clear k2
          go_wp2_with fail
          refine (known18 w2).mono ?_; rintro e w3 ⟨rfl, k3⟩
          have HB3 := Lib.hid (HB2.out.trans (k3.mono HB2.out.size))
          clear k3
          go_wp2
          go_ret
          exact ⟨rfl, HB3.out⟩
        have HK := Lib.hid hk
        have HX1 := Lib.hid hxi
        have hbw : w.heap.size ≤ b := Nat.le_trans HB.out.size hb
        have HB1 := Lib.hid (HB.out.trans (k1.mono HB.out.size))
        clear k1 hk hxi hb HB
        go_wp2_with fail
        refine (ref_new_out f t a w1).mono ?_; rintro e w2 (⟨hk2, _⟩ | ⟨_, bx, rfl, hbx, hxx, k2⟩)
        · exact absurd (HK.out.symm.trans hk2) (by decide)
        have HEP := Lib.hid (ends_out HK.out)
        have HNE : Hid (b ≠ bx ∧ w.heap.size ≤ bx ∧ w.heap.size ≤ b) := Lib.hid ⟨by have := HX1.out.lt; omega, Nat.le_trans HB1.out.size hbx, hbw⟩
        have HX2 := Lib.hid (HX1.out.below k2)
        have HY2 := Lib.hid hxx
        have HB2 := Lib.hid (HB1.out.trans (k2.mono HB1.out.size))
        clear k2 hxx hbx HX1 HB1 lk
        go_wp2
        go_loopw [15] (fun i wr => ∃ (j : Nat) (a s z : Int), j ≤ S.length ∧ j ≤ 150 ∧ i = .int .i64 j ∧ (0 ≤ a ∧ a ≤ 1099511627776) ∧ (0 ≤ s ∧ s ≤ 1099511627776) ∧ (0 ≤ z ∧ z ≤ (j : Int)) ∧ XB wr b (outC f t a s z) ∧ XB wr bx (outC f t a s z) ∧ Below w.heap.size w wr) (fun i _ => S.length - (intOf i).toNat)
        case atStart => exact ⟨0, a, a, 0, Nat.zero_le _, by omega, rfl, HEP.out, HEP.out, ⟨Int.le_refl _, by simp⟩, HX2.out, HY2.out, HB2.out⟩
        case round =>
          obtain ⟨j2, a2, s2, z2, hj2, hj240, rfl, ha2, hs2, hz2, hX, hY, hB⟩ := hrel
          have HX := Lib.hid hX
          have HY := Lib.hid hY
          have HB := Lib.hid hB
          have HA := Lib.hid (And.intro ha2 (And.intro hs2 hz2))
          clear hX hY hB HX2 HY2 HB2 ha2 hs2 hz2
          by_cases hlt : j2 < S.length
          rotate_left
          · have lk : ¬ (j2 : Int) < (S.length : Int) := by omega
            clear hlt
            go_wp2_with fail
            refine (known18 _).mono ?_; rintro e w3 ⟨rfl, k3⟩
            have HB3 := Lib.hid (HB.out.trans (k3.mono HB.out.size))
            clear k3
            go_wp2
            go_ret
            exact ⟨rfl, HB3.out⟩
          have lk : (j2 : Int) < (S.length : Int) := by omega
          by_cases h40 : j2 < 150
          rotate_left
          · have l40 : ¬ (j2 : Int) < 150 := by omega
            have l40d : decide ((j2 : Int) < 150) = false := decide_eq_false l40
            clear hlt h40
            go_wp2_with fail
            refine (known18 _).mono ?_; rintro e w3 ⟨rfl, k3⟩
            have HB3 := Lib.hid (HB.out.trans (k3.mono HB.out.size))
            clear k3
            go_wp2
            go_ret
            exact ⟨rfl, HB3.out⟩
          have l40 : (j2 : Int) < 150 := by omega
          have l40d : decide ((j2 : Int) < 150) = true := decide_eq_true l40
          have hi1 : ((j2 : Int).toNat) = j2 := by simp
          obtain ⟨B, O, rfl, hBl, hcell⟩ := HR.out (by omega)
          have hx : S[j2]? = some S[j2] := List.getElem?_eq_getElem hlt
          have HL := Lib.hid (HL4.out j2 _ hlt h40 hx)
          generalize S[j2] = x at *
          have HXI := Lib.hid (HIN.out j2 _ hx).1
          have r0 : wr.cell? ⟨B, O + j2 * 4, none⟩ = some (.int .i64 x.k) := (HB.out.cell (p := ⟨B, O + (j2 * 4 + 0), none⟩) hBl).trans (hcell (j2 * 4 + 0) _ (fm_at Ax.cs 4 Ax.len hx 0 (by omega)))
          have r1 : wr.cell? ⟨B, O + j2 * 4 + 1, none⟩ = some (.int .i64 x.n) := by rw [Nat.add_assoc]; exact (HB.out.cell (p := ⟨B, O + (j2 * 4 + 1), none⟩) hBl).trans (hcell _ _ (fm_at Ax.cs 4 Ax.len hx 1 (by omega)))
          have r2 : wr.cell? ⟨B, O + j2 * 4 + 2, none⟩ = some (.int .i64 x.m) := by rw [Nat.add_assoc]; exact (HB.out.cell (p := ⟨B, O + (j2 * 4 + 2), none⟩) hBl).trans (hcell _ _ (fm_at Ax.cs 4 Ax.len hx 2 (by omega)))
          have r3 : wr.cell? ⟨B, O + j2 * 4 + 3, none⟩ = some (.slice x.A x.L.length x.c) := by rw [Nat.add_assoc]; exact (HB.out.cell (p := ⟨B, O + (j2 * 4 + 3), none⟩) hBl).trans (hcell _ _ (fm_at Ax.cs 4 Ax.len hx 3 (by omega)))
          obtain ⟨k, n, m2, xA, xL, xc⟩ := x
          clear hx hcell hBl
          simp only at r0 r1 r2 r3
          go_upto_block 4 with fail
          obtain ⟨W1, hW1⟩ : ∃ W1, wr.alloc (.cells #[.int .i64 k, .int .i64 n, .int .i64 m2, .slice xA xL.length xc] 48) = W1 := ⟨_, rfl⟩
          have kal : Below wr.heap.size wr W1 := by rw [← hW1]; (repeat' (first | (with_reducible exact Below.refl _ _) | (with_reducible assumption) | (with_reducible refine Below.trans ?_ (Below.mono (by with_reducible assumption) ?_)) | (with_reducible refine Below.alloc ?_ ?_ _) | (with_reducible refine Below.setCell ?_ ?_ _) | (with_reducible refine below_drewN ?_ _) | (with_reducible refine Below.drew ?_) | go_size))
          have hS1 : XB W1 wr.heap.size [.int .i64 k, .int .i64 n, .int .i64 m2, .slice xA xL.length xc] := by rw [← hW1]; exact XB.new wr #[.int .i64 k, .int .i64 n, .int .i64 m2, .slice xA xL.length xc] _
          have HNS : Hid (b ≠ wr.heap.size ∧ bx ≠ wr.heap.size ∧ w.heap.size ≤ wr.heap.size) := Lib.hid ⟨by have := HX.out.lt; omega, by have := HY.out.lt; omega, HB.out.size⟩
          have hB1 := HB.out.trans (kal.mono HB.out.size)
          have SW0 : Hid (Sw w b bx wr.heap.size f t j2 k n m2 a2 s2 z2 xA xL xc W1) := Lib.hid ⟨HX.out.below kal, HY.out.below kal, hS1, hB1, HA.out.1, HA.out.2.1, ⟨HA.out.2.2.1, by have := HA.out.2.2.2; omega⟩, (HXI.out.q.below hB1).mono (fun i _ hq => ⟨by have := HNE.out.2.2; omega, by have := HNE.out.2.1; omega⟩), HL.out⟩
          have HN64 := Lib.hid HXI.out.i
          rw [hW1]
          clear hW1 kal hS1 hB1 r0 r1 r2 r3 HX HY HB HXI HL
          obtain ⟨sb, hsb⟩ : ∃ sb, wr.heap.size = sb := ⟨_, rfl⟩
          rw [hsb] at SW0 HNS
          rw [hsb]
          clear hsb
          go_cut [17] (fun ok wx => ok = .bool true ∧ ∃ (a s z : Int) (A' : Option Addr) (L' : List Mr) (c' : Nat), Sw w b bx sb f t j2 k n m2 a s z A' L' c' wx)
          case first =>
            by_cases h1 : k = 1
            · have hk := h1
              clear h1
              as_aux_lemma =>
                subst hk
                have c0 := SW0.out.sx.c 0 _ rfl
                have c1 := SW0.out.sx.c 1 _ rfl
                have c2 := SW0.out.sx.c 2 _ rfl
                have lt := SW0.out.sx.lt
                obtain ⟨C, hC⟩ : ∃ C, (needM a2 s2 z2 n).1 = C := ⟨_, rfl⟩
                obtain ⟨D, hD⟩ : ∃ D, (needM a2 s2 z2 n).2 = D := ⟨_, rfl⟩
                have HNA := Lib.hid (st_need b f t a2 s2 z2 n W1 SW0.out.x ⟨SW0.out.a0.1, by have := SW0.out.a0.2; omega⟩ ⟨SW0.out.s0.1, by have := SW0.out.s0.2; omega⟩)
                have HNB := Lib.hid (ref_need bx f t a2 s2 z2 n W1 SW0.out.y ⟨SW0.out.a0.1, by have := SW0.out.a0.2; omega⟩ ⟨SW0.out.s0.1, by have := SW0.out.s0.2; omega⟩)
                have HND : Hid (D = true → ∃ F : Nat, C = (F : Int) ∧ 1 ≤ F ∧ F ≤ 1099511627777 ∧ (F : Int) ≤ n) := Lib.hid (fun h => by rw [← hC]; exact need_bd SW0.out.a0 SW0.out.s0 (by rw [hD]; exact h))
                rw [hC, hD] at HNA HNB
                clear hC hD
                go_wp2_with fail
                refine HNA.out.mono ?_; rintro e w1 ⟨rfl, hw1⟩
                subst hw1
                go_wp2_with fail
                refine HNB.out.mono ?_; rintro e w1 ⟨rfl, hw1⟩
                subst hw1
                clear HNA HNB
                go_wp2_with fail
                go_meet
                exact ⟨rfl, _, _, _, _, _, _, SW0.out⟩
            by_cases h2 : k = 2
            · have hk := h2
              clear h1 h2
              as_aux_lemma =>
                subst hk
                have c0 := SW0.out.sx.c 0 _ rfl
                have c1 := SW0.out.sx.c 1 _ rfl
                have c2 := SW0.out.sx.c 2 _ rfl
                have lt := SW0.out.sx.lt
                obtain ⟨F, hF⟩ : ∃ F : Nat, max 0 (min n 1099511627776) = (F : Int) := ⟨(max 0 (min n 1099511627776)).toNat, by omega⟩
                have hF1 : F ≤ 1099511627777 := by omega
                obtain ⟨mm, hm8, hmm⟩ := bits_15 m2
                have HSM : Hid (∀ W, Calls Tryd.prog 29 #[.int .i64 f, .int .i64 (max 0 (min n 1099511627776)), .int .i64 (bits .and .i64 m2 15)] W fun e w' => SomeRes f F mm W w' e) := Lib.hid (fun W => by rw [hF, hmm]; exact law_some f F mm W hF1 (by omega))
                clear hF hmm hF1
                go_wp2_with fail
                refine (HSM.out _).mono ?_; rintro e w1 ⟨v1, L1, rfl, hT, hR1⟩
                obtain ⟨A1, cc1, rfl⟩ := hT.shape
                have HSW := Lib.hid (sw_put SW0.out HNS.out.1 HNS.out.2.1 HNS.out.2.2 hT (some_by hR1) (by omega))
                have hs1 := SW0.out.sx.below hT.bel
                have f3 := hs1.fz 3
                have e3 := hs1.c 3 _ rfl
                have e0 := hs1.c 0 _ rfl
                clear c0 c1 c2 lt
                have lt := hs1.lt
                clear hT hR1 hs1 HSM
                go_wp2_with fail
                go_meet
                exact ⟨rfl, _, _, _, _, _, _, HSW.out⟩
            by_cases h3 : k = 3
            · have hk := h3
              clear h1 h2 h3
              as_aux_lemma =>
                subst hk
                have c0 := SW0.out.sx.c 0 _ rfl
                have c1 := SW0.out.sx.c 1 _ rfl
                have c2 := SW0.out.sx.c 2 _ rfl
                have lt := SW0.out.sx.lt
                obtain ⟨a3, s3, z3, h3, ha3, hs3, hz3⟩ := ack_sh f t a2 s2 z2 n j2 SW0.out.a0 SW0.out.s0 SW0.out.z0
                obtain ⟨bb, hbb⟩ : ∃ bb, ackB a2 s2 n = bb := ⟨_, rfl⟩
                have HKA : Hid (∀ W, XB W b (outC f t a2 s2 z2) → Calls Tryd.prog 30 #[.pointer (some ⟨b, 0, none⟩), .int .i64 n] W fun e w' => e = .returned (.bool bb) ∧ StPost b (outC f t a3 s3 z3) W w') := Lib.hid (fun W h => by have q := st_ack b f t a2 s2 z2 n W h; rw [h3, hbb] at q; exact q)
                have HKB : Hid (∀ W, XB W bx (outC f t a2 s2 z2) → Calls Tryd.prog 31 #[.pointer (some ⟨bx, 0, none⟩), .int .i64 n] W fun e w' => e = .returned (.bool bb) ∧ StPost bx (outC f t a3 s3 z3) W w') := Lib.hid (fun W h => by have q := ref_ack bx f t a2 s2 z2 n W h; rw [h3, hbb] at q; exact q)
                have HBD := Lib.hid (And.intro ha3 (And.intro hs3 hz3))
                clear h3 hbb ha3 hs3 hz3
                go_upto_region 31 with fail
                have kd : Below W1.heap.size W1 W1.drew := (Below.refl _ _).drew
                have SW1 : Hid (Sw w b bx sb f t j2 3 n m2 a2 s2 z2 xA xL xc W1.drew) := Lib.hid (SW0.out.below kd)
                refine wp_region_held_drew (S := fun w' => w'.cell? ⟨sb, 1, none⟩ = some (.int .i64 n)) (by kernel_rfl) c1 (fun hHeld => ?_)
                clear kd SW0 c0 c1 c2 lt
                generalize W1.drew = V at *
                refine wpAnyH_take (i := 0) (v := ?_) rfl (by kernel_rfl) (by kernel_rfl) (by kernel_rfl) (fun _ _ _ h => h) (Or.inl ⟨by rfl, ?_⟩) (by assumption) ?_
                rotate_left
                · intro w' hSw; (try dsimp only at hSw); go_simp; (try with_reducible rfl)
                (try simp only [Act.put, List.setIfInBounds_toArray, List.set_cons_zero, List.set_cons_succ, List.getElem_toArray, List.getElem_cons_succ, List.getElem_cons_zero])
                refine wpAnyH_take (i := 1) (v := ?_) rfl (by kernel_rfl) (by kernel_rfl) (by kernel_rfl) (fun _ _ _ h => h) (Or.inl ⟨by rfl, ?_⟩) (by assumption) ?_
                rotate_left
                · intro w' hSw; (try dsimp only at hSw); go_simp; (try with_reducible rfl)
                (try simp only [Act.put, List.setIfInBounds_toArray, List.set_cons_zero, List.set_cons_succ, List.getElem_toArray, List.getElem_cons_succ, List.getElem_cons_zero])
                refine wpAnyH_take (i := 2) (v := ?_) rfl (by kernel_rfl) (by kernel_rfl) (by kernel_rfl) (fun _ _ _ h => h) (Or.inl ⟨by rfl, ?_⟩) (by assumption) ?_
                rotate_left
                · intro w' hSw; (try dsimp only at hSw); go_simp; (try with_reducible rfl)
                (try simp only [Act.put, List.setIfInBounds_toArray, List.set_cons_zero, List.set_cons_succ, List.getElem_toArray, List.getElem_cons_succ, List.getElem_cons_zero])
                refine wpAnyH_take (i := 4) (v := ?_) rfl (by kernel_rfl) (by kernel_rfl) (by kernel_rfl) (fun _ _ _ h => h) (Or.inl ⟨by rfl, ?_⟩) (by assumption) ?_
                rotate_left
                · intro w' hSw; (try dsimp only at hSw); go_simp; (try with_reducible rfl)
                (try simp only [Act.put, List.setIfInBounds_toArray, List.set_cons_zero, List.set_cons_succ, List.getElem_toArray, List.getElem_cons_succ, List.getElem_cons_zero])
                refine wpAnyH_take (i := 5) (v := ?_) rfl (by kernel_rfl) (by kernel_rfl) (by kernel_rfl) (fun _ _ _ h => h) (Or.inl ⟨by rfl, ?_⟩) (by assumption) ?_
                rotate_left
                · intro w' hSw; (try dsimp only at hSw); go_simp; (try with_reducible rfl)
                (try simp only [Act.put, List.setIfInBounds_toArray, List.set_cons_zero, List.set_cons_succ, List.getElem_toArray, List.getElem_cons_succ, List.getElem_cons_zero])
                refine wpAnyH_take (i := 6) (v := ?_) rfl (by kernel_rfl) (by kernel_rfl) (by kernel_rfl) (fun _ _ _ h => h) (Or.inl ⟨by rfl, ?_⟩) (by assumption) ?_
                rotate_left
                · intro w' hSw; (try dsimp only at hSw); go_simp; (try with_reducible rfl)
                (try simp only [Act.put, List.setIfInBounds_toArray, List.set_cons_zero, List.set_cons_succ, List.getElem_toArray, List.getElem_cons_succ, List.getElem_cons_zero])
                refine wpAnyH_ready (rs := [3]) (by kernel_rfl) (by simp) ?_
                refine AllReadyH.cons rfl (fun K hK => ?_) (AllReadyH.nil)
                go_simp
                go_at_call 30
                refine (HKA.out _ SW1.out.x).mono ?_; rintro e V1 ⟨rfl, hp1⟩
                have HP1 := Lib.hid hp1
                clear hp1
                (try dsimp only)
                refine hK.out _ _ ?_ (fun hHeld => ?_)
                · exact (HP1.out.only.cell sb 1 SW1.out.sx.lt HNS.out.1.symm).trans (SW1.out.sx.c 1 _ rfl)
                clear hK K
                (try simp only [Act.put, List.setIfInBounds_toArray, List.set_cons_zero, List.set_cons_succ, List.getElem_toArray, List.getElem_cons_succ, List.getElem_cons_zero])
                refine wpAnyH_ready (rs := [7]) (by kernel_rfl) (by simp) ?_
                refine AllReadyH.cons rfl (fun K hK => ?_) (AllReadyH.nil)
                go_simp
                go_at_call 31
                refine (HKB.out _ (SW1.out.y.only HP1.out.only HNE.out.1.symm)).mono ?_; rintro e V2 ⟨rfl, hp2⟩
                have HP2 := Lib.hid hp2
                clear hp2
                have HSW := Lib.hid (sw_ab SW1.out HNE.out.1 HNS.out.1 HNS.out.2.1 HNE.out.2.2 HNE.out.2.1 HP1.out HP2.out HBD.out.1 HBD.out.2.1 HBD.out.2.2)
                (try dsimp only)
                refine hK.out _ _ ?_ (fun hHeld => ?_)
                · exact HSW.out.sx.c 1 _ rfl
                clear hK K
                (try simp only [Act.put, List.setIfInBounds_toArray, List.set_cons_zero, List.set_cons_succ, List.getElem_toArray, List.getElem_cons_succ, List.getElem_cons_zero])
                refine wpAnyH_take (i := 8) (v := ?_) rfl (by kernel_rfl) (by kernel_rfl) (by kernel_rfl) (fun _ _ _ h => h) (Or.inl ⟨by rfl, ?_⟩) (by assumption) ?_
                rotate_left
                · intro w' hSw; (try dsimp only at hSw); go_simp; (try with_reducible rfl)
                (try simp only [Act.put, List.setIfInBounds_toArray, List.set_cons_zero, List.set_cons_succ, List.getElem_toArray, List.getElem_cons_succ, List.getElem_cons_zero])
                refine wpAnyH_take (i := 9) (v := ?_) rfl (by kernel_rfl) (by kernel_rfl) (by kernel_rfl) (fun _ _ _ h => h) (Or.inl ⟨by rfl, ?_⟩) (by assumption) ?_
                rotate_left
                · intro w' hSw; (try dsimp only at hSw); go_simp; (try with_reducible rfl)
                (try simp only [Act.put, List.setIfInBounds_toArray, List.set_cons_zero, List.set_cons_succ, List.getElem_toArray, List.getElem_cons_succ, List.getElem_cons_zero])
                refine wpAnyH_done (by kernel_rfl) ?_ _
                have c0 := HSW.out.sx.c 0 _ rfl
                have lt := HSW.out.sx.lt
                have hbq : (bb == bb) = true := by cases bb <;> rfl
                go_wp2_with fail
                go_meet
                exact ⟨by first | rfl | simp, _, _, _, _, _, _, HSW.out⟩
            by_cases h4 : k = 4
            · have hk := h4
              clear h1 h2 h3 h4
              as_aux_lemma =>
                subst hk
                have c0 := SW0.out.sx.c 0 _ rfl
                have c1 := SW0.out.sx.c 1 _ rfl
                have c2 := SW0.out.sx.c 2 _ rfl
                have lt := SW0.out.sx.lt
                have hz9 : 0 ≤ z2 ∧ z2 ≤ 4611686018427387904 := ⟨SW0.out.z0.1, by have := SW0.out.z0.2; omega⟩
                have HTA := Lib.hid (st_tick b f t a2 s2 z2 W1 SW0.out.x hz9)
                have HTB : Hid (∀ W, XB W bx (outC f t a2 s2 z2) → Calls Tryd.prog 33 #[.pointer (some ⟨bx, 0, none⟩)] W fun e w' => e = .returned (.tuple #[]) ∧ StPost bx (outC f t a2 s2 (tickM a2 s2 z2)) W w') := Lib.hid (fun W h => ref_tick bx f t a2 s2 z2 W h hz9)
                have HTZ : Hid (0 ≤ tickM a2 s2 z2 ∧ tickM a2 s2 z2 ≤ (j2 : Int) + 1) := Lib.hid (by
                  have h1 := HA.out.2.2
                  unfold tickM
                  split <;> omega)
                go_wp2_with fail
                refine HTA.out.mono ?_; rintro e V1 ⟨rfl, hp1⟩
                have HP1 := Lib.hid hp1
                clear hp1
                go_wp2_with fail
                refine (HTB.out _ (SW0.out.y.only HP1.out.only HNE.out.1.symm)).mono ?_; rintro e V2 ⟨rfl, hp2⟩
                have HSW := Lib.hid (sw_ab SW0.out HNE.out.1 HNS.out.1 HNS.out.2.1 HNE.out.2.2 HNE.out.2.1 HP1.out hp2 SW0.out.a0 SW0.out.s0 HTZ.out)
                clear hp2 c0 c1 c2 lt
                go_wp2_with fail
                go_meet
                exact ⟨rfl, _, _, _, _, _, _, HSW.out⟩
            by_cases h6 : k = 6
            · have hk := h6
              clear h1 h2 h3 h4 h6
              as_aux_lemma =>
                subst hk
                have c0 := SW0.out.sx.c 0 _ rfl
                have c1 := SW0.out.sx.c 1 _ rfl
                have c2 := SW0.out.sx.c 2 _ rfl
                have lt := SW0.out.sx.lt
                obtain ⟨C, hC⟩ : ∃ C, (needM a2 s2 z2 n).1 = C := ⟨_, rfl⟩
                obtain ⟨D, hD⟩ : ∃ D, (needM a2 s2 z2 n).2 = D := ⟨_, rfl⟩
                have HNA := Lib.hid (st_need b f t a2 s2 z2 n W1 SW0.out.x ⟨SW0.out.a0.1, by have := SW0.out.a0.2; omega⟩ ⟨SW0.out.s0.1, by have := SW0.out.s0.2; omega⟩)
                have HNB := Lib.hid (ref_need bx f t a2 s2 z2 n W1 SW0.out.y ⟨SW0.out.a0.1, by have := SW0.out.a0.2; omega⟩ ⟨SW0.out.s0.1, by have := SW0.out.s0.2; omega⟩)
                have HND : Hid (D = true → ∃ F : Nat, C = (F : Int) ∧ 1 ≤ F ∧ F ≤ 1099511627777 ∧ (F : Int) ≤ n) := Lib.hid (fun h => by rw [← hC]; exact need_bd SW0.out.a0 SW0.out.s0 (by rw [hD]; exact h))
                rw [hC, hD] at HNA HNB
                clear hC hD
                go_wp2_with fail
                refine HNA.out.mono ?_; rintro e w1 ⟨rfl, hw1⟩
                subst hw1
                go_wp2_with fail
                refine HNB.out.mono ?_; rintro e w1 ⟨rfl, hw1⟩
                subst hw1
                clear HNA HNB
                cases D
                · clear HND
                  go_wp2_with fail
                  go_meet
                  exact ⟨rfl, _, _, _, _, _, _, SW0.out⟩
                obtain ⟨F, rfl, hF0, hF1, hF2⟩ := HND.out rfl
                have hn2 := HN64.out.2
                have u1 : IntKind.i64.wrap (n - (F : Int)) = n - (F : Int) := IntWalk.i64_in _ (by omega)
                have u2 : IntKind.i64.wrap (n - (F : Int) + 1) = n - (F : Int) + 1 := IntWalk.i64_in _ (by omega)
                obtain ⟨mm, hmm⟩ : ∃ mm : Nat, min 8 (n - (F : Int) + 1) = (mm : Int) := ⟨(min 8 (n - (F : Int) + 1)).toNat, by omega⟩
                have hm8 : mm ≤ 8 := by omega
                have HSM : Hid (∀ W, Calls Tryd.prog 29 #[.int .i64 f, .int .i64 (F : Int), .int .i64 (min 8 (n - (F : Int) + 1))] W fun e w' => SomeRes f F mm W w' e) := Lib.hid (fun W => by rw [hmm]; exact law_some f F mm W hF1 (by omega))
                clear HND hmm hn2 hF0 hF1 hF2
                go_wp2_with fail
                refine (HSM.out _).mono ?_; rintro e w1 ⟨v1, L1, rfl, hT, hR1⟩
                obtain ⟨A1, cc1, rfl⟩ := hT.shape
                have HSW := Lib.hid (sw_put SW0.out HNS.out.1 HNS.out.2.1 HNS.out.2.2 hT (some_by hR1) (by omega))
                have hs1 := SW0.out.sx.below hT.bel
                have f3 := hs1.fz 3
                have e3 := hs1.c 3 _ rfl
                have e0 := hs1.c 0 _ rfl
                clear c0 c1 c2 lt
                have lt := hs1.lt
                clear hT hR1 hs1 HSM
                go_wp2_with fail
                go_meet
                exact ⟨rfl, _, _, _, _, _, _, HSW.out⟩
            as_aux_lemma =>
              have c0 := SW0.out.sx.c 0 _ rfl
              have c1 := SW0.out.sx.c 1 _ rfl
              have c2 := SW0.out.sx.c 2 _ rfl
              have lt := SW0.out.sx.lt
              have t1 : (k == 1) = false := by simpa using h1
              have t2 : (k == 2) = false := by simpa using h2
              have t3 : (k == 3) = false := by simpa using h3
              have t4 : (k == 4) = false := by simpa using h4
              have t6 : (k == 6) = false := by simpa using h6
              go_wp2_with fail
              go_meet
              exact ⟨rfl, _, _, _, _, _, _, SW0.out⟩
          case rest =>
          obtain ⟨rfl, a3, s3, z3, A3, L3, c3, hSw⟩ := hcut
          have HW := Lib.hid hSw
          clear hSw SW0 HA
          generalize wc = W3 at *
          have c0 := HW.out.sx.c 0 _ rfl
          have cc3 := HW.out.sx.c 3 _ rfl
          have lt := HW.out.sx.lt
          obtain ⟨sd, hsd⟩ : ∃ sd, sd = ((k == 2 || k == 5) || (k == 6 && decide (0 < (L3.length : Int)))) := ⟨_, rfl⟩
          go_upto_region 35 with fail
          go_cut [187] (fun v wx => v = .bool sd ∧ wx = W3)
          case first =>
            as_aux_lemma =>
            by_cases h2 : k = 2
            · subst h2
              have e : sd = true := by rw [hsd]; rfl
              subst e
              clear hsd
              go_wp2_with fail
              go_meet
              exact ⟨rfl, rfl⟩
            have t2 : (k == 2) = false := by simpa using h2
            by_cases h5 : k = 5
            · subst h5
              have e : sd = true := by rw [hsd]; rfl
              subst e
              clear hsd
              go_wp2_with fail
              go_meet
              exact ⟨rfl, rfl⟩
            have t5 : (k == 5) = false := by simpa using h5
            by_cases h6 : k = 6
            · subst h6
              by_cases hp : (0 : Int) < (L3.length : Int)
              · have tp : decide ((0 : Int) < (L3.length : Int)) = true := decide_eq_true hp
                have e : sd = true := by rw [hsd, tp]; rfl
                subst e
                clear hsd t2 t5 h2 h5
                go_wp2_with fail
                go_meet
                exact ⟨by first | rfl | rw [decide_eq_true (show 0 < L3.length by omega)], rfl⟩
              · have tp : decide ((0 : Int) < (L3.length : Int)) = false := decide_eq_false hp
                have e : sd = false := by rw [hsd, tp]; rfl
                subst e
                clear hsd t2 t5 h2 h5
                go_wp2_with fail
                go_meet
                exact ⟨by first | rfl | rw [decide_eq_false (show ¬ 0 < L3.length by omega)], rfl⟩
            have t6 : (k == 6) = false := by simpa using h6
            have e : sd = false := by rw [hsd, t2, t5, t6]; rfl
            subst e
            clear hsd
            go_wp2_with fail
            go_meet
            exact ⟨rfl, rfl⟩
          case rest =>
          obtain ⟨rfl, rfl⟩ := hcut
          generalize wc = W3 at *
          clear hsd
          go_upto_if 187 with fail
          go_cut [17] (fun ok wx => ok = .bool true ∧ ∃ (s z : Int), (0 ≤ s ∧ s ≤ 1099511627776) ∧ (0 ≤ z ∧ z ≤ (j2 : Int) + 1) ∧ XB wx b (outC f t a3 s z) ∧ XB wx bx (outC f t a3 s z) ∧ Below w.heap.size w wx)
          case first =>
            cases hss : sd with
            | false =>
              subst hss
              go_wp2_with fail
              go_meet
              exact ⟨rfl, s3, z3, HW.out.s0, HW.out.z0, HW.out.x, HW.out.y, HW.out.bel⟩
            | true =>
              subst hss
              have HBX : Hid (Below W3.heap.size W3 (W3.alloc (.cells #[] 89))) := Lib.hid (by (repeat' (first | (with_reducible exact Below.refl _ _) | (with_reducible assumption) | (with_reducible refine Below.trans ?_ (Below.mono (by with_reducible assumption) ?_)) | (with_reducible refine Below.alloc ?_ ?_ _) | (with_reducible refine Below.setCell ?_ ?_ _) | (with_reducible refine below_drewN ?_ _) | (with_reducible refine Below.drew ?_) | go_size)))
              have hrc := (HW.out.sx.below HBX.out).c 3 _ rfl
              have hmade := World.ownsRow_made (base := w.heap.size) (e := 89) (size := 9) W3 #[] 0 HW.out.bel.size (Nat.zero_le _) rfl
              have hbz := HW.out.bel.size
              have hl4 := HW.out.len
              by_cases hp0 : 0 < L3.length
              · as_aux_lemma =>
                  obtain ⟨A', cA, he', hc⟩ := HW.out.row.row.ex
                  have he2 : (Value.slice A3 L3.length c3) = .slice A' L3.length cA := he'
                  obtain ⟨rfl, rfl⟩ : A3 = A' ∧ c3 = cA := by injection he2 with q1 q2 q3; exact ⟨q1, q3⟩
                  obtain ⟨Bx, Ox, rfl, hBx, hcx⟩ := hc hp0
                  have HBq : Hid (Bx ≠ b ∧ Bx ≠ bx) := Lib.hid (HW.out.row.ab hp0 _ _ _ rfl _ rfl)
                  have hsrc : ∀ j u, (rowM L3)[j]? = some u → (W3.alloc (.cells #[] 89)).cell? ((⟨Bx, Ox, none⟩ : Addr).add j) = some u := fun j u hu => by
                    rw [at_add]
                    exact (HBX.out.cell (p := ⟨Bx, Ox + j, none⟩) hBx).trans (hcx j u hu)
                  clear hcx hc he' he2 hBx
                  go_wp2_with (at_builtin; refine wpList_append_lies _ rfl (.tmp 190) (.tmp 192) _ rfl w.heap.size 89 i0 _ 9 96 Tryd.underlying24 hi0 hz0 hz1 hz2 rfl (by decide) (.slice (some ⟨W3.heap.size, 0, none⟩) 0 0) 0 [] rfl hmade ⟨Bx, Ox, none⟩ L3.length c3 (rowM L3) rfl (rowM_len L3) hsrc (rowM_one1 L3) (by omega) (by unfold maxLen; omega) (by omega) (by simp; omega) _ rfl ?_; intro g cap w3 hown0 hg2 hat2 hlt2)
                  have HR3 : Hid (RowAt w3 (.slice (some ⟨g, 0, none⟩) L3.length cap) L3) := Lib.hid (RowAt.of (base := w.heap.size) (by simpa using hown0))
                  have HK3 : Hid (Below W3.heap.size W3 w3) := Lib.hid (HBX.out.grown hg2 HBX.out.size (fun k hk => by simp [Value.ownBlock] at hk; omega))
                  clear hown0 hg2 hat2 hlt2 hmade hsrc hrc
                  have HQ3 := Lib.hid (HW.out.row.below HK3.out)
                  have HB4 := Lib.hid (HW.out.bel.trans (HK3.out.mono HW.out.bel.size))
                  have HX4 := Lib.hid (HW.out.x.below HK3.out)
                  have HY4 := Lib.hid (HW.out.y.below HK3.out)
                  have HS4 := Lib.hid (HW.out.sx.below HK3.out)
                  have HTK : Hid (Calls Tryd.prog 34 #[.pointer (some ⟨b, 0, none⟩), .slice (some ⟨g, 0, none⟩) L3.length cap] w3 fun e w' => SendRes b f t a3 s3 z3 (L3.map Mr.r) w3 w' e) := Lib.hid (st_send b f t a3 s3 z3 g 0 cap L3 w3 HX4.out HR3.out (fun m hm => (HQ3.out.at_ m hm).mono (fun _ _ _ => trivial)) HQ3.out.by_ hp0 (by omega) ⟨HW.out.a0.1, by have := HW.out.a0.2; omega⟩ ⟨HW.out.s0.1, by have := HW.out.s0.2; omega⟩ (HT.out _ HB4.out))
                  have HTR : Hid (∀ W, XB W bx (outC f t a3 s3 z3) → RowQ (fun i => i ≠ b ∧ i ≠ bx) W (.slice (some ⟨Bx, Ox, none⟩) L3.length c3) L3 → Calls Tryd.prog 35 #[.pointer (some ⟨bx, 0, none⟩), .slice (some ⟨Bx, Ox, none⟩) L3.length c3] W fun e w' => SendRes bx f t a3 s3 z3 (L3.map Mr.r) W w' e) := Lib.hid (fun W q1 q2 => ref_send bx f t a3 s3 z3 Bx Ox c3 L3 W q1 q2.row (fun m hm => (q2.at_ m hm).mono (fun _ _ hq => hq.2)) q2.by_ hp0 (by omega) HBq.out.2 ⟨HW.out.a0.1, by have := HW.out.a0.2; omega⟩ ⟨HW.out.s0.1, by have := HW.out.s0.2; omega⟩)
                  have HSC : Hid (sendC f a3 s3 (L3.map Mr.r) = 0 → 0 ≤ max s3 (fstS (L3.map Mr.r) + ((L3.map Mr.r).length : Int) - 1) ∧ max s3 (fstS (L3.map Mr.r) + ((L3.map Mr.r).length : Int) - 1) ≤ 1099511627776) := Lib.hid (fun h => by have h1 := send_bd h; have h2 := HW.out.s0; omega)
                  obtain ⟨sc, hsc⟩ : ∃ sc, sendC f a3 s3 (L3.map Mr.r) = sc := ⟨_, rfl⟩
                  have hsq : (sc == sc) = true := by simp
                  have hsw : IntKind.i64.wrap sc = sc := IntWalk.i64_in _ (by have := sendC_bd f a3 s3 (L3.map Mr.r); omega)
                  have HSQ := Lib.hid hsc
                  clear HR3 hsc c0 cc3 lt HK3
                  refine HTK.out.mono ?_; rintro e w4 (⟨hne, rfl, k4⟩ | ⟨h0, v4, rfl, hM4, hP4⟩)
                  · as_aux_lemma =>
                    have HB5 := Lib.hid (HB4.out.trans (k4.mono HB4.out.size))
                    have HX5 := Lib.hid (HX4.out.below k4)
                    have HY5 := Lib.hid (HY4.out.below k4)
                    have HS5 := Lib.hid (HS4.out.below k4)
                    have HQ5 := Lib.hid (HQ3.out.below k4)
                    have hrc := HS5.out.c 3 _ rfl
                    have lt := HS5.out.lt
                    rw [HSQ.out] at hne ⊢
                    have HNE0 := Lib.hid hne
                    clear k4 HTK hne
                    go_wp2_with fail
                    refine (HTR.out _ HY5.out HQ5.out).mono ?_; rintro e w5 (⟨hne, rfl, k5⟩ | ⟨h0, _⟩)
                    rotate_left
                    · exact absurd (HSQ.out.symm.trans h0) HNE0.out
                    have HB6 := Lib.hid (HB5.out.trans (k5.mono HB5.out.size))
                    have HX6 := Lib.hid (HX5.out.below k5)
                    have HY6 := Lib.hid (HY5.out.below k5)
                    rw [HSQ.out]
                    clear k5 hne hrc lt HTR
                    go_wp2_with fail
                    refine (no_messages _).mono ?_; rintro e w6 ⟨rfl, k6⟩
                    have HB7 := Lib.hid (HB6.out.trans (k6.mono HB6.out.size))
                    have HX7 := Lib.hid (HX6.out.below k6)
                    have HY7 := Lib.hid (HY6.out.below k6)
                    clear k6
                    go_wp2_with fail
                    go_meet
                    exact ⟨by first | rfl | simp, s3, z3, HW.out.s0, HW.out.z0, HX7.out, HY7.out, HB7.out⟩
                  · as_aux_lemma =>
                    obtain ⟨z5, hz5⟩ : ∃ z5, max s3 (fstS (L3.map Mr.r) + ((L3.map Mr.r).length : Int) - 1) = z5 := ⟨_, rfl⟩
                    rw [hz5] at hP4
                    have HZ5 := Lib.hid hz5
                    have HZB : Hid (0 ≤ z5 ∧ z5 ≤ 1099511627776) := Lib.hid (by have := HSC.out h0; rw [hz5] at this; exact this)
                    have HP4 := Lib.hid hP4
                    have HM4 := Lib.hid hM4
                    obtain ⟨BA, cA4, rfl⟩ := hM4.shape
                    have HS0 := Lib.hid h0
                    have hbz4 := HB4.out.size
                    have HB5 := Lib.hid (HB4.out.trans (HP4.out.only.below HNE.out.2.2 HB4.out.size))
                    have HY5 := Lib.hid (HY4.out.only HP4.out.only HNE.out.1.symm)
                    have HS5 := Lib.hid (HS4.out.only HP4.out.only HNS.out.1.symm)
                    have HQ5 := Lib.hid (HQ3.out.only HP4.out.only (fun q => q.1 rfl))
                    have hrc := HS5.out.c 3 _ rfl
                    have lt := HS5.out.lt
                    obtain rfl : sc = 0 := HSQ.out.symm.trans h0
                    clear hP4 hM4 h0 HTK hz5 hsq hsw
                    go_wp2_with fail
                    refine (HTR.out _ HY5.out HQ5.out).mono ?_; rintro e w5 (⟨hne, _⟩ | ⟨_, v5, rfl, hM5, hP5⟩)
                    · exact absurd HS0.out hne
                    rw [HZ5.out] at hP5
                    have HP5 := Lib.hid hP5
                    have HB6 := Lib.hid (HB5.out.trans (HP5.out.only.below HNE.out.2.1 HB5.out.size))
                    have HX6 := Lib.hid (HP4.out.xb.only HP5.out.only HNE.out.1)
                    have HMS := Lib.hid (law_messages _ _ f t (recE f (L3.map Mr.r)) w5 (HM4.out.only HP5.out.only HY4.out.lt) hM5)
                    obtain ⟨BC, cC5, rfl⟩ := hM5.shape
                    clear hP5 hM5 hrc lt HTR
                    go_wp2_with fail
                    refine HMS.out.mono ?_; rintro e w6 ⟨rfl, k6⟩
                    have HB7 := Lib.hid (HB6.out.trans (k6.mono HB6.out.size))
                    have HX7 := Lib.hid (HX6.out.below k6)
                    have HY7 := Lib.hid (HP5.out.xb.below k6)
                    clear k6
                    go_wp2_with fail
                    go_meet
                    exact ⟨by first | rfl | simp, z5, 0, HZB.out, ⟨Int.le_refl _, by omega⟩, HX7.out, HY7.out, HB7.out⟩
              · obtain rfl : L3 = [] := List.length_eq_zero_iff.1 (by omega)
                have hld := empty_loads18s.1
                have hst := empty_loads18s.2
                have hA : A3 = none ∨ ∃ ad, A3 = some ad := by cases A3 <;> simp
                clear hp0 hmade
                rcases hA with rfl | ⟨ad, rfl⟩
                · as_aux_lemma =>
                    go_wp2_with fail
                    generalize hw3 : W3.alloc (.cells #[] 89) = w3 at *
                    clear hw3
                    have HB4 := Lib.hid (HW.out.bel.trans (HBX.out.mono HW.out.bel.size))
                    have HX4 := Lib.hid (HW.out.x.below HBX.out)
                    have HY4 := Lib.hid (HW.out.y.below HBX.out)
                    have HS4 := Lib.hid (HW.out.sx.below HBX.out)
                    have hsc : sendC f a3 s3 ([] : List Rc) = 1 := rfl
                    have HSQ := Lib.hid hsc
                    clear hsc c0 cc3 lt hrc
                    refine (st_send_nil b f t a3 s3 z3 _ _ w3 HX4.out).mono ?_; rintro e w4 (⟨hne, rfl, k4⟩ | ⟨h0, _⟩)
                    rotate_left
                    · exact absurd (HSQ.out.symm.trans h0) (by decide)
                    have HB5 := Lib.hid (HB4.out.trans (k4.mono HB4.out.size))
                    have HX5 := Lib.hid (HX4.out.below k4)
                    have HY5 := Lib.hid (HY4.out.below k4)
                    have HS5 := Lib.hid (HS4.out.below k4)
                    have hrc := HS5.out.c 3 _ rfl
                    have lt := HS5.out.lt
                    rw [HSQ.out] at hne ⊢
                    clear k4 hne
                    go_wp2_with fail
                    refine (ref_send_nil bx f t a3 s3 z3 _ _ _ HY5.out).mono ?_; rintro e w5 (⟨hne, rfl, k5⟩ | ⟨h0, _⟩)
                    rotate_left
                    · exact absurd (HSQ.out.symm.trans h0) (by decide)
                    have HB6 := Lib.hid (HB5.out.trans (k5.mono HB5.out.size))
                    have HX6 := Lib.hid (HX5.out.below k5)
                    have HY6 := Lib.hid (HY5.out.below k5)
                    rw [HSQ.out]
                    clear k5 hne hrc lt
                    go_wp2_with fail
                    refine (no_messages _).mono ?_; rintro e w6 ⟨rfl, k6⟩
                    have HB7 := Lib.hid (HB6.out.trans (k6.mono HB6.out.size))
                    have HX7 := Lib.hid (HX6.out.below k6)
                    have HY7 := Lib.hid (HY6.out.below k6)
                    clear k6
                    go_wp2_with fail
                    go_meet
                    exact ⟨by first | rfl | simp, s3, z3, HW.out.s0, HW.out.z0, HX7.out, HY7.out, HB7.out⟩
                · as_aux_lemma =>
                    go_wp2_with fail
                    generalize hw3 : W3.alloc (.cells #[] 89) = w3 at *
                    clear hw3
                    have HB4 := Lib.hid (HW.out.bel.trans (HBX.out.mono HW.out.bel.size))
                    have HX4 := Lib.hid (HW.out.x.below HBX.out)
                    have HY4 := Lib.hid (HW.out.y.below HBX.out)
                    have HS4 := Lib.hid (HW.out.sx.below HBX.out)
                    have hsc : sendC f a3 s3 ([] : List Rc) = 1 := rfl
                    have HSQ := Lib.hid hsc
                    clear hsc c0 cc3 lt hrc
                    refine (st_send_nil b f t a3 s3 z3 _ _ w3 HX4.out).mono ?_; rintro e w4 (⟨hne, rfl, k4⟩ | ⟨h0, _⟩)
                    rotate_left
                    · exact absurd (HSQ.out.symm.trans h0) (by decide)
                    have HB5 := Lib.hid (HB4.out.trans (k4.mono HB4.out.size))
                    have HX5 := Lib.hid (HX4.out.below k4)
                    have HY5 := Lib.hid (HY4.out.below k4)
                    have HS5 := Lib.hid (HS4.out.below k4)
                    have hrc := HS5.out.c 3 _ rfl
                    have lt := HS5.out.lt
                    rw [HSQ.out] at hne ⊢
                    clear k4 hne
                    go_wp2_with fail
                    refine (ref_send_nil bx f t a3 s3 z3 _ _ _ HY5.out).mono ?_; rintro e w5 (⟨hne, rfl, k5⟩ | ⟨h0, _⟩)
                    rotate_left
                    · exact absurd (HSQ.out.symm.trans h0) (by decide)
                    have HB6 := Lib.hid (HB5.out.trans (k5.mono HB5.out.size))
                    have HX6 := Lib.hid (HX5.out.below k5)
                    have HY6 := Lib.hid (HY5.out.below k5)
                    rw [HSQ.out]
                    clear k5 hne hrc lt
                    go_wp2_with fail
                    refine (no_messages _).mono ?_; rintro e w6 ⟨rfl, k6⟩
                    have HB7 := Lib.hid (HB6.out.trans (k6.mono HB6.out.size))
                    have HX7 := Lib.hid (HX6.out.below k6)
                    have HY7 := Lib.hid (HY6.out.below k6)
                    clear k6
                    go_wp2_with fail
                    go_meet
                    exact ⟨by first | rfl | simp, s3, z3, HW.out.s0, HW.out.z0, HX7.out, HY7.out, HB7.out⟩
          case rest =>
          as_aux_lemma =>
          obtain ⟨rfl, s4, z4, hs4, hz4, hx4, hy4, hb4⟩ := hcut
          generalize wc = W5 at *
          have HR5 := Lib.hid (And.intro hs4 (And.intro hz4 (And.intro hx4 (And.intro hy4 hb4))))
          have AC := Lib.hid fun (d' : Nat) (os : Array Obj) => Calls.regrown_of ((st_acked b f t a3 s4 z4 (grow (redrawn W5 d') os) (hx4.below (below_regrown W5 d' os))).mono (fun e w' ⟨q1, q2⟩ => (⟨q1, q2 ▸ Below.refl _ _⟩ : e = .returned (.int .i64 a3) ∧ Below (grow (redrawn W5 d') os).heap.size (grow (redrawn W5 d') os) w')))
          have y2 := fun d os => cell_regrown (hy4.c 2 _ rfl) d os
          have hzn : (a3 != a3) = false := by simp
          have w2 : IntKind.i64.wrap ((j2 : Int) + 1) = (j2 : Int) + 1 := IntWalk.i64_in _ (by omega)
          have HA3 := Lib.hid HW.out.a0
          clear hs4 hz4 hx4 hy4 hb4 HW c0 cc3 lt
          go_wp2_with fail
          refine wp_region_quiet_below (by kernel_rfl) (by kernel_rfl) ?_
          repeat (go_big_quiet_step ((go_at_call 37; exact AC.out _ _)))
          refine wpQuiet_nil ?_
          intro _ hw'
          obtain ⟨⟨dq, osq⟩, hw''⟩ := hw'
          subst hw''
          have hq := below_regrown W5 dq osq
          have HXF := Lib.hid (HR5.out.2.2.1.below hq)
          have HYF := Lib.hid (HR5.out.2.2.2.1.below hq)
          have HBF := Lib.hid (HR5.out.2.2.2.2.trans (hq.mono HR5.out.2.2.2.2.size))
          clear hq AC y2
          generalize grow (redrawn W5 dq) osq = W7 at *
          go_wp2
          go_roundw
          case rel => exact ⟨j2 + 1, a3, s4, z4, by omega, by omega, by go_num, HA3.out, HR5.out.1, ⟨HR5.out.2.1.1, by have := HR5.out.2.1.2; omega⟩, HXF.out, HYF.out, HBF.out⟩
          case measure => simp [intOf]; omega
    · have lk : ¬ (j : Int) < (S.length : Int) := by omega
      have HL4 : Hid (∀ i x, i < S.length → i < 150 → S[i]? = some x → x.L.length ≤ 400) := Lib.hid (fun i x h _ hx => HO.out i x (by omega) hx)
      clear hlt HO
      go_wp2_with fail
      refine (st_new_out f t a wr).mono ?_; rintro e w1 (⟨hk, rfl, k1⟩ | ⟨hk, b, rfl, hb, hxi, k1⟩)
      · have HK := Lib.hid hk
        have HB1 := Lib.hid (HB.out.trans (k1.mono HB.out.size))
        clear k1 hk
        go_wp2_with fail
        refine (ref_new_out f t a w1).mono ?_; rintro e w2 (⟨_, rfl, k2⟩ | ⟨hk2, _⟩)
        rotate_left
        · exact absurd (HK.out.symm.trans hk2) (by decide)
        have HB2 := Lib.hid (HB1.out.trans (k2.mono HB1.out.size))
        clear k2
        go_wp2_with fail
        refine (known18 w2).mono ?_; rintro e w3 ⟨rfl, k3⟩
        have HB3 := Lib.hid (HB2.out.trans (k3.mono HB2.out.size))
        clear k3
        go_wp2
        go_ret
        exact ⟨rfl, HB3.out⟩
      have HK := Lib.hid hk
      have HX1 := Lib.hid hxi
      have hbw : w.heap.size ≤ b := Nat.le_trans HB.out.size hb
      have HB1 := Lib.hid (HB.out.trans (k1.mono HB.out.size))
      clear k1 hk hxi hb HB
      go_wp2_with fail
      refine (ref_new_out f t a w1).mono ?_; rintro e w2 (⟨hk2, _⟩ | ⟨_, bx, rfl, hbx, hxx, k2⟩)
      · exact absurd (HK.out.symm.trans hk2) (by decide)
      have HEP := Lib.hid (ends_out HK.out)
      have HNE : Hid (b ≠ bx ∧ w.heap.size ≤ bx ∧ w.heap.size ≤ b) := Lib.hid ⟨by have := HX1.out.lt; omega, Nat.le_trans HB1.out.size hbx, hbw⟩
      have HX2 := Lib.hid (HX1.out.below k2)
      have HY2 := Lib.hid hxx
      have HB2 := Lib.hid (HB1.out.trans (k2.mono HB1.out.size))
      clear k2 hxx hbx HX1 HB1 lk
      go_wp2
      go_loopw [15] (fun i wr => ∃ (j : Nat) (a s z : Int), j ≤ S.length ∧ j ≤ 150 ∧ i = .int .i64 j ∧ (0 ≤ a ∧ a ≤ 1099511627776) ∧ (0 ≤ s ∧ s ≤ 1099511627776) ∧ (0 ≤ z ∧ z ≤ (j : Int)) ∧ XB wr b (outC f t a s z) ∧ XB wr bx (outC f t a s z) ∧ Below w.heap.size w wr) (fun i _ => S.length - (intOf i).toNat)
      case atStart => exact ⟨0, a, a, 0, Nat.zero_le _, by omega, rfl, HEP.out, HEP.out, ⟨Int.le_refl _, by simp⟩, HX2.out, HY2.out, HB2.out⟩
      case round =>
        obtain ⟨j2, a2, s2, z2, hj2, hj240, rfl, ha2, hs2, hz2, hX, hY, hB⟩ := hrel
        have HX := Lib.hid hX
        have HY := Lib.hid hY
        have HB := Lib.hid hB
        have HA := Lib.hid (And.intro ha2 (And.intro hs2 hz2))
        clear hX hY hB HX2 HY2 HB2 ha2 hs2 hz2
        by_cases hlt : j2 < S.length
        rotate_left
        · have lk : ¬ (j2 : Int) < (S.length : Int) := by omega
          clear hlt
          go_wp2_with fail
          refine (known18 _).mono ?_; rintro e w3 ⟨rfl, k3⟩
          have HB3 := Lib.hid (HB.out.trans (k3.mono HB.out.size))
          clear k3
          go_wp2
          go_ret
          exact ⟨rfl, HB3.out⟩
        have lk : (j2 : Int) < (S.length : Int) := by omega
        by_cases h40 : j2 < 150
        rotate_left
        · have l40 : ¬ (j2 : Int) < 150 := by omega
          have l40d : decide ((j2 : Int) < 150) = false := decide_eq_false l40
          clear hlt h40
          go_wp2_with fail
          refine (known18 _).mono ?_; rintro e w3 ⟨rfl, k3⟩
          have HB3 := Lib.hid (HB.out.trans (k3.mono HB.out.size))
          clear k3
          go_wp2
          go_ret
          exact ⟨rfl, HB3.out⟩
        have l40 : (j2 : Int) < 150 := by omega
        have l40d : decide ((j2 : Int) < 150) = true := decide_eq_true l40
        have hi1 : ((j2 : Int).toNat) = j2 := by simp
        obtain ⟨B, O, rfl, hBl, hcell⟩ := HR.out (by omega)
        have hx : S[j2]? = some S[j2] := List.getElem?_eq_getElem hlt
        have HL := Lib.hid (HL4.out j2 _ hlt h40 hx)
        generalize S[j2] = x at *
        have HXI := Lib.hid (HIN.out j2 _ hx).1
        have r0 : wr.cell? ⟨B, O + j2 * 4, none⟩ = some (.int .i64 x.k) := (HB.out.cell (p := ⟨B, O + (j2 * 4 + 0), none⟩) hBl).trans (hcell (j2 * 4 + 0) _ (fm_at Ax.cs 4 Ax.len hx 0 (by omega)))
        have r1 : wr.cell? ⟨B, O + j2 * 4 + 1, none⟩ = some (.int .i64 x.n) := by rw [Nat.add_assoc]; exact (HB.out.cell (p := ⟨B, O + (j2 * 4 + 1), none⟩) hBl).trans (hcell _ _ (fm_at Ax.cs 4 Ax.len hx 1 (by omega)))
        have r2 : wr.cell? ⟨B, O + j2 * 4 + 2, none⟩ = some (.int .i64 x.m) := by rw [Nat.add_assoc]; exact (HB.out.cell (p := ⟨B, O + (j2 * 4 + 2), none⟩) hBl).trans (hcell _ _ (fm_at Ax.cs 4 Ax.len hx 2 (by omega)))
        have r3 : wr.cell? ⟨B, O + j2 * 4 + 3, none⟩ = some (.slice x.A x.L.length x.c) := by rw [Nat.add_assoc]; exact (HB.out.cell (p := ⟨B, O + (j2 * 4 + 3), none⟩) hBl).trans (hcell _ _ (fm_at Ax.cs 4 Ax.len hx 3 (by omega)))
        obtain ⟨k, n, m2, xA, xL, xc⟩ := x
        clear hx hcell hBl
        simp only at r0 r1 r2 r3
        go_upto_block 4 with fail
        obtain ⟨W1, hW1⟩ : ∃ W1, wr.alloc (.cells #[.int .i64 k, .int .i64 n, .int .i64 m2, .slice xA xL.length xc] 48) = W1 := ⟨_, rfl⟩
        have kal : Below wr.heap.size wr W1 := by rw [← hW1]; (repeat' (first | (with_reducible exact Below.refl _ _) | (with_reducible assumption) | (with_reducible refine Below.trans ?_ (Below.mono (by with_reducible assumption) ?_)) | (with_reducible refine Below.alloc ?_ ?_ _) | (with_reducible refine Below.setCell ?_ ?_ _) | (with_reducible refine below_drewN ?_ _) | (with_reducible refine Below.drew ?_) | go_size))
        have hS1 : XB W1 wr.heap.size [.int .i64 k, .int .i64 n, .int .i64 m2, .slice xA xL.length xc] := by rw [← hW1]; exact XB.new wr #[.int .i64 k, .int .i64 n, .int .i64 m2, .slice xA xL.length xc] _
        have HNS : Hid (b ≠ wr.heap.size ∧ bx ≠ wr.heap.size ∧ w.heap.size ≤ wr.heap.size) := Lib.hid ⟨by have := HX.out.lt; omega, by have := HY.out.lt; omega, HB.out.size⟩
        have hB1 := HB.out.trans (kal.mono HB.out.size)
        have SW0 : Hid (Sw w b bx wr.heap.size f t j2 k n m2 a2 s2 z2 xA xL xc W1) := Lib.hid ⟨HX.out.below kal, HY.out.below kal, hS1, hB1, HA.out.1, HA.out.2.1, ⟨HA.out.2.2.1, by have := HA.out.2.2.2; omega⟩, (HXI.out.q.below hB1).mono (fun i _ hq => ⟨by have := HNE.out.2.2; omega, by have := HNE.out.2.1; omega⟩), HL.out⟩
        have HN64 := Lib.hid HXI.out.i
        rw [hW1]
        clear hW1 kal hS1 hB1 r0 r1 r2 r3 HX HY HB HXI HL
        obtain ⟨sb, hsb⟩ : ∃ sb, wr.heap.size = sb := ⟨_, rfl⟩
        rw [hsb] at SW0 HNS
        rw [hsb]
        clear hsb
        go_cut [17] (fun ok wx => ok = .bool true ∧ ∃ (a s z : Int) (A' : Option Addr) (L' : List Mr) (c' : Nat), Sw w b bx sb f t j2 k n m2 a s z A' L' c' wx)
        case first =>
          by_cases h1 : k = 1
          · have hk := h1
            clear h1
            as_aux_lemma =>
              subst hk
              have c0 := SW0.out.sx.c 0 _ rfl
              have c1 := SW0.out.sx.c 1 _ rfl
              have c2 := SW0.out.sx.c 2 _ rfl
              have lt := SW0.out.sx.lt
              obtain ⟨C, hC⟩ : ∃ C, (needM a2 s2 z2 n).1 = C := ⟨_, rfl⟩
              obtain ⟨D, hD⟩ : ∃ D, (needM a2 s2 z2 n).2 = D := ⟨_, rfl⟩
              have HNA := Lib.hid (st_need b f t a2 s2 z2 n W1 SW0.out.x ⟨SW0.out.a0.1, by have := SW0.out.a0.2; omega⟩ ⟨SW0.out.s0.1, by have := SW0.out.s0.2; omega⟩)
              have HNB := Lib.hid (ref_need bx f t a2 s2 z2 n W1 SW0.out.y ⟨SW0.out.a0.1, by have := SW0.out.a0.2; omega⟩ ⟨SW0.out.s0.1, by have := SW0.out.s0.2; omega⟩)
              have HND : Hid (D = true → ∃ F : Nat, C = (F : Int) ∧ 1 ≤ F ∧ F ≤ 1099511627777 ∧ (F : Int) ≤ n) := Lib.hid (fun h => by rw [← hC]; exact need_bd SW0.out.a0 SW0.out.s0 (by rw [hD]; exact h))
              rw [hC, hD] at HNA HNB
              clear hC hD
              go_wp2_with fail
              refine HNA.out.mono ?_; rintro e w1 ⟨rfl, hw1⟩
              subst hw1
              go_wp2_with fail
              refine HNB.out.mono ?_; rintro e w1 ⟨rfl, hw1⟩
              subst hw1
              clear HNA HNB
              go_wp2_with fail
              go_meet
              exact ⟨rfl, _, _, _, _, _, _, SW0.out⟩
          by_cases h2 : k = 2
          · have hk := h2
            clear h1 h2
            as_aux_lemma =>
              subst hk
              have c0 := SW0.out.sx.c 0 _ rfl
              have c1 := SW0.out.sx.c 1 _ rfl
              have c2 := SW0.out.sx.c 2 _ rfl
              have lt := SW0.out.sx.lt
              obtain ⟨F, hF⟩ : ∃ F : Nat, max 0 (min n 1099511627776) = (F : Int) := ⟨(max 0 (min n 1099511627776)).toNat, by omega⟩
              have hF1 : F ≤ 1099511627777 := by omega
              obtain ⟨mm, hm8, hmm⟩ := bits_15 m2
              have HSM : Hid (∀ W, Calls Tryd.prog 29 #[.int .i64 f, .int .i64 (max 0 (min n 1099511627776)), .int .i64 (bits .and .i64 m2 15)] W fun e w' => SomeRes f F mm W w' e) := Lib.hid (fun W => by rw [hF, hmm]; exact law_some f F mm W hF1 (by omega))
              clear hF hmm hF1
              go_wp2_with fail
              refine (HSM.out _).mono ?_; rintro e w1 ⟨v1, L1, rfl, hT, hR1⟩
              obtain ⟨A1, cc1, rfl⟩ := hT.shape
              have HSW := Lib.hid (sw_put SW0.out HNS.out.1 HNS.out.2.1 HNS.out.2.2 hT (some_by hR1) (by omega))
              have hs1 := SW0.out.sx.below hT.bel
              have f3 := hs1.fz 3
              have e3 := hs1.c 3 _ rfl
              have e0 := hs1.c 0 _ rfl
              clear c0 c1 c2 lt
              have lt := hs1.lt
              clear hT hR1 hs1 HSM
              go_wp2_with fail
              go_meet
              exact ⟨rfl, _, _, _, _, _, _, HSW.out⟩
          by_cases h3 : k = 3
          · have hk := h3
            clear h1 h2 h3
            as_aux_lemma =>
              subst hk
              have c0 := SW0.out.sx.c 0 _ rfl
              have c1 := SW0.out.sx.c 1 _ rfl
              have c2 := SW0.out.sx.c 2 _ rfl
              have lt := SW0.out.sx.lt
              obtain ⟨a3, s3, z3, h3, ha3, hs3, hz3⟩ := ack_sh f t a2 s2 z2 n j2 SW0.out.a0 SW0.out.s0 SW0.out.z0
              obtain ⟨bb, hbb⟩ : ∃ bb, ackB a2 s2 n = bb := ⟨_, rfl⟩
              have HKA : Hid (∀ W, XB W b (outC f t a2 s2 z2) → Calls Tryd.prog 30 #[.pointer (some ⟨b, 0, none⟩), .int .i64 n] W fun e w' => e = .returned (.bool bb) ∧ StPost b (outC f t a3 s3 z3) W w') := Lib.hid (fun W h => by have q := st_ack b f t a2 s2 z2 n W h; rw [h3, hbb] at q; exact q)
              have HKB : Hid (∀ W, XB W bx (outC f t a2 s2 z2) → Calls Tryd.prog 31 #[.pointer (some ⟨bx, 0, none⟩), .int .i64 n] W fun e w' => e = .returned (.bool bb) ∧ StPost bx (outC f t a3 s3 z3) W w') := Lib.hid (fun W h => by have q := ref_ack bx f t a2 s2 z2 n W h; rw [h3, hbb] at q; exact q)
              have HBD := Lib.hid (And.intro ha3 (And.intro hs3 hz3))
              clear h3 hbb ha3 hs3 hz3
              go_upto_region 31 with fail
              have kd : Below W1.heap.size W1 W1.drew := (Below.refl _ _).drew
              have SW1 : Hid (Sw w b bx sb f t j2 3 n m2 a2 s2 z2 xA xL xc W1.drew) := Lib.hid (SW0.out.below kd)
              refine wp_region_held_drew (S := fun w' => w'.cell? ⟨sb, 1, none⟩ = some (.int .i64 n)) (by kernel_rfl) c1 (fun hHeld => ?_)
              clear kd SW0 c0 c1 c2 lt
              generalize W1.drew = V at *
              refine wpAnyH_take (i := 0) (v := ?_) rfl (by kernel_rfl) (by kernel_rfl) (by kernel_rfl) (fun _ _ _ h => h) (Or.inl ⟨by rfl, ?_⟩) (by assumption) ?_
              rotate_left
              · intro w' hSw; (try dsimp only at hSw); go_simp; (try with_reducible rfl)
              (try simp only [Act.put, List.setIfInBounds_toArray, List.set_cons_zero, List.set_cons_succ, List.getElem_toArray, List.getElem_cons_succ, List.getElem_cons_zero])
              refine wpAnyH_take (i := 1) (v := ?_) rfl (by kernel_rfl) (by kernel_rfl) (by kernel_rfl) (fun _ _ _ h => h) (Or.inl ⟨by rfl, ?_⟩) (by assumption) ?_
              rotate_left
              · intro w' hSw; (try dsimp only at hSw); go_simp; (try with_reducible rfl)
              (try simp only [Act.put, List.setIfInBounds_toArray, List.set_cons_zero, List.set_cons_succ, List.getElem_toArray, List.getElem_cons_succ, List.getElem_cons_zero])
              refine wpAnyH_take (i := 2) (v := ?_) rfl (by kernel_rfl) (by kernel_rfl) (by kernel_rfl) (fun _ _ _ h => h) (Or.inl ⟨by rfl, ?_⟩) (by assumption) ?_
              rotate_left
              · intro w' hSw; (try dsimp only at hSw); go_simp; (try with_reducible rfl)
              (try simp only [Act.put, List.setIfInBounds_toArray, List.set_cons_zero, List.set_cons_succ, List.getElem_toArray, List.getElem_cons_succ, List.getElem_cons_zero])
              refine wpAnyH_take (i := 4) (v := ?_) rfl (by kernel_rfl) (by kernel_rfl) (by kernel_rfl) (fun _ _ _ h => h) (Or.inl ⟨by rfl, ?_⟩) (by assumption) ?_
              rotate_left
              · intro w' hSw; (try dsimp only at hSw); go_simp; (try with_reducible rfl)
              (try simp only [Act.put, List.setIfInBounds_toArray, List.set_cons_zero, List.set_cons_succ, List.getElem_toArray, List.getElem_cons_succ, List.getElem_cons_zero])
              refine wpAnyH_take (i := 5) (v := ?_) rfl (by kernel_rfl) (by kernel_rfl) (by kernel_rfl) (fun _ _ _ h => h) (Or.inl ⟨by rfl, ?_⟩) (by assumption) ?_
              rotate_left
              · intro w' hSw; (try dsimp only at hSw); go_simp; (try with_reducible rfl)
              (try simp only [Act.put, List.setIfInBounds_toArray, List.set_cons_zero, List.set_cons_succ, List.getElem_toArray, List.getElem_cons_succ, List.getElem_cons_zero])
              refine wpAnyH_take (i := 6) (v := ?_) rfl (by kernel_rfl) (by kernel_rfl) (by kernel_rfl) (fun _ _ _ h => h) (Or.inl ⟨by rfl, ?_⟩) (by assumption) ?_
              rotate_left
              · intro w' hSw; (try dsimp only at hSw); go_simp; (try with_reducible rfl)
              (try simp only [Act.put, List.setIfInBounds_toArray, List.set_cons_zero, List.set_cons_succ, List.getElem_toArray, List.getElem_cons_succ, List.getElem_cons_zero])
              refine wpAnyH_ready (rs := [3]) (by kernel_rfl) (by simp) ?_
              refine AllReadyH.cons rfl (fun K hK => ?_) (AllReadyH.nil)
              go_simp
              go_at_call 30
              refine (HKA.out _ SW1.out.x).mono ?_; rintro e V1 ⟨rfl, hp1⟩
              have HP1 := Lib.hid hp1
              clear hp1
              (try dsimp only)
              refine hK.out _ _ ?_ (fun hHeld => ?_)
              · exact (HP1.out.only.cell sb 1 SW1.out.sx.lt HNS.out.1.symm).trans (SW1.out.sx.c 1 _ rfl)
              clear hK K
              (try simp only [Act.put, List.setIfInBounds_toArray, List.set_cons_zero, List.set_cons_succ, List.getElem_toArray, List.getElem_cons_succ, List.getElem_cons_zero])
              refine wpAnyH_ready (rs := [7]) (by kernel_rfl) (by simp) ?_
              refine AllReadyH.cons rfl (fun K hK => ?_) (AllReadyH.nil)
              go_simp
              go_at_call 31
              refine (HKB.out _ (SW1.out.y.only HP1.out.only HNE.out.1.symm)).mono ?_; rintro e V2 ⟨rfl, hp2⟩
              have HP2 := Lib.hid hp2
              clear hp2
              have HSW := Lib.hid (sw_ab SW1.out HNE.out.1 HNS.out.1 HNS.out.2.1 HNE.out.2.2 HNE.out.2.1 HP1.out HP2.out HBD.out.1 HBD.out.2.1 HBD.out.2.2)
              (try dsimp only)
              refine hK.out _ _ ?_ (fun hHeld => ?_)
              · exact HSW.out.sx.c 1 _ rfl
              clear hK K
              (try simp only [Act.put, List.setIfInBounds_toArray, List.set_cons_zero, List.set_cons_succ, List.getElem_toArray, List.getElem_cons_succ, List.getElem_cons_zero])
              refine wpAnyH_take (i := 8) (v := ?_) rfl (by kernel_rfl) (by kernel_rfl) (by kernel_rfl) (fun _ _ _ h => h) (Or.inl ⟨by rfl, ?_⟩) (by assumption) ?_
              rotate_left
              · intro w' hSw; (try dsimp only at hSw); go_simp; (try with_reducible rfl)
              (try simp only [Act.put, List.setIfInBounds_toArray, List.set_cons_zero, List.set_cons_succ, List.getElem_toArray, List.getElem_cons_succ, List.getElem_cons_zero])
              refine wpAnyH_take (i := 9) (v := ?_) rfl (by kernel_rfl) (by kernel_rfl) (by kernel_rfl) (fun _ _ _ h => h) (Or.inl ⟨by rfl, ?_⟩) (by assumption) ?_
              rotate_left
              · intro w' hSw; (try dsimp only at hSw); go_simp; (try with_reducible rfl)
              (try simp only [Act.put, List.setIfInBounds_toArray, List.set_cons_zero, List.set_cons_succ, List.getElem_toArray, List.getElem_cons_succ, List.getElem_cons_zero])
              refine wpAnyH_done (by kernel_rfl) ?_ _
              have c0 := HSW.out.sx.c 0 _ rfl
              have lt := HSW.out.sx.lt
              have hbq : (bb == bb) = true := by cases bb <;> rfl
              go_wp2_with fail
              go_meet
              exact ⟨by first | rfl | simp, _, _, _, _, _, _, HSW.out⟩
          by_cases h4 : k = 4
          · have hk := h4
            clear h1 h2 h3 h4
            as_aux_lemma =>
              subst hk
              have c0 := SW0.out.sx.c 0 _ rfl
              have c1 := SW0.out.sx.c 1 _ rfl
              have c2 := SW0.out.sx.c 2 _ rfl
              have lt := SW0.out.sx.lt
              have hz9 : 0 ≤ z2 ∧ z2 ≤ 4611686018427387904 := ⟨SW0.out.z0.1, by have := SW0.out.z0.2; omega⟩
              have HTA := Lib.hid (st_tick b f t a2 s2 z2 W1 SW0.out.x hz9)
              have HTB : Hid (∀ W, XB W bx (outC f t a2 s2 z2) → Calls Tryd.prog 33 #[.pointer (some ⟨bx, 0, none⟩)] W fun e w' => e = .returned (.tuple #[]) ∧ StPost bx (outC f t a2 s2 (tickM a2 s2 z2)) W w') := Lib.hid (fun W h => ref_tick bx f t a2 s2 z2 W h hz9)
              have HTZ : Hid (0 ≤ tickM a2 s2 z2 ∧ tickM a2 s2 z2 ≤ (j2 : Int) + 1) := Lib.hid (by
                have h1 := HA.out.2.2
                unfold tickM
                split <;> omega)
              go_wp2_with fail
              refine HTA.out.mono ?_; rintro e V1 ⟨rfl, hp1⟩
              have HP1 := Lib.hid hp1
              clear hp1
              go_wp2_with fail
              refine (HTB.out _ (SW0.out.y.only HP1.out.only HNE.out.1.symm)).mono ?_; rintro e V2 ⟨rfl, hp2⟩
              have HSW := Lib.hid (sw_ab SW0.out HNE.out.1 HNS.out.1 HNS.out.2.1 HNE.out.2.2 HNE.out.2.1 HP1.out hp2 SW0.out.a0 SW0.out.s0 HTZ.out)
              clear hp2 c0 c1 c2 lt
              go_wp2_with fail
              go_meet
              exact ⟨rfl, _, _, _, _, _, _, HSW.out⟩
          by_cases h6 : k = 6
          · have hk := h6
            clear h1 h2 h3 h4 h6
            as_aux_lemma =>
              subst hk
              have c0 := SW0.out.sx.c 0 _ rfl
              have c1 := SW0.out.sx.c 1 _ rfl
              have c2 := SW0.out.sx.c 2 _ rfl
              have lt := SW0.out.sx.lt
              obtain ⟨C, hC⟩ : ∃ C, (needM a2 s2 z2 n).1 = C := ⟨_, rfl⟩
              obtain ⟨D, hD⟩ : ∃ D, (needM a2 s2 z2 n).2 = D := ⟨_, rfl⟩
              have HNA := Lib.hid (st_need b f t a2 s2 z2 n W1 SW0.out.x ⟨SW0.out.a0.1, by have := SW0.out.a0.2; omega⟩ ⟨SW0.out.s0.1, by have := SW0.out.s0.2; omega⟩)
              have HNB := Lib.hid (ref_need bx f t a2 s2 z2 n W1 SW0.out.y ⟨SW0.out.a0.1, by have := SW0.out.a0.2; omega⟩ ⟨SW0.out.s0.1, by have := SW0.out.s0.2; omega⟩)
              have HND : Hid (D = true → ∃ F : Nat, C = (F : Int) ∧ 1 ≤ F ∧ F ≤ 1099511627777 ∧ (F : Int) ≤ n) := Lib.hid (fun h => by rw [← hC]; exact need_bd SW0.out.a0 SW0.out.s0 (by rw [hD]; exact h))
              rw [hC, hD] at HNA HNB
              clear hC hD
              go_wp2_with fail
              refine HNA.out.mono ?_; rintro e w1 ⟨rfl, hw1⟩
              subst hw1
              go_wp2_with fail
              refine HNB.out.mono ?_; rintro e w1 ⟨rfl, hw1⟩
              subst hw1
              clear HNA HNB
              cases D
              · clear HND
                go_wp2_with fail
                go_meet
                exact ⟨rfl, _, _, _, _, _, _, SW0.out⟩
              obtain ⟨F, rfl, hF0, hF1, hF2⟩ := HND.out rfl
              have hn2 := HN64.out.2
              have u1 : IntKind.i64.wrap (n - (F : Int)) = n - (F : Int) := IntWalk.i64_in _ (by omega)
              have u2 : IntKind.i64.wrap (n - (F : Int) + 1) = n - (F : Int) + 1 := IntWalk.i64_in _ (by omega)
              obtain ⟨mm, hmm⟩ : ∃ mm : Nat, min 8 (n - (F : Int) + 1) = (mm : Int) := ⟨(min 8 (n - (F : Int) + 1)).toNat, by omega⟩
              have hm8 : mm ≤ 8 := by omega
              have HSM : Hid (∀ W, Calls Tryd.prog 29 #[.int .i64 f, .int .i64 (F : Int), .int .i64 (min 8 (n - (F : Int) + 1))] W fun e w' => SomeRes f F mm W w' e) := Lib.hid (fun W => by rw [hmm]; exact law_some f F mm W hF1 (by omega))
              clear HND hmm hn2 hF0 hF1 hF2
              go_wp2_with fail
              refine (HSM.out _).mono ?_; rintro e w1 ⟨v1, L1, rfl, hT, hR1⟩
              obtain ⟨A1, cc1, rfl⟩ := hT.shape
              have HSW := Lib.hid (sw_put SW0.out HNS.out.1 HNS.out.2.1 HNS.out.2.2 hT (some_by hR1) (by omega))
              have hs1 := SW0.out.sx.below hT.bel
              have f3 := hs1.fz 3
              have e3 := hs1.c 3 _ rfl
              have e0 := hs1.c 0 _ rfl
              clear c0 c1 c2 lt
              have lt := hs1.lt
              clear hT hR1 hs1 HSM
              go_wp2_with fail
              go_meet
              exact ⟨rfl, _, _, _, _, _, _, HSW.out⟩
          as_aux_lemma =>
            have c0 := SW0.out.sx.c 0 _ rfl
            have c1 := SW0.out.sx.c 1 _ rfl
            have c2 := SW0.out.sx.c 2 _ rfl
            have lt := SW0.out.sx.lt
            have t1 : (k == 1) = false := by simpa using h1
            have t2 : (k == 2) = false := by simpa using h2
            have t3 : (k == 3) = false := by simpa using h3
            have t4 : (k == 4) = false := by simpa using h4
            have t6 : (k == 6) = false := by simpa using h6
            go_wp2_with fail
            go_meet
            exact ⟨rfl, _, _, _, _, _, _, SW0.out⟩
        case rest =>
        obtain ⟨rfl, a3, s3, z3, A3, L3, c3, hSw⟩ := hcut
        have HW := Lib.hid hSw
        clear hSw SW0 HA
        generalize wc = W3 at *
        have c0 := HW.out.sx.c 0 _ rfl
        have cc3 := HW.out.sx.c 3 _ rfl
        have lt := HW.out.sx.lt
        obtain ⟨sd, hsd⟩ : ∃ sd, sd = ((k == 2 || k == 5) || (k == 6 && decide (0 < (L3.length : Int)))) := ⟨_, rfl⟩
        go_upto_region 35 with fail
        go_cut [187] (fun v wx => v = .bool sd ∧ wx = W3)
        case first =>
          as_aux_lemma =>
          by_cases h2 : k = 2
          · subst h2
            have e : sd = true := by rw [hsd]; rfl
            subst e
            clear hsd
            go_wp2_with fail
            go_meet
            exact ⟨rfl, rfl⟩
          have t2 : (k == 2) = false := by simpa using h2
          by_cases h5 : k = 5
          · subst h5
            have e : sd = true := by rw [hsd]; rfl
            subst e
            clear hsd
            go_wp2_with fail
            go_meet
            exact ⟨rfl, rfl⟩
          have t5 : (k == 5) = false := by simpa using h5
          by_cases h6 : k = 6
          · subst h6
            by_cases hp : (0 : Int) < (L3.length : Int)
            · have tp : decide ((0 : Int) < (L3.length : Int)) = true := decide_eq_true hp
              have e : sd = true := by rw [hsd, tp]; rfl
              subst e
              clear hsd t2 t5 h2 h5
              go_wp2_with fail
              go_meet
              exact ⟨by first | rfl | rw [decide_eq_true (show 0 < L3.length by omega)], rfl⟩
            · have tp : decide ((0 : Int) < (L3.length : Int)) = false := decide_eq_false hp
              have e : sd = false := by rw [hsd, tp]; rfl
              subst e
              clear hsd t2 t5 h2 h5
              go_wp2_with fail
              go_meet
              exact ⟨by first | rfl | rw [decide_eq_false (show ¬ 0 < L3.length by omega)], rfl⟩
          have t6 : (k == 6) = false := by simpa using h6
          have e : sd = false := by rw [hsd, t2, t5, t6]; rfl
          subst e
          clear hsd
          go_wp2_with fail
          go_meet
          exact ⟨rfl, rfl⟩
        case rest =>
        obtain ⟨rfl, rfl⟩ := hcut
        generalize wc = W3 at *
        clear hsd
        go_upto_if 187 with fail
        go_cut [17] (fun ok wx => ok = .bool true ∧ ∃ (s z : Int), (0 ≤ s ∧ s ≤ 1099511627776) ∧ (0 ≤ z ∧ z ≤ (j2 : Int) + 1) ∧ XB wx b (outC f t a3 s z) ∧ XB wx bx (outC f t a3 s z) ∧ Below w.heap.size w wx)
        case first =>
          cases hss : sd with
          | false =>
            subst hss
            go_wp2_with fail
            go_meet
            exact ⟨rfl, s3, z3, HW.out.s0, HW.out.z0, HW.out.x, HW.out.y, HW.out.bel⟩
          | true =>
            subst hss
            have HBX : Hid (Below W3.heap.size W3 (W3.alloc (.cells #[] 89))) := Lib.hid (by (repeat' (first | (with_reducible exact Below.refl _ _) | (with_reducible assumption) | (with_reducible refine Below.trans ?_ (Below.mono (by with_reducible assumption) ?_)) | (with_reducible refine Below.alloc ?_ ?_ _) | (with_reducible refine Below.setCell ?_ ?_ _) | (with_reducible refine below_drewN ?_ _) | (with_reducible refine Below.drew ?_) | go_size)))
            have hrc := (HW.out.sx.below HBX.out).c 3 _ rfl
            have hmade := World.ownsRow_made (base := w.heap.size) (e := 89) (size := 9) W3 #[] 0 HW.out.bel.size (Nat.zero_le _) rfl
            have hbz := HW.out.bel.size
            have hl4 := HW.out.len
            by_cases hp0 : 0 < L3.length
            · as_aux_lemma =>
                obtain ⟨A', cA, he', hc⟩ := HW.out.row.row.ex
                have he2 : (Value.slice A3 L3.length c3) = .slice A' L3.length cA := he'
                obtain ⟨rfl, rfl⟩ : A3 = A' ∧ c3 = cA := by injection he2 with q1 q2 q3; exact ⟨q1, q3⟩
                obtain ⟨Bx, Ox, rfl, hBx, hcx⟩ := hc hp0
                have HBq : Hid (Bx ≠ b ∧ Bx ≠ bx) := Lib.hid (HW.out.row.ab hp0 _ _ _ rfl _ rfl)
                have hsrc : ∀ j u, (rowM L3)[j]? = some u → (W3.alloc (.cells #[] 89)).cell? ((⟨Bx, Ox, none⟩ : Addr).add j) = some u := fun j u hu => by
                  rw [at_add]
                  exact (HBX.out.cell (p := ⟨Bx, Ox + j, none⟩) hBx).trans (hcx j u hu)
                clear hcx hc he' he2 hBx
                go_wp2_with (at_builtin; refine wpList_append_lies _ rfl (.tmp 190) (.tmp 192) _ rfl w.heap.size 89 i0 _ 9 96 Tryd.underlying24 hi0 hz0 hz1 hz2 rfl (by decide) (.slice (some ⟨W3.heap.size, 0, none⟩) 0 0) 0 [] rfl hmade ⟨Bx, Ox, none⟩ L3.length c3 (rowM L3) rfl (rowM_len L3) hsrc (rowM_one1 L3) (by omega) (by unfold maxLen; omega) (by omega) (by simp; omega) _ rfl ?_; intro g cap w3 hown0 hg2 hat2 hlt2)
                have HR3 : Hid (RowAt w3 (.slice (some ⟨g, 0, none⟩) L3.length cap) L3) := Lib.hid (RowAt.of (base := w.heap.size) (by simpa using hown0))
                have HK3 : Hid (Below W3.heap.size W3 w3) := Lib.hid (HBX.out.grown hg2 HBX.out.size (fun k hk => by simp [Value.ownBlock] at hk; omega))
                clear hown0 hg2 hat2 hlt2 hmade hsrc hrc
                have HQ3 := Lib.hid (HW.out.row.below HK3.out)
                have HB4 := Lib.hid (HW.out.bel.trans (HK3.out.mono HW.out.bel.size))
                have HX4 := Lib.hid (HW.out.x.below HK3.out)
                have HY4 := Lib.hid (HW.out.y.below HK3.out)
                have HS4 := Lib.hid (HW.out.sx.below HK3.out)
                have HTK : Hid (Calls Tryd.prog 34 #[.pointer (some ⟨b, 0, none⟩), .slice (some ⟨g, 0, none⟩) L3.length cap] w3 fun e w' => SendRes b f t a3 s3 z3 (L3.map Mr.r) w3 w' e) := Lib.hid (st_send b f t a3 s3 z3 g 0 cap L3 w3 HX4.out HR3.out (fun m hm => (HQ3.out.at_ m hm).mono (fun _ _ _ => trivial)) HQ3.out.by_ hp0 (by omega) ⟨HW.out.a0.1, by have := HW.out.a0.2; omega⟩ ⟨HW.out.s0.1, by have := HW.out.s0.2; omega⟩ (HT.out _ HB4.out))
                have HTR : Hid (∀ W, XB W bx (outC f t a3 s3 z3) → RowQ (fun i => i ≠ b ∧ i ≠ bx) W (.slice (some ⟨Bx, Ox, none⟩) L3.length c3) L3 → Calls Tryd.prog 35 #[.pointer (some ⟨bx, 0, none⟩), .slice (some ⟨Bx, Ox, none⟩) L3.length c3] W fun e w' => SendRes bx f t a3 s3 z3 (L3.map Mr.r) W w' e) := Lib.hid (fun W q1 q2 => ref_send bx f t a3 s3 z3 Bx Ox c3 L3 W q1 q2.row (fun m hm => (q2.at_ m hm).mono (fun _ _ hq => hq.2)) q2.by_ hp0 (by omega) HBq.out.2 ⟨HW.out.a0.1, by have := HW.out.a0.2; omega⟩ ⟨HW.out.s0.1, by have := HW.out.s0.2; omega⟩)
                have HSC : Hid (sendC f a3 s3 (L3.map Mr.r) = 0 → 0 ≤ max s3 (fstS (L3.map Mr.r) + ((L3.map Mr.r).length : Int) - 1) ∧ max s3 (fstS (L3.map Mr.r) + ((L3.map Mr.r).length : Int) - 1) ≤ 1099511627776) := Lib.hid (fun h => by have h1 := send_bd h; have h2 := HW.out.s0; omega)
                obtain ⟨sc, hsc⟩ : ∃ sc, sendC f a3 s3 (L3.map Mr.r) = sc := ⟨_, rfl⟩
                have hsq : (sc == sc) = true := by simp
                have hsw : IntKind.i64.wrap sc = sc := IntWalk.i64_in _ (by have := sendC_bd f a3 s3 (L3.map Mr.r); omega)
                have HSQ := Lib.hid hsc
                clear HR3 hsc c0 cc3 lt HK3
                refine HTK.out.mono ?_; rintro e w4 (⟨hne, rfl, k4⟩ | ⟨h0, v4, rfl, hM4, hP4⟩)
                · as_aux_lemma =>
                  have HB5 := Lib.hid (HB4.out.trans (k4.mono HB4.out.size))
                  have HX5 := Lib.hid (HX4.out.below k4)
                  have HY5 := Lib.hid (HY4.out.below k4)
                  have HS5 := Lib.hid (HS4.out.below k4)
                  have HQ5 := Lib.hid (HQ3.out.below k4)
                  have hrc := HS5.out.c 3 _ rfl
                  have lt := HS5.out.lt
                  rw [HSQ.out] at hne ⊢
                  have HNE0 := Lib.hid hne
                  clear k4 HTK hne
                  go_wp2_with fail
                  refine (HTR.out _ HY5.out HQ5.out).mono ?_; rintro e w5 (⟨hne, rfl, k5⟩ | ⟨h0, _⟩)
                  rotate_left
                  · exact absurd (HSQ.out.symm.trans h0) HNE0.out
                  have HB6 := Lib.hid (HB5.out.trans (k5.mono HB5.out.size))
                  have HX6 := Lib.hid (HX5.out.below k5)
                  have HY6 := Lib.hid (HY5.out.below k5)
                  rw [HSQ.out]
                  clear k5 hne hrc lt HTR
                  go_wp2_with fail
                  refine (no_messages _).mono ?_; rintro e w6 ⟨rfl, k6⟩
                  have HB7 := Lib.hid (HB6.out.trans (k6.mono HB6.out.size))
                  have HX7 := Lib.hid (HX6.out.below k6)
                  have HY7 := Lib.hid (HY6.out.below k6)
                  clear k6
                  go_wp2_with fail
                  go_meet
                  exact ⟨by first | rfl | simp, s3, z3, HW.out.s0, HW.out.z0, HX7.out, HY7.out, HB7.out⟩
                · as_aux_lemma =>
                  obtain ⟨z5, hz5⟩ : ∃ z5, max s3 (fstS (L3.map Mr.r) + ((L3.map Mr.r).length : Int) - 1) = z5 := ⟨_, rfl⟩
                  rw [hz5] at hP4
                  have HZ5 := Lib.hid hz5
                  have HZB : Hid (0 ≤ z5 ∧ z5 ≤ 1099511627776) := Lib.hid (by have := HSC.out h0; rw [hz5] at this; exact this)
                  have HP4 := Lib.hid hP4
                  have HM4 := Lib.hid hM4
                  obtain ⟨BA, cA4, rfl⟩ := hM4.shape
                  have HS0 := Lib.hid h0
                  have hbz4 := HB4.out.size
                  have HB5 := Lib.hid (HB4.out.trans (HP4.out.only.below HNE.out.2.2 HB4.out.size))
                  have HY5 := Lib.hid (HY4.out.only HP4.out.only HNE.out.1.symm)
                  have HS5 := Lib.hid (HS4.out.only HP4.out.only HNS.out.1.symm)
                  have HQ5 := Lib.hid (HQ3.out.only HP4.out.only (fun q => q.1 rfl))
                  have hrc := HS5.out.c 3 _ rfl
                  have lt := HS5.out.lt
                  obtain rfl : sc = 0 := HSQ.out.symm.trans h0
                  clear hP4 hM4 h0 HTK hz5 hsq hsw
                  go_wp2_with fail
                  refine (HTR.out _ HY5.out HQ5.out).mono ?_; rintro e w5 (⟨hne, _⟩ | ⟨_, v5, rfl, hM5, hP5⟩)
                  · exact absurd HS0.out hne
                  rw [HZ5.out] at hP5
                  have HP5 := Lib.hid hP5
                  have HB6 := Lib.hid (HB5.out.trans (HP5.out.only.below HNE.out.2.1 HB5.out.size))
                  have HX6 := Lib.hid (HP4.out.xb.only HP5.out.only HNE.out.1)
                  have HMS := Lib.hid (law_messages _ _ f t (recE f (L3.map Mr.r)) w5 (HM4.out.only HP5.out.only HY4.out.lt) hM5)
                  obtain ⟨BC, cC5, rfl⟩ := hM5.shape
                  clear hP5 hM5 hrc lt HTR
                  go_wp2_with fail
                  refine HMS.out.mono ?_; rintro e w6 ⟨rfl, k6⟩
                  have HB7 := Lib.hid (HB6.out.trans (k6.mono HB6.out.size))
                  have HX7 := Lib.hid (HX6.out.below k6)
                  have HY7 := Lib.hid (HP5.out.xb.below k6)
                  clear k6
                  go_wp2_with fail
                  go_meet
                  exact ⟨by first | rfl | simp, z5, 0, HZB.out, ⟨Int.le_refl _, by omega⟩, HX7.out, HY7.out, HB7.out⟩
            · obtain rfl : L3 = [] := List.length_eq_zero_iff.1 (by omega)
              have hld := empty_loads18s.1
              have hst := empty_loads18s.2
              have hA : A3 = none ∨ ∃ ad, A3 = some ad := by cases A3 <;> simp
              clear hp0 hmade
              rcases hA with rfl | ⟨ad, rfl⟩
              · as_aux_lemma =>
                  go_wp2_with fail
                  generalize hw3 : W3.alloc (.cells #[] 89) = w3 at *
                  clear hw3
                  have HB4 := Lib.hid (HW.out.bel.trans (HBX.out.mono HW.out.bel.size))
                  have HX4 := Lib.hid (HW.out.x.below HBX.out)
                  have HY4 := Lib.hid (HW.out.y.below HBX.out)
                  have HS4 := Lib.hid (HW.out.sx.below HBX.out)
                  have hsc : sendC f a3 s3 ([] : List Rc) = 1 := rfl
                  have HSQ := Lib.hid hsc
                  clear hsc c0 cc3 lt hrc
                  refine (st_send_nil b f t a3 s3 z3 _ _ w3 HX4.out).mono ?_; rintro e w4 (⟨hne, rfl, k4⟩ | ⟨h0, _⟩)
                  rotate_left
                  · exact absurd (HSQ.out.symm.trans h0) (by decide)
                  have HB5 := Lib.hid (HB4.out.trans (k4.mono HB4.out.size))
                  have HX5 := Lib.hid (HX4.out.below k4)
                  have HY5 := Lib.hid (HY4.out.below k4)
                  have HS5 := Lib.hid (HS4.out.below k4)
                  have hrc := HS5.out.c 3 _ rfl
                  have lt := HS5.out.lt
                  rw [HSQ.out] at hne ⊢
                  clear k4 hne
                  go_wp2_with fail
                  refine (ref_send_nil bx f t a3 s3 z3 _ _ _ HY5.out).mono ?_; rintro e w5 (⟨hne, rfl, k5⟩ | ⟨h0, _⟩)
                  rotate_left
                  · exact absurd (HSQ.out.symm.trans h0) (by decide)
                  have HB6 := Lib.hid (HB5.out.trans (k5.mono HB5.out.size))
                  have HX6 := Lib.hid (HX5.out.below k5)
                  have HY6 := Lib.hid (HY5.out.below k5)
                  rw [HSQ.out]
                  clear k5 hne hrc lt
                  go_wp2_with fail
                  refine (no_messages _).mono ?_; rintro e w6 ⟨rfl, k6⟩
                  have HB7 := Lib.hid (HB6.out.trans (k6.mono HB6.out.size))
                  have HX7 := Lib.hid (HX6.out.below k6)
                  have HY7 := Lib.hid (HY6.out.below k6)
                  clear k6
                  go_wp2_with fail
                  go_meet
                  exact ⟨by first | rfl | simp, s3, z3, HW.out.s0, HW.out.z0, HX7.out, HY7.out, HB7.out⟩
              · as_aux_lemma =>
                  go_wp2_with fail
                  generalize hw3 : W3.alloc (.cells #[] 89) = w3 at *
                  clear hw3
                  have HB4 := Lib.hid (HW.out.bel.trans (HBX.out.mono HW.out.bel.size))
                  have HX4 := Lib.hid (HW.out.x.below HBX.out)
                  have HY4 := Lib.hid (HW.out.y.below HBX.out)
                  have HS4 := Lib.hid (HW.out.sx.below HBX.out)
                  have hsc : sendC f a3 s3 ([] : List Rc) = 1 := rfl
                  have HSQ := Lib.hid hsc
                  clear hsc c0 cc3 lt hrc
                  refine (st_send_nil b f t a3 s3 z3 _ _ w3 HX4.out).mono ?_; rintro e w4 (⟨hne, rfl, k4⟩ | ⟨h0, _⟩)
                  rotate_left
                  · exact absurd (HSQ.out.symm.trans h0) (by decide)
                  have HB5 := Lib.hid (HB4.out.trans (k4.mono HB4.out.size))
                  have HX5 := Lib.hid (HX4.out.below k4)
                  have HY5 := Lib.hid (HY4.out.below k4)
                  have HS5 := Lib.hid (HS4.out.below k4)
                  have hrc := HS5.out.c 3 _ rfl
                  have lt := HS5.out.lt
                  rw [HSQ.out] at hne ⊢
                  clear k4 hne
                  go_wp2_with fail
                  refine (ref_send_nil bx f t a3 s3 z3 _ _ _ HY5.out).mono ?_; rintro e w5 (⟨hne, rfl, k5⟩ | ⟨h0, _⟩)
                  rotate_left
                  · exact absurd (HSQ.out.symm.trans h0) (by decide)
                  have HB6 := Lib.hid (HB5.out.trans (k5.mono HB5.out.size))
                  have HX6 := Lib.hid (HX5.out.below k5)
                  have HY6 := Lib.hid (HY5.out.below k5)
                  rw [HSQ.out]
                  clear k5 hne hrc lt
                  go_wp2_with fail
                  refine (no_messages _).mono ?_; rintro e w6 ⟨rfl, k6⟩
                  have HB7 := Lib.hid (HB6.out.trans (k6.mono HB6.out.size))
                  have HX7 := Lib.hid (HX6.out.below k6)
                  have HY7 := Lib.hid (HY6.out.below k6)
                  clear k6
                  go_wp2_with fail
                  go_meet
                  exact ⟨by first | rfl | simp, s3, z3, HW.out.s0, HW.out.z0, HX7.out, HY7.out, HB7.out⟩
        case rest =>
        as_aux_lemma =>
        obtain ⟨rfl, s4, z4, hs4, hz4, hx4, hy4, hb4⟩ := hcut
        generalize wc = W5 at *
        have HR5 := Lib.hid (And.intro hs4 (And.intro hz4 (And.intro hx4 (And.intro hy4 hb4))))
        have AC := Lib.hid fun (d' : Nat) (os : Array Obj) => Calls.regrown_of ((st_acked b f t a3 s4 z4 (grow (redrawn W5 d') os) (hx4.below (below_regrown W5 d' os))).mono (fun e w' ⟨q1, q2⟩ => (⟨q1, q2 ▸ Below.refl _ _⟩ : e = .returned (.int .i64 a3) ∧ Below (grow (redrawn W5 d') os).heap.size (grow (redrawn W5 d') os) w')))
        have y2 := fun d os => cell_regrown (hy4.c 2 _ rfl) d os
        have hzn : (a3 != a3) = false := by simp
        have w2 : IntKind.i64.wrap ((j2 : Int) + 1) = (j2 : Int) + 1 := IntWalk.i64_in _ (by omega)
        have HA3 := Lib.hid HW.out.a0
        clear hs4 hz4 hx4 hy4 hb4 HW c0 cc3 lt
        go_wp2_with fail
        refine wp_region_quiet_below (by kernel_rfl) (by kernel_rfl) ?_
        repeat (go_big_quiet_step ((go_at_call 37; exact AC.out _ _)))
        refine wpQuiet_nil ?_
        intro _ hw'
        obtain ⟨⟨dq, osq⟩, hw''⟩ := hw'
        subst hw''
        have hq := below_regrown W5 dq osq
        have HXF := Lib.hid (HR5.out.2.2.1.below hq)
        have HYF := Lib.hid (HR5.out.2.2.2.1.below hq)
        have HBF := Lib.hid (HR5.out.2.2.2.2.trans (hq.mono HR5.out.2.2.2.2.size))
        clear hq AC y2
        generalize grow (redrawn W5 dq) osq = W7 at *
        go_wp2
        go_roundw
        case rel => exact ⟨j2 + 1, a3, s4, z4, by omega, by omega, by go_num, HA3.out, HR5.out.1, ⟨HR5.out.2.1.1, by have := HR5.out.2.1.2; omega⟩, HXF.out, HYF.out, HBF.out⟩
        case measure => simp [intOf]; omega
end Go.Proofs.YtdffldlcbihjmaaDoor

/- Stage 18: StreamSends: the claim. -/
namespace Go.Proofs.YtdffldlcbihjmaaDoor
open Go.ChangeShapes Go.WideShapes Go.ChangeAt Go.RowKit Go.Joins Go.Deep

theorem act_cells : Tryd.prog.cellsOf 48 = 4 := by kernel_rfl
def ActBd (x : Ax) (M : Nat) : Prop := ∀ m ∈ x.L, m.r.val.length ≤ M ∧ m.r.key.length ≤ M
set_option maxRecDepth 100000 in
theorem act_trod {H : Type} {enc : TypeId × Value → H} {w : World} {base : Nat} {sp : Nat → Bool} (fuel : Nat) (cs : List Value) (x : DataW H × List MemPlace) (hl : cs.length = 4) (hf : DataW.trod enc Tryd.prog w base sp true fuel 48 cs = some x) :
    ∃ a : Ax, cs = a.cs ∧ AxIn w a ∧ (∀ M, (∀ n ∈ x.1.weights Tryd.prog 48, n ≤ M) → ActBd a M) := by
  match cs, hl with
  | [c0, c1, c2, c3], _ =>
    obtain ⟨xs, n, _, hx, _, hlen, hg⟩ := DataW.trod_struct Tryd.underlying48 hf
    have hlen' : xs.length = 4 := hlen
    have g0 := hg 0 _ rfl
    have g1 := hg 1 _ rfl
    have g2 := hg 2 _ rfl
    have g3 := hg 3 _ rfl
    rw [List.getElem?_eq_getElem (by omega)] at g0 g1 g2 g3
    have k0 : DataW.trod enc Tryd.prog w base sp true n 3 [c0] = some xs[0] := g0
    have k1 : DataW.trod enc Tryd.prog w base sp true n 3 [c1] = some xs[1] := g1
    have k2 : DataW.trod enc Tryd.prog w base sp true n 3 [c2] = some xs[2] := g2
    have k3 : DataW.trod enc Tryd.prog w base sp true n 24 [c3] = some xs[3] := g3
    obtain ⟨a0, e0, _, w0⟩ := DataW.trod_int Tryd.underlying3 k0
    obtain ⟨a1, e1, _, w1⟩ := DataW.trod_int Tryd.underlying3 k1
    obtain ⟨a2, e2, _, w2⟩ := DataW.trod_int Tryd.underlying3 k2
    obtain ⟨L, A, c, e3, hm, hrow, hin, _, hw⟩ := open_recs_trod k3
    simp only [List.cons.injEq, and_true] at e0 e1 e2 e3
    subst e0 e1 e2 e3
    refine ⟨⟨a0, a1, a2, A, L, c⟩, rfl, ⟨by simp [Lit.wf, IntKind.min, IntKind.max, IntKind.signed, IntKind.bits] at w1; exact w1, hrow, hin, hm⟩, fun M hM => hw M (fun q hq => hM q ?_)⟩
    rw [hx]
    exact weights_field (i := 3) Tryd.underlying48 rfl (by simp only [List.getElem?_map]; rw [List.getElem?_eq_getElem (by omega)]; rfl) q hq
set_option maxRecDepth 100000 in
theorem streamSends_contract (H : Type) (enc : TypeId × Value → H) (W : World) (base : Nat) (args : Array Value) (ds gs : List (DataW H)) (before : List MemPlace)
    (hval0 : ∀ (j : Nat) t v, Tryd.f5.params[j]? = some t → args[j]? = some v → Value.okWide Tryd.prog W .any base t v)
    (hW : DataW.Whole enc Tryd.prog Tryd.f5.params.toList Rows.streamSendsSpec.vars false W args.toList ds gs before)
    (hsz0 : (DataW.weightsEach Tryd.prog (Tryd.f5.params.toList ++ (OpenSpec.ofChange Rows.streamSendsSpec).bare.plain.varTypes Tryd.prog) (ds ++ gs)).all (· ≤ reachBytes) = true) (hL : laidMetH Tryd.prog Rows.streamSendsRow.laid W) (hS : W.ShapedOpen Tryd.prog) :
    Calls Tryd.prog 5 args W fun e W' => ∃ v, e = .returned v ∧ Rows.streamSendsSpec.post enc Tryd.prog Tryd.f5 false true false false W args v W' := by
  have hval : ∀ (j : Nat) t v, Tryd.f5.params[j]? = some t → args[j]? = some v → Value.okWide Tryd.prog W .any base t v := hval0
  have hsz := hsz0
  have hW' := hW
  obtain ⟨p, q, hA0, hV, rfl, hfz, hnd⟩ := hW
  have hA : DataW.TrodAll enc Tryd.prog W 0 (fun _ => true) true Tryd.f5.params.toList args.toList ds p := hA0
  rw [Tryd.params5] at hA hval hsz
  have hsame : (Rows.streamSendsSpec.fn H (ds ++ gs)).results = [.lit (.bool true)] ∧ (Rows.streamSendsSpec.fn H (ds ++ gs)).args = ds ∧ (Rows.streamSendsSpec.fn H (ds ++ gs)).vars = [] → ∀ W', Below W.heap.size W W' → Rows.streamSendsSpec.post enc Tryd.prog Tryd.f5 false true false false W args (.bool true) W' :=
    fun h W' hb => law_post (tb := 4) hW' law_laid (by kernel_rfl) rfl Tryd.underlying4 h.1 h.2.1 rfl h.2.2 hb
  obtain ⟨v0, vs0, d0, ds0, p0, q0, hargs, rfl, rfl, h0, r0⟩ := trodAll_cons hA
  obtain ⟨v1, vs1, d1, ds1, p1, q1, rfl, rfl, rfl, h1, r1⟩ := trodAll_cons r0
  obtain ⟨v2, vs2, d2, ds2, p2, q2, rfl, rfl, rfl, h2, r2⟩ := trodAll_cons r1
  obtain ⟨v3, vs3, d3, ds3, p3, q3, rfl, rfl, rfl, h3, r3⟩ := trodAll_cons r2
  obtain ⟨rfl, rfl, rfl⟩ := trodAll_nil r3
  obtain rfl : args = #[v0, v1, v2, v3] := by cases args; simp_all
  obtain ⟨rfl, rfl⟩ := trodVars_none hV
  have hpost := hsame ⟨rfl, rfl, rfl⟩
  clear hsame hA0 hval0 hsz0
  obtain ⟨f, rfl, rfl, rfl, wf0⟩ := open_int Tryd.underlying3 (hval 0 3 v0 rfl rfl) h0
  obtain ⟨t, rfl, rfl, rfl, wf1⟩ := open_int Tryd.underlying3 (hval 1 3 v1 rfl rfl) h1
  obtain ⟨a, rfl, rfl, rfl, wf2⟩ := open_int Tryd.underlying3 (hval 2 3 v2 rfl rfl) h2
  obtain ⟨S, A, c, rfl, s1, s2, s3, s4, s5, s6⟩ := open_rows Ax.cs 4 (by omega) Ax.len Tryd.underlying45 act_cells (AxIn W) ActBd ⟨0, 0, 0, none, [], 0⟩ act_trod (hval 3 45 v3 rfl rfl) h3
  have hk := s6 _ (fun n hn => Nat.le_trans (sized_eachG hsz (j := 3) rfl rfl n hn) (show reachBytes ≤ 281474976710656 by unfold reachBytes; omega))
  have ht : Nib W := nib_of_laid hL
  exact (law_sends f t a A c S W ht s3 s4 hk).mono fun e W' ⟨he, hb⟩ => ⟨_, he, hpost W' hb⟩
theorem streamSends_reads (os : Os) {H : Type} (enc : TypeId × Value → H) : (DataW.whole enc Tryd.prog ((layW1 os).forCall (fun _ _ => 0) ⟨#[], #[.int .i64 0, .int .i64 0, .int .i64 0, .slice none 0 0], []⟩).memory Tryd.f5.params.toList Rows.streamSendsSpec.vars false #[.int .i64 0, .int .i64 0, .int .i64 0, .slice none 0 0].toList 8).isSome = true := by kernel_rfl
theorem streamSends_met (os : Os) : laidMet Tryd.prog Rows.streamSendsRow.laid ((layW1 os).forCall (fun _ _ => 0) ⟨#[], #[.int .i64 0, .int .i64 0, .int .i64 0, .slice none 0 0], []⟩).memory := laidMet_of_run' 8 (by kernel_rfl) (by kernel_rfl)
set_option maxRecDepth 100000 in
theorem streamSends_lifted (os : Os) (started : os.Started) (H : Type) (enc : TypeId × Value → H) (F : Stop.Interp) :
    ReturnsInHanded {} Tryd.checked os 5 .any ((OpenSpec.ofChange Rows.streamSendsSpec).preRow enc Tryd.prog Tryd.f5 Rows.streamSendsRow.domain false Rows.streamSendsRow.laid) (((OpenSpec.ofChange Rows.streamSendsSpec).at F).post enc Tryd.prog Tryd.f5 false true false false) := by
  obtain ⟨x, hx⟩ := Option.isSome_iff_exists.1 (streamSends_reads os enc)
  refine returnsInHanded_of_row (C := Tryd.checked) (s := OpenSpec.ofChange Rows.streamSendsSpec) law_own started (by kernel_rfl) Tryd.func5
    (witness_row_at (enc := enc) (C := Tryd.checked) false (layW1 os) #[.int .i64 0, .int .i64 0, .int .i64 0, .slice none 0 0] rfl (by kernel_rfl) (by kernel_rfl) (by kernel_rfl)
      (OpenSpec.preRow_of_cond 8 hx (by rfl) (fun k hk => by cases hk) (by kernel_rfl) (streamSends_met os))) ?_
  intro W base args ds gs before hval hW _ _ hsz hL hS _
  exact streamSends_contract H enc W base args ds gs before hval hW hsz hL hS
theorem streamSends_said : Rows.StreamSendsSaid :=
  OpenClaim.holds_of_cond 5 Tryd.f5 rfl rfl rfl rfl rfl rfl rfl ⟨rfl, rfl, rfl, rfl, rfl⟩ rfl rfl rfl rfl rfl (by kernel_rfl) Tryd.func5 (by kernel_rfl)
    (of_decide_eq_true (by kernel_rfl)) (by unfold Func.isWrapper; first | (rw [if_pos (by decide +kernel)]; kernel_rfl) | (rw [if_neg (by decide +kernel)]; exact ⟨rfl, rfl⟩))
    (fun os started H enc _ F => by rw [OpenClaim.pre_eq_preRow]; exact streamSends_lifted os started H enc F)
theorem streamSends_holds : Rows.StreamSendsCardSaid :=
  Claim7.holds_tied_plain_at .later [] _ _ _ _ streamSends_said (fun _ h => by cases h) (by kernel_rfl) (fun _ h => by cases h) streamSends_row_tie rfl ⟨rfl, rfl⟩ (by kernel_rfl) rfl (plain_of (f0 := 5) (fn0 := Tryd.f5) (by kernel_rfl) Tryd.func5 (by kernel_rfl) (by kernel_rfl)) (by kernel_rfl)
end Go.Proofs.YtdffldlcbihjmaaDoor

