/- frame.Decode, frame.One; the reference's Decode of a frame (written by gen/frdec.py). -/
import Derived.Test.YtdffldlcbihjmaaDoorFrEnc
import Derived.Deep.DeepCutAuto
set_option linter.unusedSimpArgs false
set_option linter.unusedVariables false
namespace Go.Proofs.YtdffldlcbihjmaaDoor
open Go.RowKit Go.Sort

theorem cell_new1 (W : World) (v : Value) (t : TypeId) : (W.alloc (.cells #[v] t)).cell? ⟨W.heap.size, 0, none⟩ = some v := by simp
theorem frP_len {l : List Int} {m : Nat} (hm : 8 + dec4 l = m) (hc : ¬ l.length < 12 + dec4 l) : (frP l).length = m - 8 := by
  unfold frP
  rw [List.length_take, List.length_drop]
  generalize dec4 l = n at *
  omega
theorem ByL.frP {W : World} {B O : Nat} {l : List Int} (h : ByL W (some ⟨B, O, none⟩) l) : ByL W (some ⟨B, O + 8, none⟩) (frP l) := by
  unfold Go.Proofs.YtdffldlcbihjmaaDoor.frP
  exact (h.drop 8).take _
/-- A part of bytes in memory, from n on. -/
theorem ByL.drop' {w : World} {B O : Nat} {l : List Int} (h : ByL w (some ⟨B, O, none⟩) l) (n m : Nat) (hm : l.length - n = m) : (l.drop n).length = m ∧ ByL w (some ⟨B, O + n, none⟩) (l.drop n) := ⟨by rw [List.length_drop]; exact hm, h.drop n⟩
set_option maxRecDepth 100000 in
set_option maxHeartbeats 4000000 in
theorem fr_dec_hsum (A : Option Addr) (l : List Int) (c : Nat) (w : World) (ht : Nib w) (hby : ByL w A l) (hb : isBy l) (hl : l.length ≤ 1000000) (hc : l.length ≤ c) (hcm : c ≤ maxLen) (h8 : ¬ l.length < 8) (hs : dec4 (l.drop 4) ≠ sumL (l.take 4)) :
    Calls Tryd.prog 92 #[.slice A l.length c] w fun e w' => (e = .returned (.tuple #[.slice none 0 0, .int .i64 0, .int .i64 4]) ∧ frC l = 4) ∧ Below w.heap.size w w' := by
  obtain ⟨B, O, rfl, hBl, _⟩ := hby (by omega)
  have HBY := Lib.hid (fun (W : World) (k : Below w.heap.size w W) => hby.below k)
  have hli : (l.length : Int) ≤ 1000000 := by omega
  have h8i : ¬ (l.length : Int) < 8 := by omega
  have h8n : ¬ l.length < 8 := by omega
  have hci : (l.length : Int) ≤ (c : Int) := by omega
  have hc4 : (4 : Int) ≤ (c : Int) := by omega
  have hl4 : (4 : Int) ≤ (l.length : Int) := by omega
  have hc8 : (8 : Int) ≤ (c : Int) := by omega
  have cn4 : ¬ c = 4 := by omega
  have cn0 : ¬ c = 0 := by omega
  have hcmi : (c : Int) ≤ 9223372036854775807 := by unfold maxLen at hcm; omega
  have HNB := Lib.hid (fun (W : World) (k : Below w.heap.size w W) => ht.below k)
  have HT1 : Hid (∀ W, Below w.heap.size w W → Calls Tryd.prog 105 #[.slice (some ⟨B, O + 4, none⟩) (l.length - 4) (c - 4)] W fun e w' => e = .returned (.int .u32 (dec4 (l.drop 4) : Nat)) ∧ ∃ q, w' = W.drewN q) := Lib.hid (fun W k => by
    have h := fr_take (some ⟨B, O + 4, none⟩) (l.drop 4) (c - 4) W ((HBY.out W k).drop 4) (isBy_drop hb 4) (by rw [List.length_drop]; omega)
    rwa [List.length_drop] at h)
  have HS1 : Hid (∀ (W : World) (g : Nat), Below w.heap.size w W → W.cell? ⟨g, 0, none⟩ = some (.slice (some ⟨B, O, none⟩) 4 c) → Calls Tryd.prog 83 #[.slice (some ⟨g, 0, none⟩) 1 1] W fun e w' => e = .returned (.int .u32 (sumL (l.take 4) : Nat)) ∧ W = w') := Lib.hid (fun W g k hg => by
    have h4 : (l.take 4).length = 4 := by rw [List.length_take]; omega
    exact oct_sum g 1 c (some ⟨B, O, none⟩) (l.take 4) W (HNB.out W k) (by rw [h4]; exact hg) ((HBY.out W k).take 4) (isBy_take hb 4) (by omega))
  have HE := Lib.hid (frC_hsum (by omega) hs)
  have t1 : ((dec4 (l.drop 4) : Int) != (sumL (l.take 4) : Int)) = true := by simp only [bne_iff_ne, ne_eq]; omega
  have t1' : (dec4 (l.drop 4) != sumL (l.take 4)) = true := by simpa using hs
  clear ht hby hb hl hc hcm h8 hs
  generalize dec4 (l.drop 4) = d4 at *
  generalize sumL (l.take 4) = s4 at *
  go_enter Tryd.func92, Tryd.ntmps92
  go_upto_region 3 with fail
  go_cut [17] (fun s wx => s = .bool true ∧ Below w.heap.size w wx)
  case first =>
    go_region_with (first | (go_at_call 105; refine (HT1.out _ (by (have hbq := (Below.refl w.heap.size w); have hbz := hbq.size; (repeat' (first | (with_reducible exact Below.refl _ _) | (with_reducible assumption) | (with_reducible refine Below.trans ?_ (Below.mono (by with_reducible assumption) ?_)) | (with_reducible refine Below.alloc ?_ ?_ _) | (with_reducible refine Below.setCell ?_ ?_ _) | (with_reducible refine below_drewN ?_ _) | (with_reducible refine Below.drew ?_) | go_size))))).mono ?_; rintro e w' ⟨rfl, q, rfl⟩) | (go_at_call 83; refine (HS1.out _ _ (by (have hbq := (Below.refl w.heap.size w); have hbz := hbq.size; (repeat' (first | (with_reducible exact Below.refl _ _) | (with_reducible assumption) | (with_reducible refine Below.trans ?_ (Below.mono (by with_reducible assumption) ?_)) | (with_reducible refine Below.alloc ?_ ?_ _) | (with_reducible refine Below.setCell ?_ ?_ _) | (with_reducible refine below_drewN ?_ _) | (with_reducible refine Below.drew ?_) | go_size)))) (by first | exact cell_new1 _ _ _ | exact cell_new1 w.drew _ _ | (simp [go_sem]; done))).mono ?_; rintro e w' ⟨rfl, rfl⟩))
    all_goals (go_wp2_with fail; go_meet; refine ⟨rfl, ?_⟩; (have hbq := (Below.refl w.heap.size w); have hbz := hbq.size; (repeat' (first | (with_reducible exact Below.refl _ _) | (with_reducible assumption) | (with_reducible refine Below.trans ?_ (Below.mono (by with_reducible assumption) ?_)) | (with_reducible refine Below.alloc ?_ ?_ _) | (with_reducible refine Below.setCell ?_ ?_ _) | (with_reducible refine below_drewN ?_ _) | (with_reducible refine Below.drew ?_) | go_size))))
  case rest =>
  obtain ⟨rfl, hBq⟩ := hcut
  go_wp2
  go_ret3
  exact ⟨⟨rfl, HE.out⟩, hBq⟩
set_option maxRecDepth 100000 in
set_option maxHeartbeats 4000000 in
theorem fr_dec_long (A : Option Addr) (l : List Int) (c : Nat) (w : World) (ht : Nib w) (hby : ByL w A l) (hb : isBy l) (hl : l.length ≤ 1000000) (hc : l.length ≤ c) (hcm : c ≤ maxLen) (h8 : ¬ l.length < 8) (hs : dec4 (l.drop 4) = sumL (l.take 4)) (hlong : 262144 < dec4 l) :
    Calls Tryd.prog 92 #[.slice A l.length c] w fun e w' => (e = .returned (.tuple #[.slice none 0 0, .int .i64 0, .int .i64 5]) ∧ frC l = 5) ∧ Below w.heap.size w w' := by
  obtain ⟨B, O, rfl, hBl, _⟩ := hby (by omega)
  have HBY := Lib.hid (fun (W : World) (k : Below w.heap.size w W) => hby.below k)
  have hli : (l.length : Int) ≤ 1000000 := by omega
  have h8i : ¬ (l.length : Int) < 8 := by omega
  have h8n : ¬ l.length < 8 := by omega
  have hci : (l.length : Int) ≤ (c : Int) := by omega
  have hc4 : (4 : Int) ≤ (c : Int) := by omega
  have hl4 : (4 : Int) ≤ (l.length : Int) := by omega
  have hc8 : (8 : Int) ≤ (c : Int) := by omega
  have cn4 : ¬ c = 4 := by omega
  have cn0 : ¬ c = 0 := by omega
  have hcmi : (c : Int) ≤ 9223372036854775807 := by unfold maxLen at hcm; omega
  have HNB := Lib.hid (fun (W : World) (k : Below w.heap.size w W) => ht.below k)
  have HT1 : Hid (∀ W, Below w.heap.size w W → Calls Tryd.prog 105 #[.slice (some ⟨B, O + 4, none⟩) (l.length - 4) (c - 4)] W fun e w' => e = .returned (.int .u32 (dec4 (l.drop 4) : Nat)) ∧ ∃ q, w' = W.drewN q) := Lib.hid (fun W k => by
    have h := fr_take (some ⟨B, O + 4, none⟩) (l.drop 4) (c - 4) W ((HBY.out W k).drop 4) (isBy_drop hb 4) (by rw [List.length_drop]; omega)
    rwa [List.length_drop] at h)
  have HS1 : Hid (∀ (W : World) (g : Nat), Below w.heap.size w W → W.cell? ⟨g, 0, none⟩ = some (.slice (some ⟨B, O, none⟩) 4 c) → Calls Tryd.prog 83 #[.slice (some ⟨g, 0, none⟩) 1 1] W fun e w' => e = .returned (.int .u32 (sumL (l.take 4) : Nat)) ∧ W = w') := Lib.hid (fun W g k hg => by
    have h4 : (l.take 4).length = 4 := by rw [List.length_take]; omega
    exact oct_sum g 1 c (some ⟨B, O, none⟩) (l.take 4) W (HNB.out W k) (by rw [h4]; exact hg) ((HBY.out W k).take 4) (isBy_take hb 4) (by omega))
  have t1 : ((dec4 (l.drop 4) : Int) != (sumL (l.take 4) : Int)) = false := by rw [hs]; simp
  have t1' : (dec4 (l.drop 4) != sumL (l.take 4)) = false := by rw [hs]; simp
  have HT2 : Hid (∀ W, Below w.heap.size w W → Calls Tryd.prog 105 #[.slice (some ⟨B, O, none⟩) l.length c] W fun e w' => e = .returned (.int .u32 (dec4 l : Nat)) ∧ ∃ q, w' = W.drewN q) := Lib.hid (fun W k => fr_take (some ⟨B, O, none⟩) l c W (HBY.out W k) hb (by omega))
  have hn32 := dec4_lt hb
  have hnw : IntKind.i64.wrap (dec4 l : Int) = (dec4 l : Int) := IntWalk.i64_in _ (by omega)
  have HE := Lib.hid (frC_long (by omega) hs hlong)
  have t2 : decide ((262144 : Int) < (dec4 l : Int)) = true := by simp; omega
  clear ht hby hb hl hc hcm h8 hs hlong hn32
  generalize dec4 (l.drop 4) = d4 at *
  generalize sumL (l.take 4) = s4 at *
  generalize dec4 l = n at *
  go_enter Tryd.func92, Tryd.ntmps92
  go_upto_region 3 with fail
  go_cut [17] (fun s wx => s = .bool false ∧ Below w.heap.size w wx)
  case first =>
    go_region_with (first | (go_at_call 105; refine (HT1.out _ (by (have hbq := (Below.refl w.heap.size w); have hbz := hbq.size; (repeat' (first | (with_reducible exact Below.refl _ _) | (with_reducible assumption) | (with_reducible refine Below.trans ?_ (Below.mono (by with_reducible assumption) ?_)) | (with_reducible refine Below.alloc ?_ ?_ _) | (with_reducible refine Below.setCell ?_ ?_ _) | (with_reducible refine below_drewN ?_ _) | (with_reducible refine Below.drew ?_) | go_size))))).mono ?_; rintro e w' ⟨rfl, q, rfl⟩) | (go_at_call 83; refine (HS1.out _ _ (by (have hbq := (Below.refl w.heap.size w); have hbz := hbq.size; (repeat' (first | (with_reducible exact Below.refl _ _) | (with_reducible assumption) | (with_reducible refine Below.trans ?_ (Below.mono (by with_reducible assumption) ?_)) | (with_reducible refine Below.alloc ?_ ?_ _) | (with_reducible refine Below.setCell ?_ ?_ _) | (with_reducible refine below_drewN ?_ _) | (with_reducible refine Below.drew ?_) | go_size)))) (by first | exact cell_new1 _ _ _ | exact cell_new1 w.drew _ _ | (simp [go_sem]; done))).mono ?_; rintro e w' ⟨rfl, rfl⟩))
    all_goals (go_wp2_with fail; go_meet; refine ⟨rfl, ?_⟩; (have hbq := (Below.refl w.heap.size w); have hbz := hbq.size; (repeat' (first | (with_reducible exact Below.refl _ _) | (with_reducible assumption) | (with_reducible refine Below.trans ?_ (Below.mono (by with_reducible assumption) ?_)) | (with_reducible refine Below.alloc ?_ ?_ _) | (with_reducible refine Below.setCell ?_ ?_ _) | (with_reducible refine below_drewN ?_ _) | (with_reducible refine Below.drew ?_) | go_size))))
  case rest =>
  obtain ⟨rfl, hBq⟩ := hcut
  have HBQ := Lib.hid hBq
  clear hBq
  go_wp2_with fail
  refine (HT2.out _ HBQ.out).mono ?_; rintro e w2 ⟨rfl, q2, hw2⟩
  have hb2 : Below w.heap.size w w2 := by rw [hw2]; exact below_drewN HBQ.out q2
  have HBW := Lib.hid hb2
  clear hb2 hw2 HBQ HT2
  go_wp2
  go_ret3
  exact ⟨⟨rfl, HE.out⟩, HBW.out⟩
set_option maxRecDepth 100000 in
set_option maxHeartbeats 4000000 in
theorem fr_dec_cut (A : Option Addr) (l : List Int) (c : Nat) (w : World) (ht : Nib w) (hby : ByL w A l) (hb : isBy l) (hl : l.length ≤ 1000000) (hc : l.length ≤ c) (hcm : c ≤ maxLen) (h8 : ¬ l.length < 8) (hs : dec4 (l.drop 4) = sumL (l.take 4)) (hlong : ¬ 262144 < dec4 l) (hcut : l.length < 12 + dec4 l) :
    Calls Tryd.prog 92 #[.slice A l.length c] w fun e w' => (e = .returned (.tuple #[.slice none 0 0, .int .i64 0, .int .i64 2]) ∧ frC l = 2) ∧ Below w.heap.size w w' := by
  obtain ⟨B, O, rfl, hBl, _⟩ := hby (by omega)
  have HBY := Lib.hid (fun (W : World) (k : Below w.heap.size w W) => hby.below k)
  have hli : (l.length : Int) ≤ 1000000 := by omega
  have h8i : ¬ (l.length : Int) < 8 := by omega
  have h8n : ¬ l.length < 8 := by omega
  have hci : (l.length : Int) ≤ (c : Int) := by omega
  have hc4 : (4 : Int) ≤ (c : Int) := by omega
  have hl4 : (4 : Int) ≤ (l.length : Int) := by omega
  have hc8 : (8 : Int) ≤ (c : Int) := by omega
  have cn4 : ¬ c = 4 := by omega
  have cn0 : ¬ c = 0 := by omega
  have hcmi : (c : Int) ≤ 9223372036854775807 := by unfold maxLen at hcm; omega
  have HNB := Lib.hid (fun (W : World) (k : Below w.heap.size w W) => ht.below k)
  have HT1 : Hid (∀ W, Below w.heap.size w W → Calls Tryd.prog 105 #[.slice (some ⟨B, O + 4, none⟩) (l.length - 4) (c - 4)] W fun e w' => e = .returned (.int .u32 (dec4 (l.drop 4) : Nat)) ∧ ∃ q, w' = W.drewN q) := Lib.hid (fun W k => by
    have h := fr_take (some ⟨B, O + 4, none⟩) (l.drop 4) (c - 4) W ((HBY.out W k).drop 4) (isBy_drop hb 4) (by rw [List.length_drop]; omega)
    rwa [List.length_drop] at h)
  have HS1 : Hid (∀ (W : World) (g : Nat), Below w.heap.size w W → W.cell? ⟨g, 0, none⟩ = some (.slice (some ⟨B, O, none⟩) 4 c) → Calls Tryd.prog 83 #[.slice (some ⟨g, 0, none⟩) 1 1] W fun e w' => e = .returned (.int .u32 (sumL (l.take 4) : Nat)) ∧ W = w') := Lib.hid (fun W g k hg => by
    have h4 : (l.take 4).length = 4 := by rw [List.length_take]; omega
    exact oct_sum g 1 c (some ⟨B, O, none⟩) (l.take 4) W (HNB.out W k) (by rw [h4]; exact hg) ((HBY.out W k).take 4) (isBy_take hb 4) (by omega))
  have t1 : ((dec4 (l.drop 4) : Int) != (sumL (l.take 4) : Int)) = false := by rw [hs]; simp
  have t1' : (dec4 (l.drop 4) != sumL (l.take 4)) = false := by rw [hs]; simp
  have HT2 : Hid (∀ W, Below w.heap.size w W → Calls Tryd.prog 105 #[.slice (some ⟨B, O, none⟩) l.length c] W fun e w' => e = .returned (.int .u32 (dec4 l : Nat)) ∧ ∃ q, w' = W.drewN q) := Lib.hid (fun W k => fr_take (some ⟨B, O, none⟩) l c W (HBY.out W k) hb (by omega))
  have hn32 := dec4_lt hb
  have hnw : IntKind.i64.wrap (dec4 l : Int) = (dec4 l : Int) := IntWalk.i64_in _ (by omega)
  have t2 : decide ((262144 : Int) < (dec4 l : Int)) = false := by simp; omega
  obtain ⟨m, hm⟩ : ∃ m, 8 + dec4 l = m := ⟨_, rfl⟩
  have hmi : (8 : Int) + (dec4 l : Int) = (m : Int) := by omega
  have hm2 : (m : Int) ≤ 262152 := by omega
  have HE := Lib.hid (frC_cut (by omega) hs hlong hcut)
  have t3 : (l.length : Int) < (m : Int) + 4 := by omega
  have t3' : l.length < m + 4 := by omega
  clear ht hby hb hl hc hcm h8 hs hlong hcut hn32 hm
  generalize dec4 (l.drop 4) = d4 at *
  generalize sumL (l.take 4) = s4 at *
  generalize dec4 l = n at *
  go_enter Tryd.func92, Tryd.ntmps92
  go_upto_region 3 with fail
  go_cut [17] (fun s wx => s = .bool false ∧ Below w.heap.size w wx)
  case first =>
    go_region_with (first | (go_at_call 105; refine (HT1.out _ (by (have hbq := (Below.refl w.heap.size w); have hbz := hbq.size; (repeat' (first | (with_reducible exact Below.refl _ _) | (with_reducible assumption) | (with_reducible refine Below.trans ?_ (Below.mono (by with_reducible assumption) ?_)) | (with_reducible refine Below.alloc ?_ ?_ _) | (with_reducible refine Below.setCell ?_ ?_ _) | (with_reducible refine below_drewN ?_ _) | (with_reducible refine Below.drew ?_) | go_size))))).mono ?_; rintro e w' ⟨rfl, q, rfl⟩) | (go_at_call 83; refine (HS1.out _ _ (by (have hbq := (Below.refl w.heap.size w); have hbz := hbq.size; (repeat' (first | (with_reducible exact Below.refl _ _) | (with_reducible assumption) | (with_reducible refine Below.trans ?_ (Below.mono (by with_reducible assumption) ?_)) | (with_reducible refine Below.alloc ?_ ?_ _) | (with_reducible refine Below.setCell ?_ ?_ _) | (with_reducible refine below_drewN ?_ _) | (with_reducible refine Below.drew ?_) | go_size)))) (by first | exact cell_new1 _ _ _ | exact cell_new1 w.drew _ _ | (simp [go_sem]; done))).mono ?_; rintro e w' ⟨rfl, rfl⟩))
    all_goals (go_wp2_with fail; go_meet; refine ⟨rfl, ?_⟩; (have hbq := (Below.refl w.heap.size w); have hbz := hbq.size; (repeat' (first | (with_reducible exact Below.refl _ _) | (with_reducible assumption) | (with_reducible refine Below.trans ?_ (Below.mono (by with_reducible assumption) ?_)) | (with_reducible refine Below.alloc ?_ ?_ _) | (with_reducible refine Below.setCell ?_ ?_ _) | (with_reducible refine below_drewN ?_ _) | (with_reducible refine Below.drew ?_) | go_size))))
  case rest =>
  obtain ⟨rfl, hBq⟩ := hcut
  have HBQ := Lib.hid hBq
  clear hBq
  go_wp2_with fail
  refine (HT2.out _ HBQ.out).mono ?_; rintro e w2 ⟨rfl, q2, hw2⟩
  have hb2 : Below w.heap.size w w2 := by rw [hw2]; exact below_drewN HBQ.out q2
  have HBW := Lib.hid hb2
  clear hb2 hw2 HBQ HT2
  go_wp2
  go_ret3
  exact ⟨⟨rfl, HE.out⟩, HBW.out⟩
set_option maxRecDepth 100000 in
set_option maxHeartbeats 4000000 in
theorem fr_dec_bsum (A : Option Addr) (l : List Int) (c : Nat) (w : World) (ht : Nib w) (hby : ByL w A l) (hb : isBy l) (hl : l.length ≤ 1000000) (hc : l.length ≤ c) (hcm : c ≤ maxLen) (h8 : ¬ l.length < 8) (hs : dec4 (l.drop 4) = sumL (l.take 4)) (hlong : ¬ 262144 < dec4 l) (hcut : ¬ l.length < 12 + dec4 l) (hs2 : dec4 (l.drop (8 + dec4 l)) ≠ sumL (l.take (8 + dec4 l))) :
    Calls Tryd.prog 92 #[.slice A l.length c] w fun e w' => (e = .returned (.tuple #[.slice none 0 0, .int .i64 0, .int .i64 4]) ∧ frC l = 4) ∧ Below w.heap.size w w' := by
  have HS2 := Lib.hid hs2
  clear hs2
  obtain ⟨B, O, rfl, hBl, _⟩ := hby (by omega)
  have HBY := Lib.hid (fun (W : World) (k : Below w.heap.size w W) => hby.below k)
  have hli : (l.length : Int) ≤ 1000000 := by omega
  have h8i : ¬ (l.length : Int) < 8 := by omega
  have h8n : ¬ l.length < 8 := by omega
  have hci : (l.length : Int) ≤ (c : Int) := by omega
  have hc4 : (4 : Int) ≤ (c : Int) := by omega
  have hl4 : (4 : Int) ≤ (l.length : Int) := by omega
  have hc8 : (8 : Int) ≤ (c : Int) := by omega
  have cn4 : ¬ c = 4 := by omega
  have cn0 : ¬ c = 0 := by omega
  have hcmi : (c : Int) ≤ 9223372036854775807 := by unfold maxLen at hcm; omega
  have HNB := Lib.hid (fun (W : World) (k : Below w.heap.size w W) => ht.below k)
  have HT1 : Hid (∀ W, Below w.heap.size w W → Calls Tryd.prog 105 #[.slice (some ⟨B, O + 4, none⟩) (l.length - 4) (c - 4)] W fun e w' => e = .returned (.int .u32 (dec4 (l.drop 4) : Nat)) ∧ ∃ q, w' = W.drewN q) := Lib.hid (fun W k => by
    have h := fr_take (some ⟨B, O + 4, none⟩) (l.drop 4) (c - 4) W ((HBY.out W k).drop 4) (isBy_drop hb 4) (by rw [List.length_drop]; omega)
    rwa [List.length_drop] at h)
  have HS1 : Hid (∀ (W : World) (g : Nat), Below w.heap.size w W → W.cell? ⟨g, 0, none⟩ = some (.slice (some ⟨B, O, none⟩) 4 c) → Calls Tryd.prog 83 #[.slice (some ⟨g, 0, none⟩) 1 1] W fun e w' => e = .returned (.int .u32 (sumL (l.take 4) : Nat)) ∧ W = w') := Lib.hid (fun W g k hg => by
    have h4 : (l.take 4).length = 4 := by rw [List.length_take]; omega
    exact oct_sum g 1 c (some ⟨B, O, none⟩) (l.take 4) W (HNB.out W k) (by rw [h4]; exact hg) ((HBY.out W k).take 4) (isBy_take hb 4) (by omega))
  have t1 : ((dec4 (l.drop 4) : Int) != (sumL (l.take 4) : Int)) = false := by rw [hs]; simp
  have t1' : (dec4 (l.drop 4) != sumL (l.take 4)) = false := by rw [hs]; simp
  have HT2 : Hid (∀ W, Below w.heap.size w W → Calls Tryd.prog 105 #[.slice (some ⟨B, O, none⟩) l.length c] W fun e w' => e = .returned (.int .u32 (dec4 l : Nat)) ∧ ∃ q, w' = W.drewN q) := Lib.hid (fun W k => fr_take (some ⟨B, O, none⟩) l c W (HBY.out W k) hb (by omega))
  have hn32 := dec4_lt hb
  have hnw : IntKind.i64.wrap (dec4 l : Int) = (dec4 l : Int) := IntWalk.i64_in _ (by omega)
  have t2 : decide ((262144 : Int) < (dec4 l : Int)) = false := by simp; omega
  obtain ⟨m, hm⟩ : ∃ m, 8 + dec4 l = m := ⟨_, rfl⟩
  have hmi : (8 : Int) + (dec4 l : Int) = (m : Int) := by omega
  have hm2 : (m : Int) ≤ 262152 := by omega
  have t3 : ¬ (l.length : Int) < (m : Int) + 4 := by omega
  have t3' : ¬ l.length < m + 4 := by omega
  have hmc : (m : Int) ≤ (c : Int) := by omega
  have hml : (m : Int) ≤ (l.length : Int) := by omega
  have hm8 : (8 : Int) ≤ (m : Int) := by omega
  have cnm : ¬ c = m := by omega
  have cn8 : ¬ c = 8 := by omega
  have HT3 : Hid (∀ W, Below w.heap.size w W → Calls Tryd.prog 105 #[.slice (some ⟨B, O + m, none⟩) (l.length - m) (c - m)] W fun e w' => e = .returned (.int .u32 (dec4 (l.drop (8 + dec4 l)) : Nat)) ∧ ∃ q, w' = W.drewN q) := Lib.hid (fun W k => by
    rw [hm]
    have h := fr_take (some ⟨B, O + m, none⟩) (l.drop m) (c - m) W ((HBY.out W k).drop m) (isBy_drop hb m) (by rw [List.length_drop]; omega)
    rwa [List.length_drop] at h)
  have HS3 : Hid (∀ (W : World) (g : Nat), Below w.heap.size w W → W.cell? ⟨g, 0, none⟩ = some (.slice (some ⟨B, O, none⟩) m c) → Calls Tryd.prog 83 #[.slice (some ⟨g, 0, none⟩) 1 1] W fun e w' => e = .returned (.int .u32 (sumL (l.take (8 + dec4 l)) : Nat)) ∧ W = w') := Lib.hid (fun W g k hg => by
    rw [hm]
    have h4 : (l.take m).length = m := by rw [List.length_take]; omega
    exact oct_sum g 1 c (some ⟨B, O, none⟩) (l.take m) W (HNB.out W k) (by rw [h4]; exact hg) ((HBY.out W k).take m) (isBy_take hb m) (by omega))
  have HE := Lib.hid (frC_bsum (by omega) hs hlong hcut HS2.out)
  have t4 : ((dec4 (l.drop (8 + dec4 l)) : Int) != (sumL (l.take (8 + dec4 l)) : Int)) = true := by simp only [bne_iff_ne, ne_eq]; exact fun q => HS2.out (by exact_mod_cast q)
  have t4' : (dec4 (l.drop (8 + dec4 l)) != sumL (l.take (8 + dec4 l))) = true := by simpa using HS2.out
  clear ht hby hb hl hc hcm h8 hs HS2 hlong hcut hn32 hm
  generalize dec4 (l.drop 4) = d4 at *
  generalize sumL (l.take 4) = s4 at *
  generalize dec4 (l.drop (8 + dec4 l)) = d8 at *
  generalize sumL (l.take (8 + dec4 l)) = s8 at *
  generalize dec4 l = n at *
  go_enter Tryd.func92, Tryd.ntmps92
  go_upto_region 3 with fail
  go_cut [17] (fun s wx => s = .bool false ∧ Below w.heap.size w wx)
  case first =>
    go_region_with (first | (go_at_call 105; refine (HT1.out _ (by (have hbq := (Below.refl w.heap.size w); have hbz := hbq.size; (repeat' (first | (with_reducible exact Below.refl _ _) | (with_reducible assumption) | (with_reducible refine Below.trans ?_ (Below.mono (by with_reducible assumption) ?_)) | (with_reducible refine Below.alloc ?_ ?_ _) | (with_reducible refine Below.setCell ?_ ?_ _) | (with_reducible refine below_drewN ?_ _) | (with_reducible refine Below.drew ?_) | go_size))))).mono ?_; rintro e w' ⟨rfl, q, rfl⟩) | (go_at_call 83; refine (HS1.out _ _ (by (have hbq := (Below.refl w.heap.size w); have hbz := hbq.size; (repeat' (first | (with_reducible exact Below.refl _ _) | (with_reducible assumption) | (with_reducible refine Below.trans ?_ (Below.mono (by with_reducible assumption) ?_)) | (with_reducible refine Below.alloc ?_ ?_ _) | (with_reducible refine Below.setCell ?_ ?_ _) | (with_reducible refine below_drewN ?_ _) | (with_reducible refine Below.drew ?_) | go_size)))) (by first | exact cell_new1 _ _ _ | exact cell_new1 w.drew _ _ | (simp [go_sem]; done))).mono ?_; rintro e w' ⟨rfl, rfl⟩))
    all_goals (go_wp2_with fail; go_meet; refine ⟨rfl, ?_⟩; (have hbq := (Below.refl w.heap.size w); have hbz := hbq.size; (repeat' (first | (with_reducible exact Below.refl _ _) | (with_reducible assumption) | (with_reducible refine Below.trans ?_ (Below.mono (by with_reducible assumption) ?_)) | (with_reducible refine Below.alloc ?_ ?_ _) | (with_reducible refine Below.setCell ?_ ?_ _) | (with_reducible refine below_drewN ?_ _) | (with_reducible refine Below.drew ?_) | go_size))))
  case rest =>
  obtain ⟨rfl, hBq⟩ := hcut
  have HBQ := Lib.hid hBq
  clear hBq
  go_wp2_with fail
  refine (HT2.out _ HBQ.out).mono ?_; rintro e w2 ⟨rfl, q2, hw2⟩
  have hb2 : Below w.heap.size w w2 := by rw [hw2]; exact below_drewN HBQ.out q2
  have HBW := Lib.hid hb2
  clear hb2 hw2 HBQ HT2
  go_upto_region 11 with fail
  go_cut [39] (fun s wx => s = .bool true ∧ Below w.heap.size w wx)
  case first =>
    go_region_with (first | (go_at_call 105; refine (HT3.out _ (by (have hbq := HBW.out; have hbz := hbq.size; (repeat' (first | (with_reducible exact Below.refl _ _) | (with_reducible assumption) | (with_reducible refine Below.trans ?_ (Below.mono (by with_reducible assumption) ?_)) | (with_reducible refine Below.alloc ?_ ?_ _) | (with_reducible refine Below.setCell ?_ ?_ _) | (with_reducible refine below_drewN ?_ _) | (with_reducible refine Below.drew ?_) | go_size))))).mono ?_; rintro e w' ⟨rfl, q, rfl⟩) | (go_at_call 83; refine (HS3.out _ _ (by (have hbq := HBW.out; have hbz := hbq.size; (repeat' (first | (with_reducible exact Below.refl _ _) | (with_reducible assumption) | (with_reducible refine Below.trans ?_ (Below.mono (by with_reducible assumption) ?_)) | (with_reducible refine Below.alloc ?_ ?_ _) | (with_reducible refine Below.setCell ?_ ?_ _) | (with_reducible refine below_drewN ?_ _) | (with_reducible refine Below.drew ?_) | go_size)))) (by first | exact cell_new1 _ _ _ | exact cell_new1 w2.drew _ _ | (simp [go_sem]; done))).mono ?_; rintro e w' ⟨rfl, rfl⟩))
    all_goals (go_wp2_with fail; go_meet; refine ⟨rfl, ?_⟩; (have hbq := HBW.out; have hbz := hbq.size; (repeat' (first | (with_reducible exact Below.refl _ _) | (with_reducible assumption) | (with_reducible refine Below.trans ?_ (Below.mono (by with_reducible assumption) ?_)) | (with_reducible refine Below.alloc ?_ ?_ _) | (with_reducible refine Below.setCell ?_ ?_ _) | (with_reducible refine below_drewN ?_ _) | (with_reducible refine Below.drew ?_) | go_size))))
  case rest =>
  obtain ⟨rfl, hBq⟩ := hcut
  go_wp2
  go_ret3
  exact ⟨⟨rfl, HE.out⟩, hBq⟩
set_option maxRecDepth 100000 in
set_option maxHeartbeats 4000000 in
theorem fr_dec_yes (A : Option Addr) (l : List Int) (c : Nat) (w : World) (ht : Nib w) (hby : ByL w A l) (hb : isBy l) (hl : l.length ≤ 1000000) (hc : l.length ≤ c) (hcm : c ≤ maxLen) (h8 : ¬ l.length < 8) (hs : dec4 (l.drop 4) = sumL (l.take 4)) (hlong : ¬ 262144 < dec4 l) (hcut : ¬ l.length < 12 + dec4 l) (hs2 : dec4 (l.drop (8 + dec4 l)) = sumL (l.take (8 + dec4 l))) :
    Calls Tryd.prog 92 #[.slice A l.length c] w fun e w' => ((∃ g cap, e = .returned (.tuple #[.slice (some ⟨g, 0, none⟩) (frP l).length cap, .int .i64 (12 + dec4 l : Nat), .int .i64 0]) ∧ Own8 w.heap.size w' (.slice (some ⟨g, 0, none⟩) (frP l).length cap) (frP l)) ∧ frC l = 0) ∧ Below w.heap.size w w' := by
  have HS2 := Lib.hid hs2
  clear hs2
  obtain ⟨B, O, rfl, hBl, _⟩ := hby (by omega)
  have HBY := Lib.hid (fun (W : World) (k : Below w.heap.size w W) => hby.below k)
  have hli : (l.length : Int) ≤ 1000000 := by omega
  have h8i : ¬ (l.length : Int) < 8 := by omega
  have h8n : ¬ l.length < 8 := by omega
  have hci : (l.length : Int) ≤ (c : Int) := by omega
  have hc4 : (4 : Int) ≤ (c : Int) := by omega
  have hl4 : (4 : Int) ≤ (l.length : Int) := by omega
  have hc8 : (8 : Int) ≤ (c : Int) := by omega
  have cn4 : ¬ c = 4 := by omega
  have cn0 : ¬ c = 0 := by omega
  have hcmi : (c : Int) ≤ 9223372036854775807 := by unfold maxLen at hcm; omega
  have HNB := Lib.hid (fun (W : World) (k : Below w.heap.size w W) => ht.below k)
  have HT1 : Hid (∀ W, Below w.heap.size w W → Calls Tryd.prog 105 #[.slice (some ⟨B, O + 4, none⟩) (l.length - 4) (c - 4)] W fun e w' => e = .returned (.int .u32 (dec4 (l.drop 4) : Nat)) ∧ ∃ q, w' = W.drewN q) := Lib.hid (fun W k => by
    have h := fr_take (some ⟨B, O + 4, none⟩) (l.drop 4) (c - 4) W ((HBY.out W k).drop 4) (isBy_drop hb 4) (by rw [List.length_drop]; omega)
    rwa [List.length_drop] at h)
  have HS1 : Hid (∀ (W : World) (g : Nat), Below w.heap.size w W → W.cell? ⟨g, 0, none⟩ = some (.slice (some ⟨B, O, none⟩) 4 c) → Calls Tryd.prog 83 #[.slice (some ⟨g, 0, none⟩) 1 1] W fun e w' => e = .returned (.int .u32 (sumL (l.take 4) : Nat)) ∧ W = w') := Lib.hid (fun W g k hg => by
    have h4 : (l.take 4).length = 4 := by rw [List.length_take]; omega
    exact oct_sum g 1 c (some ⟨B, O, none⟩) (l.take 4) W (HNB.out W k) (by rw [h4]; exact hg) ((HBY.out W k).take 4) (isBy_take hb 4) (by omega))
  have t1 : ((dec4 (l.drop 4) : Int) != (sumL (l.take 4) : Int)) = false := by rw [hs]; simp
  have t1' : (dec4 (l.drop 4) != sumL (l.take 4)) = false := by rw [hs]; simp
  have HT2 : Hid (∀ W, Below w.heap.size w W → Calls Tryd.prog 105 #[.slice (some ⟨B, O, none⟩) l.length c] W fun e w' => e = .returned (.int .u32 (dec4 l : Nat)) ∧ ∃ q, w' = W.drewN q) := Lib.hid (fun W k => fr_take (some ⟨B, O, none⟩) l c W (HBY.out W k) hb (by omega))
  have hn32 := dec4_lt hb
  have hnw : IntKind.i64.wrap (dec4 l : Int) = (dec4 l : Int) := IntWalk.i64_in _ (by omega)
  have t2 : decide ((262144 : Int) < (dec4 l : Int)) = false := by simp; omega
  obtain ⟨m, hm⟩ : ∃ m, 8 + dec4 l = m := ⟨_, rfl⟩
  have hmi : (8 : Int) + (dec4 l : Int) = (m : Int) := by omega
  have hm2 : (m : Int) ≤ 262152 := by omega
  have t3 : ¬ (l.length : Int) < (m : Int) + 4 := by omega
  have t3' : ¬ l.length < m + 4 := by omega
  have hmc : (m : Int) ≤ (c : Int) := by omega
  have hml : (m : Int) ≤ (l.length : Int) := by omega
  have hm8 : (8 : Int) ≤ (m : Int) := by omega
  have cnm : ¬ c = m := by omega
  have cn8 : ¬ c = 8 := by omega
  have HT3 : Hid (∀ W, Below w.heap.size w W → Calls Tryd.prog 105 #[.slice (some ⟨B, O + m, none⟩) (l.length - m) (c - m)] W fun e w' => e = .returned (.int .u32 (dec4 (l.drop (8 + dec4 l)) : Nat)) ∧ ∃ q, w' = W.drewN q) := Lib.hid (fun W k => by
    rw [hm]
    have h := fr_take (some ⟨B, O + m, none⟩) (l.drop m) (c - m) W ((HBY.out W k).drop m) (isBy_drop hb m) (by rw [List.length_drop]; omega)
    rwa [List.length_drop] at h)
  have HS3 : Hid (∀ (W : World) (g : Nat), Below w.heap.size w W → W.cell? ⟨g, 0, none⟩ = some (.slice (some ⟨B, O, none⟩) m c) → Calls Tryd.prog 83 #[.slice (some ⟨g, 0, none⟩) 1 1] W fun e w' => e = .returned (.int .u32 (sumL (l.take (8 + dec4 l)) : Nat)) ∧ W = w') := Lib.hid (fun W g k hg => by
    rw [hm]
    have h4 : (l.take m).length = m := by rw [List.length_take]; omega
    exact oct_sum g 1 c (some ⟨B, O, none⟩) (l.take m) W (HNB.out W k) (by rw [h4]; exact hg) ((HBY.out W k).take m) (isBy_take hb m) (by omega))
  have HE := Lib.hid (frC_yes (by omega) hs hlong hcut HS2.out)
  have t4 : ((dec4 (l.drop (8 + dec4 l)) : Int) != (sumL (l.take (8 + dec4 l)) : Int)) = false := by rw [HS2.out]; simp
  have t4' : (dec4 (l.drop (8 + dec4 l)) != sumL (l.take (8 + dec4 l))) = false := by rw [HS2.out]; simp
  have hpl := frP_len hm hcut
  have HP8 := Lib.hid (fun (W : World) (k : Below w.heap.size w W) => (HBY.out W k).frP)
  have HJ : Hid (∀ (W : World) (g : Nat), Below w.heap.size w W → g < W.heap.size → W.cell? ⟨g, 0, none⟩ = some (.slice (some ⟨B, O + 8, none⟩) (m - 8) (c - 8)) → Calls Tryd.prog 84 #[.slice (some ⟨g, 0, none⟩) 1 1] W fun e w' => Told8 (frP l) W w' e ∧ Below W.heap.size W w') := Lib.hid (fun W g k hg hz => oct_join g 1 (c - 8) (some ⟨B, O + 8, none⟩) (frP l) W hg (by rw [hpl]; exact hz) (HP8.out W k) (fun e => by cases e) (by rw [hpl]; omega))
  clear hpl HP8
  have HNM := Lib.hid hm
  clear ht hby hb hl hc hcm h8 hs HS2 hlong hcut hn32 hm
  generalize dec4 (l.drop 4) = d4 at *
  generalize sumL (l.take 4) = s4 at *
  generalize dec4 (l.drop (8 + dec4 l)) = d8 at *
  generalize sumL (l.take (8 + dec4 l)) = s8 at *
  generalize dec4 l = n at *
  go_enter Tryd.func92, Tryd.ntmps92
  go_upto_region 3 with fail
  go_cut [17] (fun s wx => s = .bool false ∧ Below w.heap.size w wx)
  case first =>
    go_region_with (first | (go_at_call 105; refine (HT1.out _ (by (have hbq := (Below.refl w.heap.size w); have hbz := hbq.size; (repeat' (first | (with_reducible exact Below.refl _ _) | (with_reducible assumption) | (with_reducible refine Below.trans ?_ (Below.mono (by with_reducible assumption) ?_)) | (with_reducible refine Below.alloc ?_ ?_ _) | (with_reducible refine Below.setCell ?_ ?_ _) | (with_reducible refine below_drewN ?_ _) | (with_reducible refine Below.drew ?_) | go_size))))).mono ?_; rintro e w' ⟨rfl, q, rfl⟩) | (go_at_call 83; refine (HS1.out _ _ (by (have hbq := (Below.refl w.heap.size w); have hbz := hbq.size; (repeat' (first | (with_reducible exact Below.refl _ _) | (with_reducible assumption) | (with_reducible refine Below.trans ?_ (Below.mono (by with_reducible assumption) ?_)) | (with_reducible refine Below.alloc ?_ ?_ _) | (with_reducible refine Below.setCell ?_ ?_ _) | (with_reducible refine below_drewN ?_ _) | (with_reducible refine Below.drew ?_) | go_size)))) (by first | exact cell_new1 _ _ _ | exact cell_new1 w.drew _ _ | (simp [go_sem]; done))).mono ?_; rintro e w' ⟨rfl, rfl⟩))
    all_goals (go_wp2_with fail; go_meet; refine ⟨rfl, ?_⟩; (have hbq := (Below.refl w.heap.size w); have hbz := hbq.size; (repeat' (first | (with_reducible exact Below.refl _ _) | (with_reducible assumption) | (with_reducible refine Below.trans ?_ (Below.mono (by with_reducible assumption) ?_)) | (with_reducible refine Below.alloc ?_ ?_ _) | (with_reducible refine Below.setCell ?_ ?_ _) | (with_reducible refine below_drewN ?_ _) | (with_reducible refine Below.drew ?_) | go_size))))
  case rest =>
  obtain ⟨rfl, hBq⟩ := hcut
  have HBQ := Lib.hid hBq
  clear hBq
  go_wp2_with fail
  refine (HT2.out _ HBQ.out).mono ?_; rintro e w2 ⟨rfl, q2, hw2⟩
  have hb2 : Below w.heap.size w w2 := by rw [hw2]; exact below_drewN HBQ.out q2
  have HBW := Lib.hid hb2
  clear hb2 hw2 HBQ HT2
  go_upto_region 11 with fail
  go_cut [39] (fun s wx => s = .bool false ∧ Below w.heap.size w wx)
  case first =>
    go_region_with (first | (go_at_call 105; refine (HT3.out _ (by (have hbq := HBW.out; have hbz := hbq.size; (repeat' (first | (with_reducible exact Below.refl _ _) | (with_reducible assumption) | (with_reducible refine Below.trans ?_ (Below.mono (by with_reducible assumption) ?_)) | (with_reducible refine Below.alloc ?_ ?_ _) | (with_reducible refine Below.setCell ?_ ?_ _) | (with_reducible refine below_drewN ?_ _) | (with_reducible refine Below.drew ?_) | go_size))))).mono ?_; rintro e w' ⟨rfl, q, rfl⟩) | (go_at_call 83; refine (HS3.out _ _ (by (have hbq := HBW.out; have hbz := hbq.size; (repeat' (first | (with_reducible exact Below.refl _ _) | (with_reducible assumption) | (with_reducible refine Below.trans ?_ (Below.mono (by with_reducible assumption) ?_)) | (with_reducible refine Below.alloc ?_ ?_ _) | (with_reducible refine Below.setCell ?_ ?_ _) | (with_reducible refine below_drewN ?_ _) | (with_reducible refine Below.drew ?_) | go_size)))) (by first | exact cell_new1 _ _ _ | exact cell_new1 w2.drew _ _ | (simp [go_sem]; done))).mono ?_; rintro e w' ⟨rfl, rfl⟩))
    all_goals (go_wp2_with fail; go_meet; refine ⟨rfl, ?_⟩; (have hbq := HBW.out; have hbz := hbq.size; (repeat' (first | (with_reducible exact Below.refl _ _) | (with_reducible assumption) | (with_reducible refine Below.trans ?_ (Below.mono (by with_reducible assumption) ?_)) | (with_reducible refine Below.alloc ?_ ?_ _) | (with_reducible refine Below.setCell ?_ ?_ _) | (with_reducible refine below_drewN ?_ _) | (with_reducible refine Below.drew ?_) | go_size))))
  case rest =>
  obtain ⟨rfl, hBq⟩ := hcut
  have HBX := Lib.hid hBq
  have hbz := hBq.size
  clear hBq
  go_wp2_with fail
  refine (HJ.out _ _ (by (have hbq := HBX.out); (repeat' (first | (with_reducible exact Below.refl _ _) | (with_reducible assumption) | (with_reducible refine Below.trans ?_ (Below.mono (by with_reducible assumption) ?_)) | (with_reducible refine Below.alloc ?_ ?_ _) | (with_reducible refine Below.setCell ?_ ?_ _) | (with_reducible refine below_drewN ?_ _) | (with_reducible refine Below.drew ?_) | go_size))) (by simp) (by first | exact cell_new1 _ _ _ | (simp [go_sem]; done))).mono ?_; rintro e w4 ⟨⟨g, cap, rfl, hown⟩, k4⟩
  have hb4 : Below w.heap.size w w4 := by
    have hbq := HBX.out
    refine Below.trans ?_ (k4.mono ?_)
    · (repeat' (first | (with_reducible exact Below.refl _ _) | (with_reducible assumption) | (with_reducible refine Below.trans ?_ (Below.mono (by with_reducible assumption) ?_)) | (with_reducible refine Below.alloc ?_ ?_ _) | (with_reducible refine Below.setCell ?_ ?_ _) | (with_reducible refine below_drewN ?_ _) | (with_reducible refine Below.drew ?_) | go_size))
    · simp; omega
  have HB4 := Lib.hid hb4
  have HO := Lib.hid (own_base (base' := w.heap.size) (by simp; omega) hown)
  have hme : (m : Int) + 4 = ((12 + n : Nat) : Int) := by have := HNM.out; omega
  have HME := Lib.hid hme
  clear hown k4 hb4 HJ hme
  go_wp2
  go_ret3
  exact ⟨⟨⟨g, cap, by rw [← HME.out]; rfl, HO.out⟩, HE.out⟩, HB4.out⟩
theorem fr_dec_short (A : Option Addr) (n c : Nat) (w : World) (h : n < 8) :
    Calls Tryd.prog 92 #[.slice A n c] w fun e w' => e = .returned (.tuple #[.slice none 0 0, .int .i64 0, .int .i64 2]) ∧ Below w.heap.size w w' := by
  have h8i : (n : Int) < 8 := by omega
  go_enter Tryd.func92, Tryd.ntmps92
  go_wp2
  go_ret3
  exact ⟨rfl, Below.refl _ _⟩
/-- What is told of the frame ahead. -/
def FrRes (l : List Int) (w w' : World) (e : Ending) : Prop := (frC l ≠ 0 ∧ e = .returned (.tuple #[.slice none 0 0, .int .i64 0, .int .i64 (frC l)])) ∨ (frC l = 0 ∧ ∃ g cap, e = .returned (.tuple #[.slice (some ⟨g, 0, none⟩) (frP l).length cap, .int .i64 (12 + dec4 l : Nat), .int .i64 0]) ∧ Own8 w.heap.size w' (.slice (some ⟨g, 0, none⟩) (frP l).length cap) (frP l))
theorem fr_decode (A : Option Addr) (l : List Int) (c : Nat) (w : World) (ht : Nib w) (hby : ByL w A l) (hb : isBy l) (hl : l.length ≤ 1000000) (hc : l.length ≤ c) (hcm : c ≤ maxLen) :
    Calls Tryd.prog 92 #[.slice A l.length c] w fun e w' => FrRes l w w' e ∧ Below w.heap.size w w' := by
  by_cases h8 : l.length < 8
  · exact (fr_dec_short A l.length c w h8).mono fun e w' ⟨he, k⟩ => ⟨.inl ⟨by rw [frC_short h8]; decide, by rw [frC_short h8]; exact he⟩, k⟩
  by_cases hs : dec4 (l.drop 4) = sumL (l.take 4)
  rotate_left
  · exact (fr_dec_hsum A l c w ht hby hb hl hc hcm h8 hs).mono fun e w' ⟨⟨he, hC⟩, k⟩ => ⟨.inl ⟨by rw [hC]; decide, by rw [hC]; exact he⟩, k⟩
  by_cases hlong : 262144 < dec4 l
  · exact (fr_dec_long A l c w ht hby hb hl hc hcm h8 hs hlong).mono fun e w' ⟨⟨he, hC⟩, k⟩ => ⟨.inl ⟨by rw [hC]; decide, by rw [hC]; exact he⟩, k⟩
  by_cases hcut : l.length < 12 + dec4 l
  · exact (fr_dec_cut A l c w ht hby hb hl hc hcm h8 hs hlong hcut).mono fun e w' ⟨⟨he, hC⟩, k⟩ => ⟨.inl ⟨by rw [hC]; decide, by rw [hC]; exact he⟩, k⟩
  by_cases hs2 : dec4 (l.drop (8 + dec4 l)) = sumL (l.take (8 + dec4 l))
  · exact (fr_dec_yes A l c w ht hby hb hl hc hcm h8 hs hlong hcut hs2).mono fun e w' ⟨⟨he, hC⟩, k⟩ => ⟨.inr ⟨hC, he⟩, k⟩
  · exact (fr_dec_bsum A l c w ht hby hb hl hc hcm h8 hs hlong hcut hs2).mono fun e w' ⟨⟨he, hC⟩, k⟩ => ⟨.inl ⟨by rw [hC]; decide, by rw [hC]; exact he⟩, k⟩
theorem frC_bd (l : List Int) : 0 ≤ frC l ∧ frC l ≤ 5 := by
  unfold frC
  repeat' split
  all_goals omega
def OneRes (l : List Int) (w w' : World) (e : Ending) : Prop := (frO l ≠ 0 ∧ e = .returned (.tuple #[.slice none 0 0, .int .i64 (frO l)])) ∨ (frO l = 0 ∧ ∃ g cap, e = .returned (.tuple #[.slice (some ⟨g, 0, none⟩) (frP l).length cap, .int .i64 0]) ∧ Own8 w.heap.size w' (.slice (some ⟨g, 0, none⟩) (frP l).length cap) (frP l))
set_option maxHeartbeats 1000000 in
theorem fr_one (A : Option Addr) (l : List Int) (c : Nat) (w : World) (ht : Nib w) (hby : ByL w A l) (hb : isBy l) (hl : l.length ≤ 1000000) (hc : l.length ≤ c) (hcm : c ≤ maxLen) :
    Calls Tryd.prog 58 #[.slice A l.length c] w fun e w' => OneRes l w w' e ∧ Below w.heap.size w w' := by
  have HD := Lib.hid (fr_decode A l c w ht hby hb hl hc hcm)
  have hbd := frC_bd l
  have hn32 := dec4_lt hb
  clear ht hby hb hc hcm
  go_enter Tryd.func58, Tryd.ntmps58
  go_wp2_with fail
  refine HD.out.mono ?_; rintro e w1 ⟨hr, k1⟩
  have K1 := Lib.hid k1
  clear HD k1
  rcases hr with ⟨hne, rfl⟩ | ⟨h0, g, cap, rfl, hown⟩
  · have HE : Hid (frO l = frC l) := Lib.hid (by unfold frO; rw [if_neg hne])
    have HNE := Lib.hid hne
    have t1 : (frC l != 0) = true := by simpa using hne
    have t2 : (frC l == 0) = false := by simpa using hne
    obtain ⟨x, hx⟩ : ∃ x, frC l = x := ⟨_, rfl⟩
    rw [hx] at t1 t2 hbd hne
    have HX := Lib.hid hx
    rw [hx]
    clear hx
    go_wp2
    go_ret2
    exact ⟨.inl ⟨by rw [HE.out]; exact HNE.out, by rw [HE.out, HX.out]; rfl⟩, K1.out⟩
  · have HO := Lib.hid hown
    have H0 := Lib.hid h0
    clear hown h0 hbd
    by_cases hlen : 12 + dec4 l = l.length
    · have HE : Hid (frO l = 0) := Lib.hid (by unfold frO; rw [if_pos H0.out, if_pos hlen])
      have hli : ((12 + dec4 l : Nat) : Int) = (l.length : Int) := by omega
      rw [hli]
      clear hlen hli
      go_wp2
      go_ret2
      exact ⟨.inr ⟨HE.out, g, cap, rfl, HO.out⟩, K1.out⟩
    · have HE : Hid (frO l = 3) := Lib.hid (by unfold frO; rw [if_pos H0.out, if_neg hlen])
      obtain ⟨x, hx⟩ : ∃ x, 12 + dec4 l = x := ⟨_, rfl⟩
      rw [hx]
      have t1 : ((x : Int) != (l.length : Int)) = true := by simp only [bne_iff_ne, ne_eq]; omega
      have t1' : (x != l.length) = true := by simp only [bne_iff_ne, ne_eq]; omega
      clear hlen hx
      go_wp2
      go_ret2
      exact ⟨.inl ⟨by rw [HE.out]; decide, by rw [HE.out]; rfl⟩, K1.out⟩
end Go.Proofs.YtdffldlcbihjmaaDoor
