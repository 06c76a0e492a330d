/- NTP: the reference's New (written by gen/ntnew.py). -/
import Derived.Test.YtepdnkpmkhjlgaaGreatTk9
import Derived.Test.YtepdnkpmkhjlgaaGreatM9L
import Derived.Test.YtepdnkpmkhjlgaaGreatM9H
import Derived.Test.YtepdnkpmkhjlgaaGreatTab9
import Derived.Laws.MakeOwn
import Derived.Test.YtepdnkpmkhjlgaaGreatRef8Turn
/- NTP: Ask (written by gen/ntask.py). -/
set_option linter.unusedSimpArgs false
set_option linter.unusedVariables false
namespace Go.Proofs.YtepdnkpmkhjlgaaGreat
open Go.RowKit Go.Sort

theorem ntp_ask_no {w : World} {b bc bs : Nat} {A : Option Addr} {n cc : Nat} {x : Int} {z : Nat → Int} {N : Nat} {K : Cs} (h : Nc layP w b bc bs A n cc x z N K) (i count : Int) (hi : i < 0 ∨ (N : Int) ≤ i) :
    Calls Tryz.prog 27 #[.pointer (some ⟨b, 0, none⟩), .int .i64 i, .int .i64 count] w fun e w' => e = .returned (.tuple #[.slice none 0 0, .int .i64 1]) ∧ w = w' := by
  have HH := Lib.hid (ntp_has_no h i hi)
  go_enter Tryz.func27, Tryz.ntmps27
  go_wp2_with fail
  refine HH.out.mono ?_; rintro e w' ⟨rfl, rfl⟩
  go_wp2_with fail
  go_ret2
  exact ⟨rfl, rfl⟩
def AskAns (w : World) (q : Int) (e : Ending) (w' : World) : Prop := ∃ g, e = .returned (.tuple #[.slice (some ⟨g, 0, none⟩) 48 48, .int .i64 0]) ∧ w.heap.size ≤ g ∧ U8At w' g 48 (encF 0 3 0 0 0 0 0 q)
set_option maxRecDepth 100000 in
set_option maxHeartbeats 4000000 in
theorem ntp_ask {w : World} {b bc bs : Nat} {A : Option Addr} {n cc : Nat} {x : Int} {z : Nat → Int} {N : Nat} {K : Cs} (h : Nc layP w b bc bs A n cc x z N K) (hK : K.Ok N) (hn : K.n < 1000000000) (i : Nat) (hi : i < N) (count : Int) (hc : count ≤ 9223372036854775807) :
    Calls Tryz.prog 27 #[.pointer (some ⟨b, 0, none⟩), .int .i64 i, .int .i64 count] w fun e w' => AskAns w (K.n + 1) e w' ∧ Nc layP w' b bc bs A n cc x z N (askK K i count) ∧ But (Ft b bc bs) w w' := by
  have HHS := Lib.hid (ntp_has h i hi)
  have HH := Lib.hid h
  have HKK := Lib.hid hK
  have hlb := h.lt
  have hls := h.sl
  have hlc := h.clk.lt
  have c4 := h.c4
  have n0 := hK.n0
  have wn : IntKind.u64.wrap (K.n + 1) = K.n + 1 := (by rw [IntKind.wrap_u64]; omega)
  have HEN := Lib.hid (pk_enc_yes 0 3 0 0 0 0 0 (K.n + 1) w (by decide) (by omega) (by omega) (by omega) (by omega) (by omega) (by omega))
  have li : (i : Int) < (N : Int) := by omega
  clear h hK
  go_enter Tryz.func27, Tryz.ntmps27
  go_wp2_with fail
  refine HHS.out.mono ?_; rintro e w' ⟨rfl, rfl⟩
  go_wp2_with fail
  refine HEN.out.mono ?_; rintro e w1 ⟨g, rfl, hg, hu, k1⟩
  have HK1 := Lib.hid (HH.out.below k1)
  have HB1 := Lib.hid k1
  have HU1 := Lib.hid hu
  have c4 := HK1.out.c4
  have f4 := HK1.out.f 4
  have lb1 := HK1.out.lt
  have W2K := Lib.hid (HK1.out.setN (K.n + 1))
  have W2F : Hid (But (Ft b bc bs) w (w1.setCell ⟨b, 4, none⟩ (.int .u64 (K.n + 1)))) := Lib.hid ((But.of_below HB1.out).setCell (p := ⟨b, 4, none⟩) (fun _ => .inl rfl) _)
  have c3 := W2K.out.c3
  have gb : g ≠ b := by omega
  have gU : Hid (U8At (w1.setCell ⟨b, 4, none⟩ (.int .u64 (K.n + 1))) g 48 (encF 0 3 0 0 0 0 0 (K.n + 1))) := Lib.hid (HU1.out.other (by show b ≠ g; omega) _)
  clear k1 hu
  go_wp2_with fail
  clear c4 f4 lb1 c3 HK1 HB1 HU1
  generalize w1.setCell ⟨b, 4, none⟩ (.int .u64 (K.n + 1)) = W2 at *
  have c4 := W2K.out.c4
  have c0 := W2K.out.c0
  refine wp_region_held_drew (S := fun w' => w'.cell? ⟨b, 4, none⟩ = some (.int .u64 (K.n + 1)) ∧ w'.cell? ⟨b, 0, none⟩ = some (.pointer (some ⟨bc, 0, none⟩))) (by kernel_rfl) ?_ (fun hHeld => ?_)
  · exact ⟨c4, c0⟩
  have HKV := Lib.hid W2K.out.drew
  have HFV := Lib.hid W2F.out.drew
  have gV := Lib.hid gU.out.drew
  clear W2K W2F gU c4 c0
  generalize W2.drew = V at *
  have HRD := Lib.hid (slew_read_all bc K.c K.t K.l count V HKV.out.clk HKK.out.clk hc)
  refine tk9 0 ?_
  refine tk9 1 ?_
  refine tk9 2 ?_
  refine tk9 3 ?_
  refine tk9 4 ?_
  refine tk9 5 ?_
  refine tk9 6 ?_
  refine tk9 7 ?_
  refine tk9 8 ?_
  refine tk9 9 ?_
  refine tk9 10 ?_
  refine wpAnyH_ready (rs := [11]) (by kernel_rfl) (by simp) ?_
  refine AllReadyH.cons rfl (fun K hK => ?_) (AllReadyH.nil)
  go_simp
  (go_at_call 21; refine HRD.out.mono ?_; rintro e w5 ⟨rfl, ho5, k5⟩)
  have HK5 := Lib.hid (HKV.out.clock ho5 k5)
  have HF5 := Lib.hid (HFV.out.trans (T := Ft b bc bs) (But.of_only ho5 (.inr (.inl rfl))) (fun _ _ q => q))
  have g5 := Lib.hid (gV.out.only ho5 (by omega))
  clear ho5 k5
  (try dsimp only)
  refine hK.out _ _ ?_ (fun hHeld => ?_)
  · exact ⟨HK5.out.c4, HK5.out.c0⟩
  clear hK K
  refine pt9 ?_
  obtain ⟨x0, x1, x2, x3, x4, x5⟩ := HK5.out.six i hi
  have f0 := HK5.out.sf (i * 6)
  have r1 : Nc layP (w5.setCell ⟨bs, i * 6, none⟩ (.int .u64 (K.n + 1))) b bc bs A n cc x z N _ := HK5.out.store i 0 hi (by omega) { K.S i with q := K.n + 1 } (.int .u64 (K.n + 1)) rfl (fun q hq hne => by unfold layP; simp [hne])
  have R1 := Lib.hid r1
  have r2 := r1.store i 1 hi (by omega) { K.S i with q := K.n + 1, a := rt K.c K.t K.l count } (.int .i64 (rt K.c K.t K.l count)) rfl (fun q hq hne => by simp only [updS_same]; unfold layP; simp [hne])
  have R2 : Hid (Nc layP ((w5.setCell ⟨bs, i * 6, none⟩ (.int .u64 (K.n + 1))).setCell ⟨bs, i * 6 + 1, none⟩ (.int .i64 (rt K.c K.t K.l count))) b bc bs A n cc x z N (askK K i count)) := Lib.hid (r2.congr (S' := (askK K i count).S) (fun j _ => by simp only [askK, updS_upd]))
  have HF9 : Hid (But (Ft b bc bs) w ((w5.setCell ⟨bs, i * 6, none⟩ (.int .u64 (K.n + 1))).setCell ⟨bs, i * 6 + 1, none⟩ (.int .i64 (rt K.c K.t K.l count)))) := Lib.hid ((HF5.out.setCell (p := ⟨bs, i * 6, none⟩) (fun _ => .inr (.inr rfl)) (.int .u64 (K.n + 1))).setCell (p := ⟨bs, i * 6 + 1, none⟩) (fun _ => .inr (.inr rfl)) (.int .i64 (rt K.c K.t K.l count)))
  have hgbs : bs ≠ g := by omega
  have g9 := Lib.hid ((g5.out.other (p := ⟨bs, i * 6, none⟩) hgbs (.int .u64 (K.n + 1))).other (p := ⟨bs, i * 6 + 1, none⟩) hgbs (.int .i64 (rt K.c K.t K.l count)))
  clear r1 r2
  refine tk9 12 ?_
  refine tk9 13 ?_
  refine wpAnyH_ready (rs := [14]) (by kernel_rfl) (by simp) ?_
  refine AllReadyH.cons rfl (fun K hK => ?_) (AllReadyH.nil)
  go_simp
  (try dsimp only)
  refine hK.out _ _ ?_ (fun hHeld => ?_)
  · exact ⟨R1.out.c4, R1.out.c0⟩
  clear hK K
  refine pt9 ?_
  obtain ⟨x0, x1, x2, x3, x4, x5⟩ := R1.out.six i hi
  have f1 := R1.out.sf (i * 6 + 1)
  refine tk9 15 ?_
  refine tk9 16 ?_
  refine wpAnyH_ready (rs := [17]) (by kernel_rfl) (by simp) ?_
  refine AllReadyH.cons rfl (fun K hK => ?_) (AllReadyH.nil)
  go_simp
  (try dsimp only)
  refine hK.out _ _ ?_ (fun hHeld => ?_)
  · exact ⟨R2.out.c4, R2.out.c0⟩
  clear hK K
  refine pt9 ?_
  refine wpAnyH_done (by kernel_rfl) ?_ _
  clear hHeld x0 x1 x2 x3 x4 x5 f0 f1
  go_wp2_with fail
  go_ret2
  exact ⟨⟨g, rfl, by omega, g9.out⟩, R2.out, HF9.out⟩
end Go.Proofs.YtepdnkpmkhjlgaaGreat

/- NTP: New (written by gen/ntnew.py). -/
namespace Go.Proofs.YtepdnkpmkhjlgaaGreat
open Go.RowKit Go.Sort

def newK (count : Int) : Cs := ⟨count, 0, 0, fun _ => ⟨0, 0, false, 0, 0, 0⟩, 0, 0⟩
theorem newK_ok (count : Int) (N : Nat) (h0 : 0 ≤ count) (h1 : count ≤ 9223372036854775807) : (newK count).Ok N :=
  ⟨by unfold newK Ok3; simp; omega, fun i _ => ⟨by simp [newK], by simp [newK], by simp [newK], by simp [newK], by simp [newK], by simp [newK], by simp [newK, I64], by simp [newK, I64]⟩, by simp [newK], by simp [newK], by simp [newK], by simp [newK]⟩
def NewPost9 (L : Srv → Nat → Value) (w : World) (n : Nat) (x : Int) (z : Nat → Int) (N : Nat) (count : Int) (e : Ending) (w' : World) : Prop :=
  ∃ b bc bs A' cc', e = .returned (.tuple #[.pointer (some ⟨b, 0, none⟩), .int .i64 0]) ∧ Nc L w' b bc bs A' n cc' x z N (newK count) ∧ w.heap.size ≤ b ∧ w.heap.size ≤ bc ∧ w.heap.size ≤ bs ∧ (∀ ad, A' = some ad → w.heap.size ≤ ad.block)
theorem made_at (z : Array Value) (hz : z.size = 6) (N i j : Nat) (hi : i < N) (hj : j < 6) : (madeCells z (N * 6))[i * 6 + j]? = some z[j]! := by
  unfold madeCells
  rw [Array.getElem?_map, Array.getElem?_range, if_pos (by omega)]
  simp [hz, show (i * 6 + j) % 6 = j from by omega]
theorem psrv_info : (Tryz.prog.info? 98).map (fun i => (i.zero, i.size, i.bytes)) = some (some (.agg #[.int .u64 0, .int .i64 0, .bool false, .int .i64 0, .int .i64 0, .int .i64 0]), 6, 48) := by kernel_rfl
theorem pmake_srv (N : Nat) (hN : N ≤ 8) (w : World) : (Instr.makeSlice 61 (.int .i64 N) (.int .i64 N)).run Tryz.prog w = .ok (.slice (some ⟨w.heap.size, 0, none⟩) N N) (w.alloc (.cells (madeCells #[.int .u64 0, .int .i64 0, .bool false, .int .i64 0, .int .i64 0, .int .i64 0] (N * 6)) 98)) := by
  obtain ⟨i0, hi0, hz0, hz1, hz2⟩ := info_parts psrv_info
  have h := run_makeSlice (P := Tryz.prog) w 61 98 i0 (.agg #[.int .u64 0, .int .i64 0, .bool false, .int .i64 0, .int .i64 0, .int .i64 0]) Tryz.underlying61 hi0 hz0 .i64 .i64 N N (by omega) (Int.le_refl _) (by rw [hz1]; simp; omega) (by rw [hz2]; omega) (by omega)
  rw [hz1] at h
  have hc : (Value.agg #[.int .u64 0, .int .i64 0, .bool false, .int .i64 0, .int .i64 0, .int .i64 0]).cells = #[.int .u64 0, .int .i64 0, .bool false, .int .i64 0, .int .i64 0, .int .i64 0] := rfl
  rw [hc] at h
  simpa using h
theorem pnew_nc {W : World} {bc : Nat} {A' : Option Addr} {n cc' : Nat} {x : Int} {z : Nat → Int} {count : Int} (N : Nat) (I : Ints3 W bc count 0 0) (hA : FlatAt W A' 2 n z) (hT : IsTab z n x) (hne : ∀ ad, A' = some ad → ad.block ≠ bc) :
    Nc layP ((W.alloc (.cells (madeCells #[.int .u64 0, .int .i64 0, .bool false, .int .i64 0, .int .i64 0, .int .i64 0] (N * 6)) 98)).alloc (.cells #[.pointer (some ⟨bc, 0, none⟩), .slice A' n cc', .int .i64 x, .slice (some ⟨W.heap.size, 0, none⟩) N N, .int .u64 0, .int .i64 0] 63)) (W.heap.size + 1) bc W.heap.size A' n cc' x z N (newK count) := by
  have hk : Below W.heap.size W ((W.alloc (.cells (madeCells #[.int .u64 0, .int .i64 0, .bool false, .int .i64 0, .int .i64 0, .int .i64 0] (N * 6)) 98)).alloc (.cells #[.pointer (some ⟨bc, 0, none⟩), .slice A' n cc', .int .i64 x, .slice (some ⟨W.heap.size, 0, none⟩) N N, .int .u64 0, .int .i64 0] 63)) := by (repeat' (first | (with_reducible exact Below.refl _ _) | (with_reducible assumption) | (with_reducible refine Below.trans ?_ (Below.mono (by with_reducible assumption) ?_)) | (with_reducible refine Below.alloc ?_ ?_ _) | (with_reducible refine Below.setCell ?_ ?_ _) | (with_reducible refine below_drewN ?_ _) | (with_reducible refine Below.drew ?_) | go_size))
  have hlA : ∀ ad, A' = some ad → ad.block < W.heap.size := fun ad ha => by
    obtain ⟨B, O, hA', hB, _⟩ := hA (by have := hT.1; omega)
    rw [ha] at hA'
    injection hA' with hA'
    subst hA'
    exact hB
  have lc := I.lt
  refine ⟨new_cell _ (by simp) _ _ 0, new_cell _ (by simp) _ _ 1, new_cell _ (by simp) _ _ 2, new_cell _ (by simp) _ _ 3, new_cell _ (by simp) _ _ 4, new_cell _ (by simp) _ _ 5, fun j => by simp, by simp, I.below hk lc, hA.below hk, fun i hi j hj => ?_, fun j => by simp, by simp; omega, by omega, by omega, by omega, fun ad ha => ⟨by have := hlA ad ha; omega, hne ad ha, by have := hlA ad ha; omega⟩, hT⟩
  rw [World.cell?_alloc_past _ _ _ (by simp), new_cell W rfl, made_at _ rfl N i j hi hj]
  rcases (show j = 0 ∨ j = 1 ∨ j = 2 ∨ j = 3 ∨ j = 4 ∨ j = 5 from by omega) with rfl | rfl | rfl | rfl | rfl | rfl <;> rfl
set_option maxRecDepth 100000 in
set_option maxHeartbeats 4000000 in
theorem ntp_new (ad : Addr) (n c : Nat) (x : Int) (z : Nat → Int) (N : Nat) (count : Int) (w : World) (hz : FlatAt w (some ad) 2 n z) (hT : IsTab z n x) (h1 : 1 ≤ N) (h8 : N ≤ 8) (k0 : 0 ≤ count) (k1 : count ≤ 9223372036854775807) :
    Calls Tryz.prog 25 #[.agg #[.slice (some ad) n c, .int .i64 x], .int .i64 N, .int .i64 count] w fun e w' => NewPost9 layP w n x z N count e w' ∧ Below w.heap.size w w' := by
  have hn : n ≤ 100 := hT.2.1
  have HB0 : Below w.heap.size w (w.alloc (.cells #[.slice (some ad) n c, .int .i64 x] 24)) := by (repeat' (first | (with_reducible exact Below.refl _ _) | (with_reducible assumption) | (with_reducible refine Below.trans ?_ (Below.mono (by with_reducible assumption) ?_)) | (with_reducible refine Below.alloc ?_ ?_ _) | (with_reducible refine Below.setCell ?_ ?_ _) | (with_reducible refine below_drewN ?_ _) | (with_reducible refine Below.drew ?_) | go_size))
  have q0 : (w.alloc (.cells #[.slice (some ad) n c, .int .i64 x] 24)).cell? ⟨w.heap.size, 0, none⟩ = some (.slice (some ad) n c) := by simp
  have q1 : (w.alloc (.cells #[.slice (some ad) n c, .int .i64 x] 24)).cell? ⟨w.heap.size, 1, none⟩ = some (.int .i64 x) := by simp
  have l0 : w.heap.size < (w.alloc (.cells #[.slice (some ad) n c, .int .i64 x] 24)).heap.size := by simp
  have HZ := Lib.hid (fun (W : World) (k : Below w.heap.size w W) => hz.below k)
  have HTT := Lib.hid hT
  have HMK := pmake_srv N h8
  have HNN := Lib.hid (fun (W : World) (bc : Nat) (A' : Option Addr) (cc' : Nat) I hA hne => pnew_nc (W := W) (bc := bc) (A' := A') (n := n) (cc' := cc') (x := x) (z := z) (count := count) N I hA hT hne)
  have t1 : decide ((N : Int) < 1) = false := by simp; omega
  have t2 : decide ((N : Int) > 8) = false := by simp; omega
  have t2' : decide (8 < (N : Int)) = false := by simp; omega
  have t3 : decide (count < 0) = false := by simp; omega
  have HIS := Lib.hid (leap_is_yes (some ad) n c x z (w.alloc (.cells #[.slice (some ad) n c, .int .i64 x] 24)) (HZ.out _ HB0) hT)
  have HSN := Lib.hid (fun W : World => slew_new_ok count 0 W k0 (by decide) (by decide))
  have HCL := Lib.hid (fun (W : World) (k : Below w.heap.size w W) => clone_any (some ad) n c z W (hz.below k) (by omega) (fun h => by cases h))
  clear hz hT
  go_enter Tryz.func25, Tryz.ntmps25
  go_wp2_with fail
  refine HIS.out.mono ?_; rintro e w1 ⟨rfl, hb1⟩
  have HB1 := HB0.trans (hb1.mono HB0.size)
  have q0 := (hb1.cell (p := ⟨w.heap.size, 0, none⟩) l0).trans q0
  have q1 := (hb1.cell (p := ⟨w.heap.size, 1, none⟩) l0).trans q1
  have l1 := Nat.lt_of_lt_of_le l0 hb1.size
  clear hb1 HB0 HIS l0
  go_wp2_with fail
  refine (HSN.out w1).mono ?_; rintro e w2 ⟨rfl, rfl⟩
  have kk : Below w1.heap.size w1 (w1.alloc (.cells #[.int .i64 count, .int .i64 0, .int .i64 0] 118)) := (Below.refl _ _).alloc (Nat.le_refl _) _
  have HB2 := Lib.hid (HB1.trans (kk.mono HB1.size))
  have q0 := (kk.cell (p := ⟨w.heap.size, 0, none⟩) l1).trans q0
  have q1 := (kk.cell (p := ⟨w.heap.size, 1, none⟩) l1).trans q1
  have IC := Lib.hid (Ints3.new w1 count 0 0 118)
  have l2 := Nat.lt_of_lt_of_le l1 kk.size
  have hs1 := HB1.size
  have lbc : w1.heap.size < (w1.alloc (.cells #[.int .i64 count, .int .i64 0, .int .i64 0] 118)).heap.size := by simp
  clear kk HB1
  generalize w1.alloc (.cells #[.int .i64 count, .int .i64 0, .int .i64 0] 118) = W2 at *
  generalize w1.heap.size = bc at *
  go_wp2_with fail
  refine wp_region_held_drew (S := fun w' => w'.cell? ⟨w.heap.size, 0, none⟩ = some (.slice (some ad) n c) ∧ w'.cell? ⟨w.heap.size, 1, none⟩ = some (.int .i64 x)) (by kernel_rfl) ?_ (fun hHeld => ?_)
  · exact ⟨q0, q1⟩
  have q0 : W2.drew.cell? ⟨w.heap.size, 0, none⟩ = some (.slice (some ad) n c) := q0
  have q1 : W2.drew.cell? ⟨w.heap.size, 1, none⟩ = some (.int .i64 x) := q1
  have l2 : w.heap.size < W2.drew.heap.size := l2
  have lbc : bc < W2.drew.heap.size := lbc
  have HBV := Lib.hid HB2.out.drew
  have IV := Lib.hid IC.out.drew
  clear HB2 IC
  generalize W2.drew = V at *
  refine tk9 0 ?_
  refine tk9 1 ?_
  refine tk9 3 ?_
  refine tk9 4 ?_
  refine wpAnyH_ready (rs := [2, 6]) (by kernel_rfl) (by simp) ?_
  refine AllReadyH.cons rfl (fun K hK => ?_) (AllReadyH.cons rfl (fun K hK => ?_) (AllReadyH.nil))
  · as_aux_lemma =>
    go_simp
    (go_at_call 55; refine (HCL.out V HBV.out).mono ?_; rintro e w3 ⟨⟨A', c', rfl, hf3, hg3⟩, hb3⟩)
    have HB3 := HBV.out.trans (hb3.mono HBV.out.size)
    have I3 := IV.out.below hb3 lbc
    have p0 := (hb3.cell (p := ⟨w.heap.size, 0, none⟩) l2).trans q0
    have p1 := (hb3.cell (p := ⟨w.heap.size, 1, none⟩) l2).trans q1
    have l3 := Nat.lt_of_lt_of_le l2 hb3.size
    have hV := HBV.out.size
    have hs3 := hb3.size
    have hA3 : ∀ ad, A' = some ad → ad.block < w3.heap.size := fun ad ha => by
      obtain ⟨B, O, hA', hB, _⟩ := hf3 (by have := HTT.out.1; omega)
      rw [ha] at hA'
      injection hA' with hA'
      subst hA'
      exact hB
    clear hb3
    (try dsimp only)
    refine hK.out _ _ ?_ (fun hHeld => ?_)
    · exact ⟨p0, p1⟩
    clear hK K
    refine pt9 ?_
    refine tk9 5 ?_
    refine wpAnyH_ready (rs := [6]) (by kernel_rfl) (by simp) ?_
    refine AllReadyH.cons rfl (fun K hK => ?_) (AllReadyH.nil)
    go_simp
    have kk : Below w3.heap.size w3 (w3.alloc (.cells #[.slice none 0 0, .int .i64 0] 24)) := (Below.refl _ _).alloc (Nat.le_refl _) _
    have HB4 := Lib.hid (HB3.trans (kk.mono HB3.size))
    have I4 := Lib.hid (I3.below kk I3.lt)
    have F4 := Lib.hid (hf3.below kk)
    have T4 := Lib.hid (Tb.new w3 (.slice none 0 0) 0 24)
    have r0 := (kk.cell (p := ⟨w.heap.size, 0, none⟩) l3).trans p0
    have r1 := (kk.cell (p := ⟨w.heap.size, 1, none⟩) l3).trans p1
    have l4 := Nat.lt_of_lt_of_le l3 kk.size
    have hP4 : w.heap.size ≤ w3.heap.size := HB3.size
    have hb4 := I3.lt
    have hne : Hid (∀ ad, A' = some ad → ad.block ≠ bc) := Lib.hid (fun ad ha => by have := hg3 ad ha; omega)
    have hnP : Hid (∀ ad, A' = some ad → ad.block ≠ w3.heap.size) := Lib.hid (fun ad ha => by have := hA3 ad ha; omega)
    have hge : Hid (∀ ad, A' = some ad → w.heap.size ≤ ad.block) := Lib.hid (fun ad ha => by have := hg3 ad ha; omega)
    clear kk HB3 I3 hf3 hg3 hA3 p0 p1 HBV IV
    (try dsimp only)
    refine hK.out _ _ ?_ (fun hHeld => ?_)
    · exact ⟨r0, r1⟩
    clear hK K
    refine pt9 ?_
    generalize w3.alloc (.cells #[.slice none 0 0, .int .i64 0] 24) = W4 at *
    generalize w3.heap.size = P4 at *
    obtain ⟨tc0, tc1, tf0, tf1, tl⟩ := T4.out
    refine wpAnyH_ready (rs := [7]) (by kernel_rfl) (by simp) ?_
    refine AllReadyH.cons rfl (fun K hK => ?_) (AllReadyH.nil)
    go_simp
    have kO : Only P4 W4 ((W4.setCell ⟨P4, 0, none⟩ (.slice A' n c')).setCell ⟨P4, 1, none⟩ (.int .i64 x)) := ((Only.refl _ W4).setB _).setB _
    have HB5 := Lib.hid (HB4.out.trans (kO.below hP4 HB4.out.size))
    have I5 := Lib.hid (I4.out.only kO (by omega))
    have F5 := Lib.hid (F4.out.only kO hnP.out)
    have TT := (T4.out.set0 (.slice A' n c')).set1 x
    have y0 := TT.c0
    have y1 := TT.c1
    have yl := TT.lt
    have g0 := (kO.cell w.heap.size 0 l4 (by omega)).trans r0
    have g1 := (kO.cell w.heap.size 1 l4 (by omega)).trans r1
    clear kO TT HB4 I4 F4 T4 tc0 tc1 tf0 tf1 tl
    (try dsimp only)
    refine hK.out _ _ ?_ (fun hHeld => ?_)
    · exact ⟨g0, g1⟩
    clear hK K
    refine pt9 ?_
    refine wpAnyH_done (by kernel_rfl) ?_ _
    clear hHeld g0 g1 r0 r1 l4 hnP
    generalize ((W4.setCell ⟨P4, 0, none⟩ (.slice A' n c')).setCell ⟨P4, 1, none⟩ (.int .i64 x)) = W5 at *
    generalize P4 = P5 at *
    go_wp2_with fail
    refine wp_region_held_drew (S := fun w' => w'.cell? ⟨P5, 0, none⟩ = some (.slice A' n c') ∧ w'.cell? ⟨P5, 1, none⟩ = some (.int .i64 x)) (by kernel_rfl) ?_ (fun hHeld => ?_)
    · exact ⟨y0, y1⟩
    have y0 : W5.drew.cell? ⟨P5, 0, none⟩ = some (.slice A' n c') := y0
    have y1 : W5.drew.cell? ⟨P5, 1, none⟩ = some (.int .i64 x) := y1
    have yl : P5 < W5.drew.heap.size := yl
    have HB6 := Lib.hid HB5.out.drew
    have I6 := Lib.hid I5.out.drew
    have F6 := Lib.hid (F5.out.below (w' := W5.drew) ((Below.refl _ _).drew))
    clear HB5 I5 F5
    generalize W5.drew = W6 at *
    refine tk9 0 ?_
    refine tk9 1 ?_
    refine tk9 2 ?_
    refine wpAnyH_ready (rs := [3]) (by kernel_rfl) (by simp) ?_
    refine AllReadyH.cons rfl (fun K hK => ?_) (AllReadyH.nil)
    go_simp
    have ka : Below W6.heap.size W6 (W6.alloc (.cells (madeCells #[.int .u64 0, .int .i64 0, .bool false, .int .i64 0, .int .i64 0, .int .i64 0] (N * 6)) 98)) := (Below.refl _ _).alloc (Nat.le_refl _) _
    have z0 := (ka.cell (p := ⟨P5, 0, none⟩) yl).trans y0
    have z1 := (ka.cell (p := ⟨P5, 1, none⟩) yl).trans y1
    have kb : Below W6.heap.size W6 ((W6.alloc (.cells (madeCells #[.int .u64 0, .int .i64 0, .bool false, .int .i64 0, .int .i64 0, .int .i64 0] (N * 6)) 98)).alloc (.cells #[.pointer (some ⟨bc, 0, none⟩), .slice A' n c', .int .i64 x, .slice (some ⟨W6.heap.size, 0, none⟩) N N, .int .u64 0, .int .i64 0] 63)) := ka.alloc ka.size _
    have x0 := (kb.cell (p := ⟨P5, 0, none⟩) yl).trans y0
    have x1 := (kb.cell (p := ⟨P5, 1, none⟩) yl).trans y1
    have HBF := Lib.hid (HB6.out.trans (kb.mono HB6.out.size))
    have HNC := Lib.hid (HNN.out W6 bc A' c' I6.out F6.out hne.out)
    have h6 := HB6.out.size
    clear ka kb
    (try dsimp only)
    refine hK.out _ _ ?_ (fun hHeld => ?_)
    · exact ⟨z0, z1⟩
    clear hK K
    refine pt9 ?_
    refine tk9 4 ?_
    refine wpAnyH_ready (rs := [5]) (by kernel_rfl) (by simp) ?_
    refine AllReadyH.cons rfl (fun K hK => ?_) (AllReadyH.nil)
    go_simp
    (try dsimp only)
    refine hK.out _ _ ?_ (fun hHeld => ?_)
    · exact ⟨x0, x1⟩
    clear hK K
    refine pt9 ?_
    refine tk9 6 ?_
    refine tk9 7 ?_
    refine wpAnyH_done (by kernel_rfl) ?_ _
    go_wp2_with fail
    go_ret2
    exact ⟨⟨W6.heap.size + 1, bc, W6.heap.size, A', c', rfl, HNC.out, by omega, by omega, by omega, hge.out⟩, HBF.out⟩
  · as_aux_lemma =>
    go_simp
    have kk : Below V.heap.size V (V.alloc (.cells #[.slice none 0 0, .int .i64 0] 24)) := (Below.refl _ _).alloc (Nat.le_refl _) _
    have HB3 := Lib.hid (HBV.out.trans (kk.mono HBV.out.size))
    have I3 := Lib.hid (IV.out.below kk lbc)
    have T3 := Lib.hid (Tb.new V (.slice none 0 0) 0 24)
    have p0 := (kk.cell (p := ⟨w.heap.size, 0, none⟩) l2).trans q0
    have p1 := (kk.cell (p := ⟨w.heap.size, 1, none⟩) l2).trans q1
    have l3 := Nat.lt_of_lt_of_le l2 kk.size
    have hP4 : w.heap.size ≤ V.heap.size := HBV.out.size
    have hs3 : V.heap.size < (V.alloc (.cells #[.slice none 0 0, .int .i64 0] 24)).heap.size := by simp
    clear kk HBV IV
    (try dsimp only)
    refine hK.out _ _ ?_ (fun hHeld => ?_)
    · exact ⟨p0, p1⟩
    clear hK K
    refine pt9 ?_
    generalize V.alloc (.cells #[.slice none 0 0, .int .i64 0] 24) = V3 at *
    generalize V.heap.size = P4 at *
    refine wpAnyH_ready (rs := [2]) (by kernel_rfl) (by simp) ?_
    refine AllReadyH.cons rfl (fun K hK => ?_) (AllReadyH.nil)
    go_simp
    (go_at_call 55; refine (HCL.out V3 HB3.out).mono ?_; rintro e w4 ⟨⟨A', c', rfl, hf3, hg3⟩, hb3⟩)
    have HB4 := Lib.hid (HB3.out.trans (hb3.mono HB3.out.size))
    have I4 := Lib.hid (I3.out.below hb3 I3.out.lt)
    have F4 := Lib.hid hf3
    have T4 := Lib.hid (T3.out.below hb3)
    have r0 := (hb3.cell (p := ⟨w.heap.size, 0, none⟩) l3).trans p0
    have r1 := (hb3.cell (p := ⟨w.heap.size, 1, none⟩) l3).trans p1
    have l4 := Nat.lt_of_lt_of_le l3 hb3.size
    have hbc3 := I3.out.lt
    have hne : Hid (∀ ad, A' = some ad → ad.block ≠ bc) := Lib.hid (fun ad ha => by have := hg3 ad ha; omega)
    have hnP : Hid (∀ ad, A' = some ad → ad.block ≠ P4) := Lib.hid (fun ad ha => by have := hg3 ad ha; omega)
    have hge : Hid (∀ ad, A' = some ad → w.heap.size ≤ ad.block) := Lib.hid (fun ad ha => by have := hg3 ad ha; have := HB3.out.size; omega)
    clear hb3 hf3 hg3 p0 p1 HB3 I3 T3
    (try dsimp only)
    refine hK.out _ _ ?_ (fun hHeld => ?_)
    · exact ⟨r0, r1⟩
    clear hK K
    refine pt9 ?_
    refine tk9 5 ?_
    obtain ⟨tc0, tc1, tf0, tf1, tl⟩ := T4.out
    refine wpAnyH_ready (rs := [7]) (by kernel_rfl) (by simp) ?_
    refine AllReadyH.cons rfl (fun K hK => ?_) (AllReadyH.nil)
    go_simp
    have kO : Only P4 w4 ((w4.setCell ⟨P4, 0, none⟩ (.slice A' n c')).setCell ⟨P4, 1, none⟩ (.int .i64 x)) := ((Only.refl _ w4).setB _).setB _
    have HB5 := Lib.hid (HB4.out.trans (kO.below hP4 HB4.out.size))
    have I5 := Lib.hid (I4.out.only kO (by omega))
    have F5 := Lib.hid (F4.out.only kO hnP.out)
    have TT := (T4.out.set0 (.slice A' n c')).set1 x
    have y0 := TT.c0
    have y1 := TT.c1
    have yl := TT.lt
    have g0 := (kO.cell w.heap.size 0 l4 (by omega)).trans r0
    have g1 := (kO.cell w.heap.size 1 l4 (by omega)).trans r1
    clear kO TT HB4 I4 F4 T4 tc0 tc1 tf0 tf1 tl
    (try dsimp only)
    refine hK.out _ _ ?_ (fun hHeld => ?_)
    · exact ⟨g0, g1⟩
    clear hK K
    refine pt9 ?_
    refine wpAnyH_done (by kernel_rfl) ?_ _
    clear hHeld g0 g1 r0 r1 l4 hnP
    generalize ((w4.setCell ⟨P4, 0, none⟩ (.slice A' n c')).setCell ⟨P4, 1, none⟩ (.int .i64 x)) = W5 at *
    generalize P4 = P5 at *
    go_wp2_with fail
    refine wp_region_held_drew (S := fun w' => w'.cell? ⟨P5, 0, none⟩ = some (.slice A' n c') ∧ w'.cell? ⟨P5, 1, none⟩ = some (.int .i64 x)) (by kernel_rfl) ?_ (fun hHeld => ?_)
    · exact ⟨y0, y1⟩
    have y0 : W5.drew.cell? ⟨P5, 0, none⟩ = some (.slice A' n c') := y0
    have y1 : W5.drew.cell? ⟨P5, 1, none⟩ = some (.int .i64 x) := y1
    have yl : P5 < W5.drew.heap.size := yl
    have HB6 := Lib.hid HB5.out.drew
    have I6 := Lib.hid I5.out.drew
    have F6 := Lib.hid (F5.out.below (w' := W5.drew) ((Below.refl _ _).drew))
    clear HB5 I5 F5
    generalize W5.drew = W6 at *
    refine tk9 0 ?_
    refine tk9 1 ?_
    refine tk9 2 ?_
    refine wpAnyH_ready (rs := [3]) (by kernel_rfl) (by simp) ?_
    refine AllReadyH.cons rfl (fun K hK => ?_) (AllReadyH.nil)
    go_simp
    have ka : Below W6.heap.size W6 (W6.alloc (.cells (madeCells #[.int .u64 0, .int .i64 0, .bool false, .int .i64 0, .int .i64 0, .int .i64 0] (N * 6)) 98)) := (Below.refl _ _).alloc (Nat.le_refl _) _
    have z0 := (ka.cell (p := ⟨P5, 0, none⟩) yl).trans y0
    have z1 := (ka.cell (p := ⟨P5, 1, none⟩) yl).trans y1
    have kb : Below W6.heap.size W6 ((W6.alloc (.cells (madeCells #[.int .u64 0, .int .i64 0, .bool false, .int .i64 0, .int .i64 0, .int .i64 0] (N * 6)) 98)).alloc (.cells #[.pointer (some ⟨bc, 0, none⟩), .slice A' n c', .int .i64 x, .slice (some ⟨W6.heap.size, 0, none⟩) N N, .int .u64 0, .int .i64 0] 63)) := ka.alloc ka.size _
    have x0 := (kb.cell (p := ⟨P5, 0, none⟩) yl).trans y0
    have x1 := (kb.cell (p := ⟨P5, 1, none⟩) yl).trans y1
    have HBF := Lib.hid (HB6.out.trans (kb.mono HB6.out.size))
    have HNC := Lib.hid (HNN.out W6 bc A' c' I6.out F6.out hne.out)
    have h6 := HB6.out.size
    clear ka kb
    (try dsimp only)
    refine hK.out _ _ ?_ (fun hHeld => ?_)
    · exact ⟨z0, z1⟩
    clear hK K
    refine pt9 ?_
    refine tk9 4 ?_
    refine wpAnyH_ready (rs := [5]) (by kernel_rfl) (by simp) ?_
    refine AllReadyH.cons rfl (fun K hK => ?_) (AllReadyH.nil)
    go_simp
    (try dsimp only)
    refine hK.out _ _ ?_ (fun hHeld => ?_)
    · exact ⟨x0, x1⟩
    clear hK K
    refine pt9 ?_
    refine tk9 6 ?_
    refine tk9 7 ?_
    refine wpAnyH_done (by kernel_rfl) ?_ _
    go_wp2_with fail
    go_ret2
    exact ⟨⟨W6.heap.size + 1, bc, W6.heap.size, A', c', rfl, HNC.out, by omega, by omega, by omega, hge.out⟩, HBF.out⟩
end Go.Proofs.YtepdnkpmkhjlgaaGreat

/- NTP: the reference's New (written by gen/ntnew.py). -/
namespace Go.Proofs.YtepdnkpmkhjlgaaGreat
open Go.RowKit Go.Sort

theorem rsrv_info : (Tryz.prog.info? 113).map (fun i => (i.zero, i.size, i.bytes)) = some (some (.agg #[.int .u64 0, .int .i64 0, .int .i64 0, .int .i64 0, .bool false, .int .i64 0]), 6, 48) := by kernel_rfl
theorem rmake_srv (N : Nat) (hN : N ≤ 8) (w : World) : (Instr.makeSlice 56 (.int .i64 N) (.int .i64 N)).run Tryz.prog w = .ok (.slice (some ⟨w.heap.size, 0, none⟩) N N) (w.alloc (.cells (madeCells #[.int .u64 0, .int .i64 0, .int .i64 0, .int .i64 0, .bool false, .int .i64 0] (N * 6)) 113)) := by
  obtain ⟨i0, hi0, hz0, hz1, hz2⟩ := info_parts rsrv_info
  have h := run_makeSlice (P := Tryz.prog) w 56 113 i0 (.agg #[.int .u64 0, .int .i64 0, .int .i64 0, .int .i64 0, .bool false, .int .i64 0]) Tryz.underlying56 hi0 hz0 .i64 .i64 N N (by omega) (Int.le_refl _) (by rw [hz1]; simp; omega) (by rw [hz2]; omega) (by omega)
  rw [hz1] at h
  have hc : (Value.agg #[.int .u64 0, .int .i64 0, .int .i64 0, .int .i64 0, .bool false, .int .i64 0]).cells = #[.int .u64 0, .int .i64 0, .int .i64 0, .int .i64 0, .bool false, .int .i64 0] := rfl
  rw [hc] at h
  simpa using h
theorem rnew_nc {W : World} {bc : Nat} {A' : Option Addr} {n cc' : Nat} {x : Int} {z : Nat → Int} {count : Int} (N : Nat) (I : Ints3 W bc count 0 0) (hA : FlatAt W A' 2 n z) (hT : IsTab z n x) (hne : ∀ ad, A' = some ad → ad.block ≠ bc) :
    Nc layR ((W.alloc (.cells (madeCells #[.int .u64 0, .int .i64 0, .int .i64 0, .int .i64 0, .bool false, .int .i64 0] (N * 6)) 113)).alloc (.cells #[.pointer (some ⟨bc, 0, none⟩), .slice A' n cc', .int .i64 x, .slice (some ⟨W.heap.size, 0, none⟩) N N, .int .u64 0, .int .i64 0] 58)) (W.heap.size + 1) bc W.heap.size A' n cc' x z N (newK count) := by
  have hk : Below W.heap.size W ((W.alloc (.cells (madeCells #[.int .u64 0, .int .i64 0, .int .i64 0, .int .i64 0, .bool false, .int .i64 0] (N * 6)) 113)).alloc (.cells #[.pointer (some ⟨bc, 0, none⟩), .slice A' n cc', .int .i64 x, .slice (some ⟨W.heap.size, 0, none⟩) N N, .int .u64 0, .int .i64 0] 58)) := by (repeat' (first | (with_reducible exact Below.refl _ _) | (with_reducible assumption) | (with_reducible refine Below.trans ?_ (Below.mono (by with_reducible assumption) ?_)) | (with_reducible refine Below.alloc ?_ ?_ _) | (with_reducible refine Below.setCell ?_ ?_ _) | (with_reducible refine below_drewN ?_ _) | (with_reducible refine Below.drew ?_) | go_size))
  have hlA : ∀ ad, A' = some ad → ad.block < W.heap.size := fun ad ha => by
    obtain ⟨B, O, hA', hB, _⟩ := hA (by have := hT.1; omega)
    rw [ha] at hA'
    injection hA' with hA'
    subst hA'
    exact hB
  have lc := I.lt
  refine ⟨new_cell _ (by simp) _ _ 0, new_cell _ (by simp) _ _ 1, new_cell _ (by simp) _ _ 2, new_cell _ (by simp) _ _ 3, new_cell _ (by simp) _ _ 4, new_cell _ (by simp) _ _ 5, fun j => by simp, by simp, I.below hk lc, hA.below hk, fun i hi j hj => ?_, fun j => by simp, by simp; omega, by omega, by omega, by omega, fun ad ha => ⟨by have := hlA ad ha; omega, hne ad ha, by have := hlA ad ha; omega⟩, hT⟩
  rw [World.cell?_alloc_past _ _ _ (by simp), new_cell W rfl, made_at _ rfl N i j hi hj]
  rcases (show j = 0 ∨ j = 1 ∨ j = 2 ∨ j = 3 ∨ j = 4 ∨ j = 5 from by omega) with rfl | rfl | rfl | rfl | rfl | rfl <;> rfl
set_option maxRecDepth 100000 in
set_option maxHeartbeats 4000000 in
theorem r_new (ad : Addr) (n c : Nat) (x : Int) (z : Nat → Int) (N : Nat) (count : Int) (w : World) (hz : FlatAt w (some ad) 2 n z) (hT : IsTab z n x) (h1 : 1 ≤ N) (h8 : N ≤ 8) (k0 : 0 ≤ count) (k1 : count ≤ 9223372036854775807) :
    Calls Tryz.prog 26 #[.agg #[.slice (some ad) n c, .int .i64 x], .int .i64 N, .int .i64 count] w fun e w' => NewPost9 layR w n x z N count e w' ∧ Below w.heap.size w w' := by
  have hn : n ≤ 100 := hT.2.1
  have HB0 : Below w.heap.size w (w.alloc (.cells #[.slice (some ad) n c, .int .i64 x] 24)) := by (repeat' (first | (with_reducible exact Below.refl _ _) | (with_reducible assumption) | (with_reducible refine Below.trans ?_ (Below.mono (by with_reducible assumption) ?_)) | (with_reducible refine Below.alloc ?_ ?_ _) | (with_reducible refine Below.setCell ?_ ?_ _) | (with_reducible refine below_drewN ?_ _) | (with_reducible refine Below.drew ?_) | go_size))
  have q0 : (w.alloc (.cells #[.slice (some ad) n c, .int .i64 x] 24)).cell? ⟨w.heap.size, 0, none⟩ = some (.slice (some ad) n c) := by simp
  have q1 : (w.alloc (.cells #[.slice (some ad) n c, .int .i64 x] 24)).cell? ⟨w.heap.size, 1, none⟩ = some (.int .i64 x) := by simp
  have l0 : w.heap.size < (w.alloc (.cells #[.slice (some ad) n c, .int .i64 x] 24)).heap.size := by simp
  have HZ := Lib.hid (fun (W : World) (k : Below w.heap.size w W) => hz.below k)
  have HTT := Lib.hid hT
  have HMK := rmake_srv N h8
  have HNN := Lib.hid (fun (W : World) (bc : Nat) (A' : Option Addr) (cc' : Nat) I hA hne => rnew_nc (W := W) (bc := bc) (A' := A') (n := n) (cc' := cc') (x := x) (z := z) (count := count) N I hA hT hne)
  have t1 : decide ((N : Int) < 1) = false := by simp; omega
  have t2 : decide ((N : Int) > 8) = false := by simp; omega
  have t2' : decide (8 < (N : Int)) = false := by simp; omega
  have t3 : decide (count < 0) = false := by simp; omega
  have HIS := Lib.hid (ref3_is (some ad) n c x z (w.alloc (.cells #[.slice (some ad) n c, .int .i64 x] 24)) true (HZ.out _ HB0) (by unfold maxLen; omega) (by simp [hT]))
  have HSN := Lib.hid (fun W : World => ref8_new_ok count 0 W k0 (by decide) (by decide))
  have HOF := Lib.hid (fun (W : World) (k : Below w.heap.size w W) => ref3_of_yes_some ad n c x z W (hz.below k) (by omega) hT)
  clear hz hT
  go_enter Tryz.func26, Tryz.ntmps26
  go_wp2_with fail
  refine HIS.out.mono ?_; rintro e w1 ⟨rfl, hb1⟩
  have HB1 := HB0.trans (hb1.mono HB0.size)
  have q0 := (hb1.cell (p := ⟨w.heap.size, 0, none⟩) l0).trans q0
  have q1 := (hb1.cell (p := ⟨w.heap.size, 1, none⟩) l0).trans q1
  have l1 := Nat.lt_of_lt_of_le l0 hb1.size
  clear hb1 HB0 HIS l0
  go_wp2_with fail
  refine (HSN.out w1).mono ?_; rintro e w2 ⟨rfl, rfl⟩
  have kk : Below w1.heap.size w1 (w1.alloc (.cells #[.int .i64 count, .int .i64 0, .int .i64 0] 84)) := (Below.refl _ _).alloc (Nat.le_refl _) _
  have HB2 := Lib.hid (HB1.trans (kk.mono HB1.size))
  have q0 := (kk.cell (p := ⟨w.heap.size, 0, none⟩) l1).trans q0
  have q1 := (kk.cell (p := ⟨w.heap.size, 1, none⟩) l1).trans q1
  have IC := Lib.hid (Ints3.new w1 count 0 0 84)
  have l2 := Nat.lt_of_lt_of_le l1 kk.size
  have hs1 := HB1.size
  have lbc : w1.heap.size < (w1.alloc (.cells #[.int .i64 count, .int .i64 0, .int .i64 0] 84)).heap.size := by simp
  clear kk HB1
  generalize w1.alloc (.cells #[.int .i64 count, .int .i64 0, .int .i64 0] 84) = W2 at *
  generalize w1.heap.size = bc at *
  go_wp2_with fail
  refine (HOF.out W2 HB2.out).mono ?_; rintro e w3 ⟨⟨A', c', rfl, hf3, hg3⟩, hb3⟩
  have HB3 := HB2.out.trans (hb3.mono HB2.out.size)
  have I3 := IC.out.below hb3 lbc
  have kk : Below w3.heap.size w3 (w3.alloc (.cells #[.slice A' n c', .int .i64 x] 24)) := (Below.refl _ _).alloc (Nat.le_refl _) _
  have HB5 := Lib.hid (HB3.trans (kk.mono HB3.size))
  have I5 := Lib.hid (I3.below kk I3.lt)
  have F5 := Lib.hid (hf3.below kk)
  have y0 : (w3.alloc (.cells #[.slice A' n c', .int .i64 x] 24)).cell? ⟨w3.heap.size, 0, none⟩ = some (.slice A' n c') := by simp
  have y1 : (w3.alloc (.cells #[.slice A' n c', .int .i64 x] 24)).cell? ⟨w3.heap.size, 1, none⟩ = some (.int .i64 x) := by simp
  have yl : w3.heap.size < (w3.alloc (.cells #[.slice A' n c', .int .i64 x] 24)).heap.size := by simp
  have hne : Hid (∀ ad, A' = some ad → ad.block ≠ bc) := Lib.hid (fun ad ha => by have := hg3 ad ha; omega)
  have hge : Hid (∀ ad, A' = some ad → w.heap.size ≤ ad.block) := Lib.hid (fun ad ha => by have := hg3 ad ha; have := HB2.out.size; omega)
  clear hb3 hf3 hg3 HB3 I3 kk HB2 IC q0 q1 l1 l2
  go_wp2_with fail
  generalize w3.alloc (.cells #[.slice A' n c', .int .i64 x] 24) = W5 at *
  generalize w3.heap.size = P5 at *
  go_wp2_with fail
  refine wp_region_held_drew (S := fun w' => w'.cell? ⟨P5, 0, none⟩ = some (.slice A' n c') ∧ w'.cell? ⟨P5, 1, none⟩ = some (.int .i64 x)) (by kernel_rfl) ?_ (fun hHeld => ?_)
  · exact ⟨y0, y1⟩
  have y0 : W5.drew.cell? ⟨P5, 0, none⟩ = some (.slice A' n c') := y0
  have y1 : W5.drew.cell? ⟨P5, 1, none⟩ = some (.int .i64 x) := y1
  have yl : P5 < W5.drew.heap.size := yl
  have HB6 := Lib.hid HB5.out.drew
  have I6 := Lib.hid I5.out.drew
  have F6 := Lib.hid (F5.out.below (w' := W5.drew) ((Below.refl _ _).drew))
  clear HB5 I5 F5
  generalize W5.drew = W6 at *
  refine tk9 0 ?_
  refine tk9 1 ?_
  refine tk9 2 ?_
  refine wpAnyH_ready (rs := [3]) (by kernel_rfl) (by simp) ?_
  refine AllReadyH.cons rfl (fun K hK => ?_) (AllReadyH.nil)
  go_simp
  have ka : Below W6.heap.size W6 (W6.alloc (.cells (madeCells #[.int .u64 0, .int .i64 0, .int .i64 0, .int .i64 0, .bool false, .int .i64 0] (N * 6)) 113)) := (Below.refl _ _).alloc (Nat.le_refl _) _
  have z0 := (ka.cell (p := ⟨P5, 0, none⟩) yl).trans y0
  have z1 := (ka.cell (p := ⟨P5, 1, none⟩) yl).trans y1
  have kb : Below W6.heap.size W6 ((W6.alloc (.cells (madeCells #[.int .u64 0, .int .i64 0, .int .i64 0, .int .i64 0, .bool false, .int .i64 0] (N * 6)) 113)).alloc (.cells #[.pointer (some ⟨bc, 0, none⟩), .slice A' n c', .int .i64 x, .slice (some ⟨W6.heap.size, 0, none⟩) N N, .int .u64 0, .int .i64 0] 58)) := ka.alloc ka.size _
  have x0 := (kb.cell (p := ⟨P5, 0, none⟩) yl).trans y0
  have x1 := (kb.cell (p := ⟨P5, 1, none⟩) yl).trans y1
  have HBF := Lib.hid (HB6.out.trans (kb.mono HB6.out.size))
  have HNC := Lib.hid (HNN.out W6 bc A' c' I6.out F6.out hne.out)
  have h6 := HB6.out.size
  clear ka kb
  (try dsimp only)
  refine hK.out _ _ ?_ (fun hHeld => ?_)
  · exact ⟨z0, z1⟩
  clear hK K
  refine pt9 ?_
  refine tk9 4 ?_
  refine wpAnyH_ready (rs := [5]) (by kernel_rfl) (by simp) ?_
  refine AllReadyH.cons rfl (fun K hK => ?_) (AllReadyH.nil)
  go_simp
  (try dsimp only)
  refine hK.out _ _ ?_ (fun hHeld => ?_)
  · exact ⟨x0, x1⟩
  clear hK K
  refine pt9 ?_
  refine tk9 6 ?_
  refine tk9 7 ?_
  refine wpAnyH_done (by kernel_rfl) ?_ _
  go_wp2_with fail
  go_ret2
  exact ⟨⟨W6.heap.size + 1, bc, W6.heap.size, A', c', rfl, HNC.out, by omega, by omega, by omega, hge.out⟩, HBF.out⟩
end Go.Proofs.YtepdnkpmkhjlgaaGreat

