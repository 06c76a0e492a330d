/- Stage 15: ChainTrims: a cut takes away what no stamp from there on sees: for every row of versions, stamp and row of stamps (written by gen/s15z.py). -/
import Derived.Test.YtfjnjababehmmaaS15W
import Derived.Test.YtfjnjababehmmaaTrimM
import Derived.Test.YtfjnjababehmmaaRefOf
import Derived.Test.YtfjnjababehmmaaArgFlat
import Derived.Test.YtfjnjababehmmaaCells
import Derived.Test.YtfjnjababehmmaaStampArg
import Derived.BigQuiet
import Derived.Lib.QuietBelow
set_option linter.unusedSimpArgs false
set_option linter.unusedVariables false
namespace Go.Proofs.Ytfjnjababehmmaa
open Go.ChangeShapes Go.WideShapes Go.ChangeAt Go.RowKit Go.Joins Go.Deep Go.Sort

theorem cps_rowA' {B : Nat} {W : World} {A : Option Addr} {c : Nat} {M : List Mv} (h : Cps B W (.slice A M.length c) M) : RowA W A M := fun h0 => by
  obtain ⟨g, cap, e, _, _, hg⟩ := row_shape h.row h0
  injection e with e1 e2 e3
  subst e1
  exact ⟨g, 0, rfl, hg, fun j u hu => by rw [Nat.zero_add]; exact row_cell (e3 ▸ h.row) hu⟩
theorem of_no {l : List Vs} {w w' : World} {e : Ending} (h : OfAns l w w' e) (hne : (ofM [] l).1 ≠ 0) : e = .returned (.tuple #[.pointer none, .int .i64 (ofM [] l).1]) ∧ Below w.heap.size w w' := by
  rcases h with ⟨_, h1, h2⟩ | ⟨h1, _⟩
  · exact ⟨h1, h2⟩
  · exact absurd h1 hne
theorem of_yes {l : List Vs} {w w' : World} {e : Ending} (h : OfAns l w w' e) (heq : (ofM [] l).1 = 0) : ∃ b v L, e = .returned (.tuple #[.pointer (some ⟨b, 0, none⟩), .int .i64 0]) ∧ Ch (fun i => w.heap.size ≤ i) w' b v L ∧ L.map Mv.v = (ofM [] l).2 ∧ Below w.heap.size w w' := by
  rcases h with ⟨h1, _⟩ | ⟨_, _, b, v, L, h1, h2, h3, _, h4⟩
  · exact absurd heq h1
  · exact ⟨b, v, L, h1, h2, h3, h4⟩
/-- What Get hands out for a version that is seen, or for none. -/
def GetF (g : Option Vs) (w w' : World) (e : Ending) : Prop := ∃ A c, e = .returned (.tuple #[.slice A (gV g).length c, .bool g.isSome]) ∧ ByL w' A (gV g) ∧ Below w.heap.size w w'
theorem get_r (P : Nat → Prop) (b : Nat) (v : Value) (L : List Mv) (R : List Vs) (tm tc : Int) (w : World) (h : Ch P w b v L) (hm : L.map Mv.v = R) (hl : L.length ≤ 1000000) (hr : Rise R) (hok : ∀ x ∈ R, x.ok = true) (hw : (Lit.int .i64 tm).wf = true) :
    Calls Try.prog 23 #[.pointer (some ⟨b, 0, none⟩), .agg #[.int .i64 tm, .int .i64 tc]] w fun e w' => GetF (getM R (tm, tc)) w w' e := by
  subst hm
  have hok' : ∀ x ∈ L, x.v.ok = true := fun x hx => hok _ (List.mem_map_of_mem hx)
  refine (ch_get P b v L tm tc w h hl hr hok' hw).mono fun e w' hg => ?_
  obtain ⟨A, c, h1, h2, _, h3⟩ := get_flat hg (fun x hx => by have := ok_bd (hok' x hx); omega)
  exact ⟨A, c, h1, h2, h3⟩
theorem gV_len {R : List Vs} {t : Int × Int} (hok : ∀ x ∈ R, x.ok = true) : (gV (getM R t)).length ≤ 1000000 := by
  cases h : getM R t with
  | none => simp [gV]
  | some x =>
    have hx : x ∈ R := by
      unfold getM at h
      split at h
      · rename_i y hy
        unfold atM at hy
        split at hy
        · cases hy
        · split at h
          · injection h with h; subst h; exact List.mem_of_getElem? hy
          · cases h
      · cases h
    have := ok_bd (hok x hx)
    show x.val.length ≤ 1000000
    omega
abbrev Sq (b B o : Nat) (f0 f1 a0 a1 : Int) (W : World) : Prop := W.cell? ⟨b, 0, none⟩ = some (.int .i64 f0) ∧ W.cell? ⟨b, 1, none⟩ = some (.int .i64 f1) ∧ W.cell? ⟨B, o, none⟩ = some (.int .i64 a0) ∧ W.cell? ⟨B, o + 1, none⟩ = some (.int .i64 a1)
theorem Sq.below {b B o : Nat} {f0 f1 a0 a1 : Int} {V W : World} (h : Sq b B o f0 f1 a0 a1 V) (k : Below V.heap.size V W) : Sq b B o f0 f1 a0 a1 W :=
  ⟨(k.cell (p := ⟨b, 0, none⟩) (block_lt_of_cell h.1)).trans h.1, (k.cell (p := ⟨b, 1, none⟩) (block_lt_of_cell h.2.1)).trans h.2.1, (k.cell (p := ⟨B, o, none⟩) (block_lt_of_cell h.2.2.1)).trans h.2.2.1, (k.cell (p := ⟨B, o + 1, none⟩) (block_lt_of_cell h.2.2.2)).trans h.2.2.2⟩
/-- A pair in a block that may be written. -/
structure PW (W : World) (b : Nat) (lo hi : Int) : Prop where
  c0 : W.cell? ⟨b, 0, none⟩ = some (.int .i64 lo)
  c1 : W.cell? ⟨b, 1, none⟩ = some (.int .i64 hi)
  f0 : W.frozen? ⟨b, 0, none⟩ = false
  f1 : W.frozen? ⟨b, 1, none⟩ = false
  lt : b < W.heap.size
theorem PW.new (W : World) (lo hi : Int) (t : TypeId) : PW (W.alloc (.cells #[.int .i64 lo, .int .i64 hi] t)) W.heap.size lo hi := by constructor <;> simp
theorem PW.call {W W' : World} {b : Nat} {lo hi : Int} (h : PW W b lo hi) (k : Below W.heap.size W W') : PW W' b lo hi := ⟨(k.cell (p := ⟨b, 0, none⟩) h.lt).trans h.c0, (k.cell (p := ⟨b, 1, none⟩) h.lt).trans h.c1, (k.frozen (p := ⟨b, 0, none⟩) h.lt).trans h.f0, (k.frozen (p := ⟨b, 1, none⟩) h.lt).trans h.f1, Nat.lt_of_lt_of_le h.lt k.size⟩
/-- Four integers in a block. -/
structure Q4 (W : World) (b : Nat) (a0 a1 a2 a3 : Int) : Prop where
  c0 : W.cell? ⟨b, 0, none⟩ = some (.int .i64 a0)
  c1 : W.cell? ⟨b, 1, none⟩ = some (.int .i64 a1)
  c2 : W.cell? ⟨b, 2, none⟩ = some (.int .i64 a2)
  c3 : W.cell? ⟨b, 3, none⟩ = some (.int .i64 a3)
  lt : b < W.heap.size
theorem Q4.new (W : World) (a0 a1 a2 a3 : Int) (t : TypeId) : Q4 (W.alloc (.cells #[.int .i64 a0, .int .i64 a1, .int .i64 a2, .int .i64 a3] t)) W.heap.size a0 a1 a2 a3 := by constructor <;> simp
theorem Q4.call {W W' : World} {b : Nat} {a0 a1 a2 a3 : Int} (h : Q4 W b a0 a1 a2 a3) (k : Below W.heap.size W W') : Q4 W' b a0 a1 a2 a3 := ⟨(k.cell (p := ⟨b, 0, none⟩) h.lt).trans h.c0, (k.cell (p := ⟨b, 1, none⟩) h.lt).trans h.c1, (k.cell (p := ⟨b, 2, none⟩) h.lt).trans h.c2, (k.cell (p := ⟨b, 3, none⟩) h.lt).trans h.c3, Nat.lt_of_lt_of_le h.lt k.size⟩
theorem below_alloc (W : World) (o : Obj) : Below W.heap.size W (W.alloc o) := (Below.refl _ _).alloc (Nat.le_refl _) _
theorem wf_mx {f a : Int × Int} (h : (Lit.int .i64 f.1).wf = true) (k : (Lit.int .i64 a.1).wf = true) : (Lit.int .i64 (mx2 f a).1).wf = true := by
  unfold mx2
  split
  · exact k
  · exact h
set_option maxRecDepth 100000 in
set_option maxHeartbeats 16000000 in
theorem chainTrims_any (A : Option Addr) (L : List Mv) (c : Nat) (f0 f1 : Int) (D : Option Addr) (n c' : Nat) (z0 z1 : Nat → Int) (w : World) (ha : RowA w A L) (hm : ∀ m ∈ L, MvIn w m) (hs : ∀ m ∈ L, m.v.val.length ≤ 281474976710656) (hl : L.length ≤ maxLen) (hn : n ≤ maxLen) (hp : PairsAt w D n z0 z1) (hz : ∀ j, j < n → (Lit.int .i64 (z0 j)).wf = true) (hf : (Lit.int .i64 f0).wf = true) :
    Calls Try.prog 5 #[.slice A L.length c, .agg #[.int .i64 f0, .int .i64 f1], .slice D n c'] w fun e w' => e = .returned (.bool true) ∧ Below w.heap.size w w' := by
  have hbx : Below w.heap.size w (w.alloc (.cells #[.int .i64 f0, .int .i64 f1] 25)) := below_alloc _ _
  have x0 : (w.alloc (.cells #[.int .i64 f0, .int .i64 f1] 25)).cell? ⟨w.heap.size, 0, none⟩ = some (.int .i64 f0) := by simp
  have x1 : (w.alloc (.cells #[.int .i64 f0, .int .i64 f1] 25)).cell? ⟨w.heap.size, 1, none⟩ = some (.int .i64 f1) := by simp
  have HX := Lib.hid (And.intro x0 x1)
  have HH := Lib.hid (lheavy A L c _ (ha.below hbx) hs hl)
  have HA := Lib.hid ha
  have HM := Lib.hid hm
  have HBX := Lib.hid hbx
  have HP := Lib.hid hp
  have HZ := Lib.hid hz
  have HF := Lib.hid hf
  have HLE := Lib.hid hl
  have hn2 : (n : Int) ≤ 9223372036854775807 := by unfold maxLen at hn; omega
  clear ha hm hs hl hbx x0 x1 hp hz hf hn
  go_enter Try.func5, Try.ntmps5
  go_wp2_with fail
  refine HH.out.mono ?_
  rintro e w0 ⟨⟨hb, rfl, h300⟩, rfl⟩
  generalize w.alloc (.cells #[.int .i64 f0, .int .i64 f1] 25) = W0 at *
  cases hb with
  | true =>
    clear h300 HH
    go_wp2
    go_ret
    exact ⟨rfl, HBX.out⟩
  | false =>
    have h3 := h300 rfl
    by_cases h100 : 100 < n
    · have t0 : decide ((100 : Int) < (n : Int)) = true := by simp only [decide_eq_true_eq]; omega
      clear h300 HH h3
      go_wp2
      go_ret
      exact ⟨rfl, HBX.out⟩
    have t0 : decide ((100 : Int) < (n : Int)) = false := by simp only [decide_eq_false_iff_not]; omega
    have hn1 : (n : Int) ≤ 100 := by omega
    have hl1 : (L.length : Int) ≤ 300 := by omega
    have HOF := Lib.hid (fun (W : World) (hb : Below w.heap.size w W) => ch_of A L c W (HA.out.below hb) (by omega) (fun m h => (HM.out m h).at_.below hb))
    have HRF := Lib.hid (fun (W : World) (hb : Below w.heap.size w W) => ref_of A L c W (HA.out.below hb) (by omega) (fun m h => (HM.out m h).at_.below hb))
    clear h300 HH h3 h100
    by_cases heq : (ofM [] (L.map Mv.v)).1 = 0
    rotate_left
    · go_wp2_with fail
      refine (HOF.out _ HBX.out).mono ?_; intro e w1 h1; obtain ⟨rfl, hb1⟩ := of_no h1 heq
      have HB1 := Lib.hid (HBX.out.trans (hb1.mono HBX.out.size))
      clear h1 hb1
      go_wp2_with fail
      refine (HOF.out _ HB1.out).mono ?_; intro e w2 h1; obtain ⟨rfl, hb2⟩ := of_no h1 heq
      have HB2 := Lib.hid (HB1.out.trans (hb2.mono HB1.out.size))
      clear h1 hb2
      go_wp2_with fail
      refine (HRF.out _ HB2.out).mono ?_; intro e w3 h1; obtain ⟨rfl, hb3⟩ := of_no h1 heq
      have HB3 := Lib.hid (HB2.out.trans (hb3.mono HB2.out.size))
      clear h1 hb3
      generalize (ofM [] (L.map Mv.v)).1 = q at *
      have tq : (q != 0) = true := by simpa using heq
      have tqq : (q != q) = false := by simp
      clear heq
      go_wp2_with fail
      refine (known15 _).mono ?_
      rintro e w4 ⟨rfl, hb4⟩
      have HB4 := Lib.hid (HB3.out.trans (hb4.mono HB3.out.size))
      clear hb4
      go_wp2
      go_ret
      exact ⟨rfl, HB4.out⟩
    have HRI := Lib.hid (ofM_rise rise_nil heq)
    have HOK := Lib.hid (fun x (hx : x ∈ (ofM [] (L.map Mv.v)).2) => all_ok heq x hx)
    have HRL : Hid ((ofM [] (L.map Mv.v)).2.length = L.length) := Lib.hid (by have := ofM_len heq; simpa using this)
    have HEQ := Lib.hid heq
    clear heq
    go_wp2_with fail
    refine (HOF.out _ HBX.out).mono ?_; intro e w1 h1; obtain ⟨b1, v1, L1, rfl, hc1, hm1, hb1⟩ := of_yes h1 HEQ.out
    have HB1 := Lib.hid (HBX.out.trans (hb1.mono HBX.out.size))
    have HLW1 := Lib.hid (And.intro (show w.heap.size < W0.heap.size from block_lt_of_cell HX.out.1) hb1.size)
    have HX1 := Lib.hid (And.intro ((hb1.cell (p := ⟨w.heap.size, 0, none⟩) (block_lt_of_cell HX.out.1)).trans HX.out.1) ((hb1.cell (p := ⟨w.heap.size, 1, none⟩) (block_lt_of_cell HX.out.2)).trans HX.out.2))
    have HC1 := Lib.hid (hc1.mono (P' := fun i => W0.heap.size ≤ i ∧ i < w1.heap.size) (fun i hi hp => ⟨hp, hi⟩))
    have HM1 := Lib.hid hm1
    clear h1 hb1 hc1 hm1
    go_wp2_with fail
    refine (HOF.out _ HB1.out).mono ?_; intro e w2 h1; obtain ⟨b2, v2, L2, rfl, hc2, hm2, hb2⟩ := of_yes h1 HEQ.out
    have HB2 := Lib.hid (HB1.out.trans (hb2.mono HB1.out.size))
    have HLW2 := Lib.hid hb2.size
    have HX2 := Lib.hid (And.intro ((hb2.cell (p := ⟨w.heap.size, 0, none⟩) (block_lt_of_cell HX1.out.1)).trans HX1.out.1) ((hb2.cell (p := ⟨w.heap.size, 1, none⟩) (block_lt_of_cell HX1.out.2)).trans HX1.out.2))
    have HC12 := Lib.hid (HC1.out.below hb2)
    have HC2 := Lib.hid hc2
    have HM2 := Lib.hid hm2
    clear h1 hb2 hc2 hm2
    go_wp2_with fail
    refine (HRF.out _ HB2.out).mono ?_; intro e w3 h1; obtain ⟨b3, v3, L3, rfl, hc3, hm3, hb3⟩ := of_yes h1 HEQ.out
    have HB3 := Lib.hid (HB2.out.trans (hb3.mono HB2.out.size))
    have HLW : Hid (w.heap.size < W0.heap.size ∧ W0.heap.size ≤ w1.heap.size ∧ W0.heap.size ≤ w3.heap.size) := Lib.hid (by have h1 := HLW1.out.1; have h2 := HLW1.out.2; have h3 := HLW2.out; have h4 := hb3.size; omega)
    clear HLW1 HLW2
    have y0 := (hb3.cell (p := ⟨w.heap.size, 0, none⟩) (block_lt_of_cell HX2.out.1)).trans HX2.out.1
    have y1 := (hb3.cell (p := ⟨w.heap.size, 1, none⟩) (block_lt_of_cell HX2.out.2)).trans HX2.out.2
    have hc13 := HC12.out.below hb3
    have HC23 := Lib.hid (HC2.out.below hb3)
    clear h1 hb3 hc3 hm3 HX HX1 HX2 HC1 HC12 HC2 HOF HRF HEQ HA HM
    generalize (ofM [] (L.map Mv.v)).2 = R at *
    have hL1 : L1.length = L.length := by have h1 := congrArg List.length HM1.out; have h2 := HRL.out; simp at h1; omega
    have hL2 : L2.length = L.length := by have h1 := congrArg List.length HM2.out; have h2 := HRL.out; simp at h1; omega
    have HT := Lib.hid (ch_trim_any _ b1 v1 L1 f0 f1 w3 hc13 (by omega) (by rw [HM1.out]; exact HRI.out) (fun x hx => HOK.out _ (mem_map_v HM1.out hx)) HF.out)
    have HFT : Hid (∀ i, w1.heap.size ≤ i → ¬ FootC b1 v1 i) := Lib.hid (fun i hi hft => by
      rcases hft with rfl | hft
      · have := hc13.pb.2; omega
      · have := (hc13.pv _ hft).2; omega)
    have HFU : Hid (∀ i, FootC b1 v1 i → W0.heap.size ≤ i) := Lib.hid (fun i hft => by
      rcases hft with rfl | hft
      · exact hc13.pb.1
      · exact (hc13.pv _ hft).1)
    have HL1 := Lib.hid hL1
    have HL2 := Lib.hid hL2
    clear hc13 hL1 hL2
    go_wp2_with fail
    refine HT.out.mono ?_
    rintro e w4 ⟨rfl, v', hc4, hbt⟩
    rw [HM1.out] at hc4 ⊢
    have y0 := (hbt.cell w.heap.size 0 (block_lt_of_cell y0) (fun hft => by have := HFU.out _ hft; have := HLW.out; omega)).trans y0
    have y1 := (hbt.cell w.heap.size 1 (block_lt_of_cell y1) (fun hft => by have := HFU.out _ hft; have := HLW.out; omega)).trans y1
    have HCA := Lib.hid hc4
    have HCB := Lib.hid (HC23.out.but hbt (fun i hi => HFT.out i hi))
    have HB4 : Hid (Below w.heap.size w w4) := Lib.hid (HB3.out.trans (hbt.below (fun i hi => by have := HFU.out i hi; have := HLW.out; omega) HB3.out.size))
    clear hc4 hbt HT HC23 HFT HFU
    -- r: what was cut
    have HGR : Hid (∀ t : Int × Int, cmp2 f0 f1 t.1 t.2 ≤ 0 → getM (R.drop (cutM R (f0, f1))) t = getM R t) := Lib.hid (fun t ht => cut_get R (f := (f0, f1)) ht)
    have HSN := Lib.hid (cut_seen R (f0, f1))
    have hrl : cutM R (f0, f1) ≤ L.length := by have h1 := cut_len R (f0, f1); rw [HRL.out] at h1; exact h1
    have HMA : Hid ((L1.drop (cutM R (f0, f1))).map Mv.v = R.drop (cutM R (f0, f1))) := Lib.hid (by rw [List.map_drop, HM1.out])
    have HLA : Hid ((L1.drop (cutM R (f0, f1))).length = L.length - cutM R (f0, f1)) := Lib.hid (by rw [List.length_drop, HL1.out])
    have HRD := Lib.hid (rise_drop HRI.out (cutM R (f0, f1)))
    have HOD : Hid (∀ x ∈ R.drop (cutM R (f0, f1)), x.ok = true) := Lib.hid (fun x hx => HOK.out x (List.mem_of_mem_drop hx))
    generalize cutM R (f0, f1) = r at *
    generalize L1.drop r = La at *
    generalize R.drop r = Ra at *
    have HGA := Lib.hid (fun (W : World) (hb : Below w4.heap.size w4 W) (t0 t1 : Int) (hw : (Lit.int .i64 t0).wf = true) => get_r _ b1 v' La Ra t0 t1 W (HCA.out.below hb) HMA.out (by have := HLA.out; omega) HRD.out HOD.out hw)
    have HGB := Lib.hid (fun (W : World) (hb : Below w4.heap.size w4 W) (t0 t1 : Int) (hw : (Lit.int .i64 t0).wf = true) => get_r _ b2 v2 L2 R t0 t1 W (HCB.out.below hb) HM2.out (by have := HL2.out; omega) HRI.out HOK.out hw)
    have hr1 : (r : Int) ≤ 300 := by omega
    have hlr : (r : Int) ≤ (L.length : Int) := by omega
    have HY := Lib.hid (And.intro y0 y1)
    have HBQ : Hid (Below w4.heap.size w4 w4) := Lib.hid (Below.refl _ _)
    clear y0 y1
    go_wp2_with fail
    go_loopw [14] (fun i wr => ∃ (k : Nat), k ≤ n ∧ i = .int .i64 k ∧ Below w4.heap.size w4 wr) (fun i _ => n - (intOf i).toNat)
    case atStart => exact ⟨0, Nat.zero_le _, rfl, HBQ.out⟩
    case round =>
      obtain ⟨k, hk, rfl, hB⟩ := hrel
      have y0 := (hB.cell (p := ⟨w.heap.size, 0, none⟩) (block_lt_of_cell HY.out.1)).trans HY.out.1
      have y1 := (hB.cell (p := ⟨w.heap.size, 1, none⟩) (block_lt_of_cell HY.out.2)).trans HY.out.2
      by_cases hlt : k < n
      · have lk : (k : Int) < (n : Int) := by omega
        have lk1 : decide ((k : Int) < (n : Int)) = true := by simpa using hlt
        obtain ⟨B, O, rfl, hBl, hcell⟩ := HP.out (by omega)
        have hbw := HB4.out.trans (hB.mono HB4.out.size)
        have q0 : wr.cell? ⟨B, O + k * 2, none⟩ = some (.int .i64 (z0 k)) := (hbw.cell (p := ⟨B, O + k * 2, none⟩) hBl).trans (hcell k hlt).1
        have q1 : wr.cell? ⟨B, O + k * 2 + 1, none⟩ = some (.int .i64 (z1 k)) := (hbw.cell (p := ⟨B, O + k * 2 + 1, none⟩) hBl).trans (hcell k hlt).2
        have HZK := Lib.hid (HZ.out k hlt)
        have hS0 : Sq w.heap.size B (O + k * 2) f0 f1 (z0 k) (z1 k) wr := ⟨y0, y1, q0, q1⟩
        have HS0 := Lib.hid hS0
        have HB := Lib.hid hB
        have wk : IntKind.i64.wrap ((k : Int) + 1) = (k : Int) + 1 := IntWalk.i64_in _ (by omega)
        have HLT : Hid (k < n) := Lib.hid hlt
        clear hbw hcell hB hlt HP HZ hS0 y0 y1 q0 q1
        generalize z0 k = a0 at *
        generalize z1 k = a1 at *
        go_wp2_with fail
        refine wp_region_held_drew (S := fun W => Sq w.heap.size B (O + k * 2) f0 f1 a0 a1 W) (by kernel_rfl) ?_ (fun hHeld => ?_)
        · exact HS0.out
        have hz4 : w4.heap.size ≤ wr.heap.size := HB.out.size
        have hdr : Below wr.heap.size wr wr.drew := (Below.refl _ _).drew
        have S0 : Sq w.heap.size B (O + k * 2) f0 f1 a0 a1 wr.drew := HS0.out.below hdr
        have G0 : Hid (Below w4.heap.size w4 wr.drew) := Lib.hid (HB.out.trans (hdr.mono HB.out.size))
        clear hdr HS0 HB hz4
        generalize wr.drew = W0' at *
        refine wpAnyH_take (i := 0) (v := ?_) rfl (by kernel_rfl) (by kernel_rfl) (by kernel_rfl) (fun _ _ _ h => h) (Or.inl ⟨by rfl, ?_⟩) (by assumption) ?_
        rotate_left
        · intro w' hSw; (try dsimp only at hSw); go_simp; (try with_reducible rfl)
        (try simp only [Act.put, List.setIfInBounds_toArray, List.set_cons_zero, List.set_cons_succ, List.getElem_toArray, List.getElem_cons_succ, List.getElem_cons_zero])
        refine wpAnyH_take (i := 1) (v := ?_) rfl (by kernel_rfl) (by kernel_rfl) (by kernel_rfl) (fun _ _ _ h => h) (Or.inl ⟨by rfl, ?_⟩) (by assumption) ?_
        rotate_left
        · intro w' hSw; (try dsimp only at hSw); go_simp; (try with_reducible rfl)
        (try simp only [Act.put, List.setIfInBounds_toArray, List.set_cons_zero, List.set_cons_succ, List.getElem_toArray, List.getElem_cons_succ, List.getElem_cons_zero])
        refine wpAnyH_take (i := 2) (v := ?_) rfl (by kernel_rfl) (by kernel_rfl) (by kernel_rfl) (fun _ _ _ h => h) (Or.inl ⟨by rfl, ?_⟩) (by assumption) ?_
        rotate_left
        · intro w' hSw; (try dsimp only at hSw); go_simp; (try with_reducible rfl)
        (try simp only [Act.put, List.setIfInBounds_toArray, List.set_cons_zero, List.set_cons_succ, List.getElem_toArray, List.getElem_cons_succ, List.getElem_cons_zero])
        refine wpAnyH_take (i := 3) (v := ?_) rfl (by kernel_rfl) (by kernel_rfl) (by kernel_rfl) (fun _ _ _ h => h) (Or.inl ⟨by rfl, ?_⟩) (by assumption) ?_
        rotate_left
        · intro w' hSw; (try dsimp only at hSw); go_simp; (try with_reducible rfl)
        (try simp only [Act.put, List.setIfInBounds_toArray, List.set_cons_zero, List.set_cons_succ, List.getElem_toArray, List.getElem_cons_succ, List.getElem_cons_zero])
        refine wpAnyH_take (i := 4) (v := ?_) rfl (by kernel_rfl) (by kernel_rfl) (by kernel_rfl) (fun _ _ _ h => h) (Or.inl ⟨by rfl, ?_⟩) (by assumption) ?_
        rotate_left
        · intro w' hSw; (try dsimp only at hSw); go_simp; (try with_reducible rfl)
        (try simp only [Act.put, List.setIfInBounds_toArray, List.set_cons_zero, List.set_cons_succ, List.getElem_toArray, List.getElem_cons_succ, List.getElem_cons_zero])
        refine wpAnyH_ready (rs := [5, 7]) (by kernel_rfl) (by simp) ?_
        refine AllReadyH.cons rfl (fun K hK => ?_) (AllReadyH.cons rfl (fun K hK => ?_) (AllReadyH.nil))
        · go_simp
          (try dsimp only)
          refine hK.out _ _ ?_ (fun hHeld => ?_)
          · exact (S0.below (below_alloc W0' (.cells #[.int .i64 f0, .int .i64 f1, .int .i64 a0, .int .i64 a1] 25)))
          clear hK K
          (try simp only [Act.put, List.setIfInBounds_toArray, List.set_cons_zero, List.set_cons_succ, List.getElem_toArray, List.getElem_cons_succ, List.getElem_cons_zero])
          have S1 := S0.below (below_alloc W0' (.cells #[.int .i64 f0, .int .i64 f1, .int .i64 a0, .int .i64 a1] 25))
          have G1 := Lib.hid (G0.out.trans ((below_alloc W0' (.cells #[.int .i64 f0, .int .i64 f1, .int .i64 a0, .int .i64 a1] 25)).mono G0.out.size))
          have Q1 := Q4.new W0' f0 f1 a0 a1 25
          generalize hW1 : W0'.alloc (.cells #[.int .i64 f0, .int .i64 f1, .int .i64 a0, .int .i64 a1] 25) = W1' at *
          clear hW1
          refine wpAnyH_ready (rs := [6, 7]) (by kernel_rfl) (by simp) ?_
          refine AllReadyH.cons rfl (fun K hK => ?_) (AllReadyH.cons rfl (fun K hK => ?_) (AllReadyH.nil))
          · go_simp
            (go_at_call 30; refine (ref_max2 W0'.heap.size f0 f1 a0 a1 W1' Q1.c0 Q1.c1 Q1.c2 Q1.c3).mono ?_; rintro e W2' ⟨rfl, hb2⟩)
            have S2 := S1.below hb2
            have G2 := Lib.hid (G1.out.trans (hb2.mono G1.out.size))
            (try dsimp only)
            refine hK.out _ _ ?_ (fun hHeld => ?_)
            · exact S2
            clear hK K
            (try simp only [Act.put, List.setIfInBounds_toArray, List.set_cons_zero, List.set_cons_succ, List.getElem_toArray, List.getElem_cons_succ, List.getElem_cons_zero])
            clear hb2 Q1
            refine wpAnyH_ready (rs := [7]) (by kernel_rfl) (by simp) ?_
            refine AllReadyH.cons rfl (fun K hK => ?_) (AllReadyH.nil)
            · go_simp
              (try dsimp only)
              refine hK.out _ _ ?_ (fun hHeld => ?_)
              · exact (S2.below (below_alloc W2' (.cells #[.int .i64 0, .int .i64 0] 25)))
              clear hK K
              (try simp only [Act.put, List.setIfInBounds_toArray, List.set_cons_zero, List.set_cons_succ, List.getElem_toArray, List.getElem_cons_succ, List.getElem_cons_zero])
              have S3 := S2.below (below_alloc W2' (.cells #[.int .i64 0, .int .i64 0] 25))
              have G3 := Lib.hid (G2.out.trans ((below_alloc W2' (.cells #[.int .i64 0, .int .i64 0] 25)).mono G2.out.size))
              have P3 := PW.new W2' 0 0 25
              have zb3 : w4.heap.size ≤ W2'.heap.size := G2.out.size
              generalize hW3 : W2'.alloc (.cells #[.int .i64 0, .int .i64 0] 25) = W3' at *
              clear hW3
              obtain ⟨n0, n1, nf0, nf1, nl⟩ := P3
              have hst : Below w4.heap.size w4 ((W3'.setCell ⟨W2'.heap.size, 0, none⟩ (.int .i64 (mx2 (f0, f1) (a0, a1)).1)).setCell ⟨W2'.heap.size, 1, none⟩ (.int .i64 (mx2 (f0, f1) (a0, a1)).2)) := by
                have h := G3.out
                have hzb := zb3
                (repeat' (first | (with_reducible exact Below.refl _ _) | (with_reducible assumption) | (with_reducible refine Below.trans ?_ (Below.mono (by with_reducible assumption) ?_)) | (with_reducible refine Below.alloc ?_ ?_ _) | (with_reducible refine Below.setCell ?_ ?_ _) | (with_reducible refine below_drewN ?_ _) | (with_reducible refine Below.drew ?_) | go_size))
              have k0 : ((W3'.setCell ⟨W2'.heap.size, 0, none⟩ (.int .i64 (mx2 (f0, f1) (a0, a1)).1)).setCell ⟨W2'.heap.size, 1, none⟩ (.int .i64 (mx2 (f0, f1) (a0, a1)).2)).cell? ⟨W2'.heap.size, 0, none⟩ = some (.int .i64 (mx2 (f0, f1) (a0, a1)).1) := (World.cell?_setCell_other _ _ _ _ (by simp)).trans (World.cell?_setCell_same _ _ _ n0)
              have k1 : ((W3'.setCell ⟨W2'.heap.size, 0, none⟩ (.int .i64 (mx2 (f0, f1) (a0, a1)).1)).setCell ⟨W2'.heap.size, 1, none⟩ (.int .i64 (mx2 (f0, f1) (a0, a1)).2)).cell? ⟨W2'.heap.size, 1, none⟩ = some (.int .i64 (mx2 (f0, f1) (a0, a1)).2) := World.cell?_setCell_same _ _ _ ((World.cell?_setCell_other _ _ _ _ (by simp)).trans n1)
              have hw0 : w.heap.size < w4.heap.size := block_lt_of_cell HY.out.1
              have hB4 : B < w4.heap.size := by have := HB4.out.size; omega
              have nw : w.heap.size ≠ W2'.heap.size := by have := zb3; omega
              have nB : B ≠ W2'.heap.size := by have := zb3; omega
              have hS : Sq w.heap.size B (O + k * 2) f0 f1 a0 a1 ((W3'.setCell ⟨W2'.heap.size, 0, none⟩ (.int .i64 (mx2 (f0, f1) (a0, a1)).1)).setCell ⟨W2'.heap.size, 1, none⟩ (.int .i64 (mx2 (f0, f1) (a0, a1)).2)) := ⟨(World.cell?_setCell_other _ _ _ _ (fun e => nw (congrArg Addr.block e).symm)).trans ((World.cell?_setCell_other _ _ _ _ (fun e => nw (congrArg Addr.block e).symm)).trans S3.1), (World.cell?_setCell_other _ _ _ _ (fun e => nw (congrArg Addr.block e).symm)).trans ((World.cell?_setCell_other _ _ _ _ (fun e => nw (congrArg Addr.block e).symm)).trans S3.2.1), (World.cell?_setCell_other _ _ _ _ (fun e => nB (congrArg Addr.block e).symm)).trans ((World.cell?_setCell_other _ _ _ _ (fun e => nB (congrArg Addr.block e).symm)).trans S3.2.2.1), (World.cell?_setCell_other _ _ _ _ (fun e => nB (congrArg Addr.block e).symm)).trans ((World.cell?_setCell_other _ _ _ _ (fun e => nB (congrArg Addr.block e).symm)).trans S3.2.2.2)⟩
              refine wpAnyH_ready (rs := [8]) (by kernel_rfl) (by simp) ?_
              refine AllReadyH.cons rfl (fun K hK => ?_) (AllReadyH.nil)
              go_simp
              (try dsimp only)
              refine hK.out _ _ ?_ (fun hHeld => ?_)
              · exact hS
              clear hK K
              (try simp only [Act.put, List.setIfInBounds_toArray, List.set_cons_zero, List.set_cons_succ, List.getElem_toArray, List.getElem_cons_succ, List.getElem_cons_zero])
              refine wpAnyH_done (by kernel_rfl) ?_ _
              have HE := Lib.hid hst
              clear hst hS n0 n1 nf0 nf1 nl S3 G3 hB4 hw0 nw nB
              generalize ((W3'.setCell ⟨W2'.heap.size, 0, none⟩ (.int .i64 (mx2 (f0, f1) (a0, a1)).1)).setCell ⟨W2'.heap.size, 1, none⟩ (.int .i64 (mx2 (f0, f1) (a0, a1)).2)) = We at *
              clear hk
              have HMX := Lib.hid (mx2_ge (f0, f1) (a0, a1))
              have HWX : Hid ((Lit.int .i64 (mx2 (f0, f1) (a0, a1)).1).wf = true) := Lib.hid (wf_mx (f := (f0, f1)) (a := (a0, a1)) HF.out HZK.out)
              have HGG : Hid (getM Ra ((mx2 (f0, f1) (a0, a1)).1, (mx2 (f0, f1) (a0, a1)).2) = getM R ((mx2 (f0, f1) (a0, a1)).1, (mx2 (f0, f1) (a0, a1)).2)) := Lib.hid (HGR.out _ HMX.out)
              generalize (mx2 (f0, f1) (a0, a1)).1 = m0 at *
              generalize (mx2 (f0, f1) (a0, a1)).2 = m1 at *
              have HN := Lib.hid (gV_len (R := R) (t := (m0, m1)) HOK.out)
              have HA1 := HGA.out _ HE.out m0 m1 HWX.out
              have HB1' := Lib.hid (fun (W : World) (hb : Below w4.heap.size w4 W) => HGB.out W hb m0 m1 HWX.out)
              rw [HGG.out] at HA1
              have HA2 := Lib.hid HA1
              clear HA1 HGG HMX HWX
              generalize getM R (m0, m1) = g at *
              go_wp2_with fail
              refine HA2.out.mono ?_
              rintro e w5 ⟨A5, c5, rfl, hby5, hb5⟩
              have k0 := (hb5.cell (p := ⟨W2'.heap.size, 0, none⟩) (block_lt_of_cell k0)).trans k0
              have k1 := (hb5.cell (p := ⟨W2'.heap.size, 1, none⟩) (block_lt_of_cell k1)).trans k1
              have HE5 := Lib.hid (HE.out.trans (hb5.mono HE.out.size))
              have HY5 := Lib.hid hby5
              clear hby5 hb5 HA2 HE
              go_wp2_with fail
              refine (HB1'.out _ HE5.out).mono ?_
              rintro e w6 ⟨A6, c6, rfl, hby6, hb6⟩
              have HE6 := Lib.hid (HE5.out.trans (hb6.mono HE5.out.size))
              have HSM := Lib.hid (lsame A5 (gV g) c5 A6 (gV g) c6 w6 HN.out HN.out (HY5.out.below hb6) hby6)
              clear hby6 hb6 HY5 HE5 HB1' k0 k1
              generalize gV g = val at *
              generalize g.isSome = bg at *
              have tb : (bg != bg) = false := by simp
              go_wp2_with fail
              refine HSM.out.mono ?_
              rintro e w7 ⟨rfl, q, rfl⟩
              first | rw [show decide (val = val) = true from by simp] | rw [show decide True = true from by simp]
              have HE7 := Lib.hid (HE6.out.trans ((drewN_below w6 q).mono HE6.out.size))
              clear HSM HE6
              go_wp2
              go_roundw
              case rel => exact ⟨k + 1, by have := HLT.out; omega, by go_num, HE7.out⟩
              case measure => have := HLT.out; simp [intOf]; omega
          · go_simp
            (try dsimp only)
            refine hK.out _ _ ?_ (fun hHeld => ?_)
            · exact (S1.below (below_alloc W1' (.cells #[.int .i64 0, .int .i64 0] 25)))
            clear hK K
            (try simp only [Act.put, List.setIfInBounds_toArray, List.set_cons_zero, List.set_cons_succ, List.getElem_toArray, List.getElem_cons_succ, List.getElem_cons_zero])
            have S4 := S1.below (below_alloc W1' (.cells #[.int .i64 0, .int .i64 0] 25))
            have G4 := Lib.hid (G1.out.trans ((below_alloc W1' (.cells #[.int .i64 0, .int .i64 0] 25)).mono G1.out.size))
            have Q4 := Q1.call (below_alloc W1' (.cells #[.int .i64 0, .int .i64 0] 25))
            have P4 := PW.new W1' 0 0 25
            have zb4 : w4.heap.size ≤ W1'.heap.size := G1.out.size
            generalize hW4 : W1'.alloc (.cells #[.int .i64 0, .int .i64 0] 25) = W4' at *
            clear hW4
            refine wpAnyH_ready (rs := [6]) (by kernel_rfl) (by simp) ?_
            refine AllReadyH.cons rfl (fun K hK => ?_) (AllReadyH.nil)
            · go_simp
              (go_at_call 30; refine (ref_max2 W0'.heap.size f0 f1 a0 a1 W4' Q4.c0 Q4.c1 Q4.c2 Q4.c3).mono ?_; rintro e W5' ⟨rfl, hb5⟩)
              have S5 := S4.below hb5
              have G5 := Lib.hid (G4.out.trans (hb5.mono G4.out.size))
              have P5 := P4.call hb5
              (try dsimp only)
              refine hK.out _ _ ?_ (fun hHeld => ?_)
              · exact S5
              clear hK K
              (try simp only [Act.put, List.setIfInBounds_toArray, List.set_cons_zero, List.set_cons_succ, List.getElem_toArray, List.getElem_cons_succ, List.getElem_cons_zero])
              clear hb5 Q4
              obtain ⟨n0, n1, nf0, nf1, nl⟩ := P5
              have hst : Below w4.heap.size w4 ((W5'.setCell ⟨W1'.heap.size, 0, none⟩ (.int .i64 (mx2 (f0, f1) (a0, a1)).1)).setCell ⟨W1'.heap.size, 1, none⟩ (.int .i64 (mx2 (f0, f1) (a0, a1)).2)) := by
                have h := G5.out
                have hzb := zb4
                (repeat' (first | (with_reducible exact Below.refl _ _) | (with_reducible assumption) | (with_reducible refine Below.trans ?_ (Below.mono (by with_reducible assumption) ?_)) | (with_reducible refine Below.alloc ?_ ?_ _) | (with_reducible refine Below.setCell ?_ ?_ _) | (with_reducible refine below_drewN ?_ _) | (with_reducible refine Below.drew ?_) | go_size))
              have k0 : ((W5'.setCell ⟨W1'.heap.size, 0, none⟩ (.int .i64 (mx2 (f0, f1) (a0, a1)).1)).setCell ⟨W1'.heap.size, 1, none⟩ (.int .i64 (mx2 (f0, f1) (a0, a1)).2)).cell? ⟨W1'.heap.size, 0, none⟩ = some (.int .i64 (mx2 (f0, f1) (a0, a1)).1) := (World.cell?_setCell_other _ _ _ _ (by simp)).trans (World.cell?_setCell_same _ _ _ n0)
              have k1 : ((W5'.setCell ⟨W1'.heap.size, 0, none⟩ (.int .i64 (mx2 (f0, f1) (a0, a1)).1)).setCell ⟨W1'.heap.size, 1, none⟩ (.int .i64 (mx2 (f0, f1) (a0, a1)).2)).cell? ⟨W1'.heap.size, 1, none⟩ = some (.int .i64 (mx2 (f0, f1) (a0, a1)).2) := World.cell?_setCell_same _ _ _ ((World.cell?_setCell_other _ _ _ _ (by simp)).trans n1)
              have hw0 : w.heap.size < w4.heap.size := block_lt_of_cell HY.out.1
              have hB4 : B < w4.heap.size := by have := HB4.out.size; omega
              have nw : w.heap.size ≠ W1'.heap.size := by have := zb4; omega
              have nB : B ≠ W1'.heap.size := by have := zb4; omega
              have hS : Sq w.heap.size B (O + k * 2) f0 f1 a0 a1 ((W5'.setCell ⟨W1'.heap.size, 0, none⟩ (.int .i64 (mx2 (f0, f1) (a0, a1)).1)).setCell ⟨W1'.heap.size, 1, none⟩ (.int .i64 (mx2 (f0, f1) (a0, a1)).2)) := ⟨(World.cell?_setCell_other _ _ _ _ (fun e => nw (congrArg Addr.block e).symm)).trans ((World.cell?_setCell_other _ _ _ _ (fun e => nw (congrArg Addr.block e).symm)).trans S5.1), (World.cell?_setCell_other _ _ _ _ (fun e => nw (congrArg Addr.block e).symm)).trans ((World.cell?_setCell_other _ _ _ _ (fun e => nw (congrArg Addr.block e).symm)).trans S5.2.1), (World.cell?_setCell_other _ _ _ _ (fun e => nB (congrArg Addr.block e).symm)).trans ((World.cell?_setCell_other _ _ _ _ (fun e => nB (congrArg Addr.block e).symm)).trans S5.2.2.1), (World.cell?_setCell_other _ _ _ _ (fun e => nB (congrArg Addr.block e).symm)).trans ((World.cell?_setCell_other _ _ _ _ (fun e => nB (congrArg Addr.block e).symm)).trans S5.2.2.2)⟩
              refine wpAnyH_ready (rs := [8]) (by kernel_rfl) (by simp) ?_
              refine AllReadyH.cons rfl (fun K hK => ?_) (AllReadyH.nil)
              go_simp
              (try dsimp only)
              refine hK.out _ _ ?_ (fun hHeld => ?_)
              · exact hS
              clear hK K
              (try simp only [Act.put, List.setIfInBounds_toArray, List.set_cons_zero, List.set_cons_succ, List.getElem_toArray, List.getElem_cons_succ, List.getElem_cons_zero])
              refine wpAnyH_done (by kernel_rfl) ?_ _
              have HE := Lib.hid hst
              clear hst hS n0 n1 nf0 nf1 nl S5 G5 hB4 hw0 nw nB
              generalize ((W5'.setCell ⟨W1'.heap.size, 0, none⟩ (.int .i64 (mx2 (f0, f1) (a0, a1)).1)).setCell ⟨W1'.heap.size, 1, none⟩ (.int .i64 (mx2 (f0, f1) (a0, a1)).2)) = We at *
              clear hk
              have HMX := Lib.hid (mx2_ge (f0, f1) (a0, a1))
              have HWX : Hid ((Lit.int .i64 (mx2 (f0, f1) (a0, a1)).1).wf = true) := Lib.hid (wf_mx (f := (f0, f1)) (a := (a0, a1)) HF.out HZK.out)
              have HGG : Hid (getM Ra ((mx2 (f0, f1) (a0, a1)).1, (mx2 (f0, f1) (a0, a1)).2) = getM R ((mx2 (f0, f1) (a0, a1)).1, (mx2 (f0, f1) (a0, a1)).2)) := Lib.hid (HGR.out _ HMX.out)
              generalize (mx2 (f0, f1) (a0, a1)).1 = m0 at *
              generalize (mx2 (f0, f1) (a0, a1)).2 = m1 at *
              have HN := Lib.hid (gV_len (R := R) (t := (m0, m1)) HOK.out)
              have HA1 := HGA.out _ HE.out m0 m1 HWX.out
              have HB1' := Lib.hid (fun (W : World) (hb : Below w4.heap.size w4 W) => HGB.out W hb m0 m1 HWX.out)
              rw [HGG.out] at HA1
              have HA2 := Lib.hid HA1
              clear HA1 HGG HMX HWX
              generalize getM R (m0, m1) = g at *
              go_wp2_with fail
              refine HA2.out.mono ?_
              rintro e w5 ⟨A5, c5, rfl, hby5, hb5⟩
              have k0 := (hb5.cell (p := ⟨W1'.heap.size, 0, none⟩) (block_lt_of_cell k0)).trans k0
              have k1 := (hb5.cell (p := ⟨W1'.heap.size, 1, none⟩) (block_lt_of_cell k1)).trans k1
              have HE5 := Lib.hid (HE.out.trans (hb5.mono HE.out.size))
              have HY5 := Lib.hid hby5
              clear hby5 hb5 HA2 HE
              go_wp2_with fail
              refine (HB1'.out _ HE5.out).mono ?_
              rintro e w6 ⟨A6, c6, rfl, hby6, hb6⟩
              have HE6 := Lib.hid (HE5.out.trans (hb6.mono HE5.out.size))
              have HSM := Lib.hid (lsame A5 (gV g) c5 A6 (gV g) c6 w6 HN.out HN.out (HY5.out.below hb6) hby6)
              clear hby6 hb6 HY5 HE5 HB1' k0 k1
              generalize gV g = val at *
              generalize g.isSome = bg at *
              have tb : (bg != bg) = false := by simp
              go_wp2_with fail
              refine HSM.out.mono ?_
              rintro e w7 ⟨rfl, q, rfl⟩
              first | rw [show decide (val = val) = true from by simp] | rw [show decide True = true from by simp]
              have HE7 := Lib.hid (HE6.out.trans ((drewN_below w6 q).mono HE6.out.size))
              clear HSM HE6
              go_wp2
              go_roundw
              case rel => exact ⟨k + 1, by have := HLT.out; omega, by go_num, HE7.out⟩
              case measure => have := HLT.out; simp [intOf]; omega
        · go_simp
          (try dsimp only)
          refine hK.out _ _ ?_ (fun hHeld => ?_)
          · exact (S0.below (below_alloc W0' (.cells #[.int .i64 0, .int .i64 0] 25)))
          clear hK K
          (try simp only [Act.put, List.setIfInBounds_toArray, List.set_cons_zero, List.set_cons_succ, List.getElem_toArray, List.getElem_cons_succ, List.getElem_cons_zero])
          have S6 := S0.below (below_alloc W0' (.cells #[.int .i64 0, .int .i64 0] 25))
          have G6 := Lib.hid (G0.out.trans ((below_alloc W0' (.cells #[.int .i64 0, .int .i64 0] 25)).mono G0.out.size))
          have P6 := PW.new W0' 0 0 25
          have zb6 : w4.heap.size ≤ W0'.heap.size := G0.out.size
          generalize hW6 : W0'.alloc (.cells #[.int .i64 0, .int .i64 0] 25) = W6' at *
          clear hW6
          refine wpAnyH_ready (rs := [5]) (by kernel_rfl) (by simp) ?_
          refine AllReadyH.cons rfl (fun K hK => ?_) (AllReadyH.nil)
          · go_simp
            (try dsimp only)
            refine hK.out _ _ ?_ (fun hHeld => ?_)
            · exact (S6.below (below_alloc W6' (.cells #[.int .i64 f0, .int .i64 f1, .int .i64 a0, .int .i64 a1] 25)))
            clear hK K
            (try simp only [Act.put, List.setIfInBounds_toArray, List.set_cons_zero, List.set_cons_succ, List.getElem_toArray, List.getElem_cons_succ, List.getElem_cons_zero])
            have S7 := S6.below (below_alloc W6' (.cells #[.int .i64 f0, .int .i64 f1, .int .i64 a0, .int .i64 a1] 25))
            have G7 := Lib.hid (G6.out.trans ((below_alloc W6' (.cells #[.int .i64 f0, .int .i64 f1, .int .i64 a0, .int .i64 a1] 25)).mono G6.out.size))
            have P7 := P6.call (below_alloc W6' (.cells #[.int .i64 f0, .int .i64 f1, .int .i64 a0, .int .i64 a1] 25))
            have Q7 := Q4.new W6' f0 f1 a0 a1 25
            generalize hW7 : W6'.alloc (.cells #[.int .i64 f0, .int .i64 f1, .int .i64 a0, .int .i64 a1] 25) = W7' at *
            clear hW7
            refine wpAnyH_ready (rs := [6]) (by kernel_rfl) (by simp) ?_
            refine AllReadyH.cons rfl (fun K hK => ?_) (AllReadyH.nil)
            · go_simp
              (go_at_call 30; refine (ref_max2 W6'.heap.size f0 f1 a0 a1 W7' Q7.c0 Q7.c1 Q7.c2 Q7.c3).mono ?_; rintro e W8' ⟨rfl, hb8⟩)
              have S8 := S7.below hb8
              have G8 := Lib.hid (G7.out.trans (hb8.mono G7.out.size))
              have P8 := P7.call hb8
              (try dsimp only)
              refine hK.out _ _ ?_ (fun hHeld => ?_)
              · exact S8
              clear hK K
              (try simp only [Act.put, List.setIfInBounds_toArray, List.set_cons_zero, List.set_cons_succ, List.getElem_toArray, List.getElem_cons_succ, List.getElem_cons_zero])
              clear hb8 Q7
              obtain ⟨n0, n1, nf0, nf1, nl⟩ := P8
              have hst : Below w4.heap.size w4 ((W8'.setCell ⟨W0'.heap.size, 0, none⟩ (.int .i64 (mx2 (f0, f1) (a0, a1)).1)).setCell ⟨W0'.heap.size, 1, none⟩ (.int .i64 (mx2 (f0, f1) (a0, a1)).2)) := by
                have h := G8.out
                have hzb := zb6
                (repeat' (first | (with_reducible exact Below.refl _ _) | (with_reducible assumption) | (with_reducible refine Below.trans ?_ (Below.mono (by with_reducible assumption) ?_)) | (with_reducible refine Below.alloc ?_ ?_ _) | (with_reducible refine Below.setCell ?_ ?_ _) | (with_reducible refine below_drewN ?_ _) | (with_reducible refine Below.drew ?_) | go_size))
              have k0 : ((W8'.setCell ⟨W0'.heap.size, 0, none⟩ (.int .i64 (mx2 (f0, f1) (a0, a1)).1)).setCell ⟨W0'.heap.size, 1, none⟩ (.int .i64 (mx2 (f0, f1) (a0, a1)).2)).cell? ⟨W0'.heap.size, 0, none⟩ = some (.int .i64 (mx2 (f0, f1) (a0, a1)).1) := (World.cell?_setCell_other _ _ _ _ (by simp)).trans (World.cell?_setCell_same _ _ _ n0)
              have k1 : ((W8'.setCell ⟨W0'.heap.size, 0, none⟩ (.int .i64 (mx2 (f0, f1) (a0, a1)).1)).setCell ⟨W0'.heap.size, 1, none⟩ (.int .i64 (mx2 (f0, f1) (a0, a1)).2)).cell? ⟨W0'.heap.size, 1, none⟩ = some (.int .i64 (mx2 (f0, f1) (a0, a1)).2) := World.cell?_setCell_same _ _ _ ((World.cell?_setCell_other _ _ _ _ (by simp)).trans n1)
              have hw0 : w.heap.size < w4.heap.size := block_lt_of_cell HY.out.1
              have hB4 : B < w4.heap.size := by have := HB4.out.size; omega
              have nw : w.heap.size ≠ W0'.heap.size := by have := zb6; omega
              have nB : B ≠ W0'.heap.size := by have := zb6; omega
              have hS : Sq w.heap.size B (O + k * 2) f0 f1 a0 a1 ((W8'.setCell ⟨W0'.heap.size, 0, none⟩ (.int .i64 (mx2 (f0, f1) (a0, a1)).1)).setCell ⟨W0'.heap.size, 1, none⟩ (.int .i64 (mx2 (f0, f1) (a0, a1)).2)) := ⟨(World.cell?_setCell_other _ _ _ _ (fun e => nw (congrArg Addr.block e).symm)).trans ((World.cell?_setCell_other _ _ _ _ (fun e => nw (congrArg Addr.block e).symm)).trans S8.1), (World.cell?_setCell_other _ _ _ _ (fun e => nw (congrArg Addr.block e).symm)).trans ((World.cell?_setCell_other _ _ _ _ (fun e => nw (congrArg Addr.block e).symm)).trans S8.2.1), (World.cell?_setCell_other _ _ _ _ (fun e => nB (congrArg Addr.block e).symm)).trans ((World.cell?_setCell_other _ _ _ _ (fun e => nB (congrArg Addr.block e).symm)).trans S8.2.2.1), (World.cell?_setCell_other _ _ _ _ (fun e => nB (congrArg Addr.block e).symm)).trans ((World.cell?_setCell_other _ _ _ _ (fun e => nB (congrArg Addr.block e).symm)).trans S8.2.2.2)⟩
              refine wpAnyH_ready (rs := [8]) (by kernel_rfl) (by simp) ?_
              refine AllReadyH.cons rfl (fun K hK => ?_) (AllReadyH.nil)
              go_simp
              (try dsimp only)
              refine hK.out _ _ ?_ (fun hHeld => ?_)
              · exact hS
              clear hK K
              (try simp only [Act.put, List.setIfInBounds_toArray, List.set_cons_zero, List.set_cons_succ, List.getElem_toArray, List.getElem_cons_succ, List.getElem_cons_zero])
              refine wpAnyH_done (by kernel_rfl) ?_ _
              have HE := Lib.hid hst
              clear hst hS n0 n1 nf0 nf1 nl S8 G8 hB4 hw0 nw nB
              generalize ((W8'.setCell ⟨W0'.heap.size, 0, none⟩ (.int .i64 (mx2 (f0, f1) (a0, a1)).1)).setCell ⟨W0'.heap.size, 1, none⟩ (.int .i64 (mx2 (f0, f1) (a0, a1)).2)) = We at *
              clear hk
              have HMX := Lib.hid (mx2_ge (f0, f1) (a0, a1))
              have HWX : Hid ((Lit.int .i64 (mx2 (f0, f1) (a0, a1)).1).wf = true) := Lib.hid (wf_mx (f := (f0, f1)) (a := (a0, a1)) HF.out HZK.out)
              have HGG : Hid (getM Ra ((mx2 (f0, f1) (a0, a1)).1, (mx2 (f0, f1) (a0, a1)).2) = getM R ((mx2 (f0, f1) (a0, a1)).1, (mx2 (f0, f1) (a0, a1)).2)) := Lib.hid (HGR.out _ HMX.out)
              generalize (mx2 (f0, f1) (a0, a1)).1 = m0 at *
              generalize (mx2 (f0, f1) (a0, a1)).2 = m1 at *
              have HN := Lib.hid (gV_len (R := R) (t := (m0, m1)) HOK.out)
              have HA1 := HGA.out _ HE.out m0 m1 HWX.out
              have HB1' := Lib.hid (fun (W : World) (hb : Below w4.heap.size w4 W) => HGB.out W hb m0 m1 HWX.out)
              rw [HGG.out] at HA1
              have HA2 := Lib.hid HA1
              clear HA1 HGG HMX HWX
              generalize getM R (m0, m1) = g at *
              go_wp2_with fail
              refine HA2.out.mono ?_
              rintro e w5 ⟨A5, c5, rfl, hby5, hb5⟩
              have k0 := (hb5.cell (p := ⟨W0'.heap.size, 0, none⟩) (block_lt_of_cell k0)).trans k0
              have k1 := (hb5.cell (p := ⟨W0'.heap.size, 1, none⟩) (block_lt_of_cell k1)).trans k1
              have HE5 := Lib.hid (HE.out.trans (hb5.mono HE.out.size))
              have HY5 := Lib.hid hby5
              clear hby5 hb5 HA2 HE
              go_wp2_with fail
              refine (HB1'.out _ HE5.out).mono ?_
              rintro e w6 ⟨A6, c6, rfl, hby6, hb6⟩
              have HE6 := Lib.hid (HE5.out.trans (hb6.mono HE5.out.size))
              have HSM := Lib.hid (lsame A5 (gV g) c5 A6 (gV g) c6 w6 HN.out HN.out (HY5.out.below hb6) hby6)
              clear hby6 hb6 HY5 HE5 HB1' k0 k1
              generalize gV g = val at *
              generalize g.isSome = bg at *
              have tb : (bg != bg) = false := by simp
              go_wp2_with fail
              refine HSM.out.mono ?_
              rintro e w7 ⟨rfl, q, rfl⟩
              first | rw [show decide (val = val) = true from by simp] | rw [show decide True = true from by simp]
              have HE7 := Lib.hid (HE6.out.trans ((drewN_below w6 q).mono HE6.out.size))
              clear HSM HE6
              go_wp2
              go_roundw
              case rel => exact ⟨k + 1, by have := HLT.out; omega, by go_num, HE7.out⟩
              case measure => have := HLT.out; simp [intOf]; omega
      · obtain rfl : n = k := by omega
        have tk : decide ((n : Int) < (n : Int)) = false := by simp
        have HEr := Lib.hid hB
        have HBw := Lib.hid (HB4.out.trans (hB.mono HB4.out.size))
        have HYr := Lib.hid (And.intro y0 y1)
        have hlaN : La.length ≤ 300 := by have := HLA.out; omega
        have HAL := Lib.hid (ch_all _ b1 v' La wr (HCA.out.below hB) (by omega) (fun x hx => by have := ok_bd (HOD.out _ (mem_map_v HMA.out hx)); omega))
        clear hB y0 y1 hk
        go_wp2_with fail
        refine HAL.out.mono ?_
        rintro e wa ⟨va, Ma, rfl, hcp, hma, hba⟩
        obtain ⟨Aa, ca, rfl⟩ := row_shapeV hcp.row
        have hml : Ma.length = La.length := by have := congrArg List.length hma; simpa using this
        have HMM : Hid (Ma.map Mv.v = Ra) := Lib.hid (hma.trans HMA.out)
        have HRA := Lib.hid (cps_rowA' hcp)
        have y0 := (hba.cell (p := ⟨w.heap.size, 0, none⟩) (block_lt_of_cell HYr.out.1)).trans HYr.out.1
        have y1 := (hba.cell (p := ⟨w.heap.size, 1, none⟩) (block_lt_of_cell HYr.out.2)).trans HYr.out.2
        have HYa := Lib.hid (And.intro y0 y1)
        have HEa := Lib.hid (HEr.out.trans (hba.mono HEr.out.size))
        have HST : Hid (StandV Ma (fun x => cmp2 x.ml x.ct f0 f1 ≤ 0) (posT Ra (f0, f1))) := Lib.hid (by have h := stand_t (L := Ma) (by rw [HMM.out]; exact HRD.out) (f0, f1); rw [HMM.out] at h; exact h)
        have hma3 : (Ma.length : Int) ≤ 300 := by omega
        have HMZ : Hid (Ma.length = L.length - r) := Lib.hid (by rw [hml]; exact HLA.out)
        have HBA : Hid (Below wa.heap.size wa wa) := Lib.hid (Below.refl _ _)
        clear hcp hma hba hml hlaN y0 y1 HYr HEr HAL HBw
        go_wp2_with fail
        go_loopw [21, 22] (fun s i wb => ∃ (j : Nat), j ≤ Ma.length ∧ i = .int .i64 j ∧ s = .int .i64 ((min j (posT Ra (f0, f1)) : Nat) : Int) ∧ Below wa.heap.size wa wb) (fun _ i _ => Ma.length - (intOf i).toNat)
        case atStart => exact ⟨0, Nat.zero_le _, rfl, by simp, HBA.out⟩
        case round =>
          obtain ⟨j, hj, rfl, rfl, hB⟩ := hrel
          have y0 := (hB.cell (p := ⟨w.heap.size, 0, none⟩) (block_lt_of_cell HYa.out.1)).trans HYa.out.1
          have y1 := (hB.cell (p := ⟨w.heap.size, 1, none⟩) (block_lt_of_cell HYa.out.2)).trans HYa.out.2
          by_cases hlt : j < Ma.length
          · generalize posT Ra (f0, f1) = pT at *
            have lj : (j : Int) < (Ma.length : Int) := by omega
            have lj1 : decide ((j : Int) < (Ma.length : Int)) = true := by simpa using lj
            obtain ⟨B, O, rfl, hBl, hcell⟩ := HRA.out (by omega)
            obtain ⟨x, hx⟩ : ∃ x, Ma[j]? = some x := ⟨Ma[j]'hlt, List.getElem?_eq_getElem _⟩
            obtain ⟨a0, a1, _, _, _, _⟩ := RowA.ver hcell hx
            have a0 := (hB.cell (p := ⟨B, _, none⟩) hBl).trans a0
            have a1 := (hB.cell (p := ⟨B, _, none⟩) hBl).trans a1
            obtain ⟨⟨ml, ct, vo, vx, gx, tt⟩, Ax, cx⟩ := x
            simp only at a0 a1
            obtain ⟨cc, hcc⟩ : ∃ cc, cc = min j pT := ⟨_, rfl⟩
            rw [← hcc]
            have hc300 : (cc : Int) ≤ 300 := by omega
            have wc : IntKind.i64.wrap ((cc : Int) + 1) = (cc : Int) + 1 := IntWalk.i64_in _ (by omega)
            have wj : IntKind.i64.wrap ((j : Int) + 1) = (j : Int) + 1 := IntWalk.i64_in _ (by omega)
            have hcon := fun W => ref10_compare ml ct f0 f1 W
            have ky0 := fun d os => cell_regrown y0 d os
            have ky1 := fun d os => cell_regrown y1 d os
            have ka0 := fun d os => cell_regrown a0 d os
            have ka1 := fun d os => cell_regrown a1 d os
            clear y0 y1 a0 a1 hcell HCA HCB HGA HGB
            by_cases hc : cmp2 ml ct f0 f1 ≤ 0
            · have hcd : decide (cmp2 ml ct f0 f1 ≤ 0) = true := by simpa using hc
              have hnx : min (j + 1) pT = cc + 1 := by exact (Nat.lt_or_ge j pT).elim (fun h9 => by omega) (fun h9 => absurd hc (HST.out.hi j _ h9 hx))
              have HNX := Lib.hid hnx
              generalize cmp2 ml ct f0 f1 = qv at *
              have AC := Lib.hid fun (d' : Nat) (os : Array Obj) => Calls.regrown_of (hcon (grow (redrawn wr d') os))
              have HBJ := Lib.hid hB
              have HJL := Lib.hid hlt
              clear hcon hc hx hnx hcc hB hlt hj
              go_wp2_with fail
              refine wp_region_quiet_below (by kernel_rfl) (by kernel_rfl) ?_
              repeat (go_big_quiet_step ((go_at_call 31; exact AC.out _ _)))
              refine wpQuiet_nil ?_
              intro _ hw'
              obtain ⟨⟨dq, osq⟩, hw''⟩ := hw'
              subst hw''
              have hq := below_regrown wr dq osq
              have HB9 := Lib.hid (HBJ.out.trans (hq.mono HBJ.out.size))
              clear hq ky0 ky1 ka0 ka1 AC HBJ
              generalize hgw : grow (redrawn wr dq) osq = W9 at *
              clear hgw
              go_wp2
              go_roundw
              case rel => exact ⟨j + 1, by have := HJL.out; omega, by go_num, by rw [HNX.out]; go_num, HB9.out⟩
              case measure => have := HJL.out; simp [intOf]; omega
            · have hcd : decide (cmp2 ml ct f0 f1 ≤ 0) = false := by simpa using hc
              have hnx : min (j + 1) pT = cc := by exact (Nat.lt_or_ge j pT).elim (fun h9 => absurd (HST.out.lo j _ h9 hx) hc) (fun h9 => by omega)
              have HNX := Lib.hid hnx
              generalize cmp2 ml ct f0 f1 = qv at *
              have AC := Lib.hid fun (d' : Nat) (os : Array Obj) => Calls.regrown_of (hcon (grow (redrawn wr d') os))
              have HBJ := Lib.hid hB
              have HJL := Lib.hid hlt
              clear hcon hc hx hnx hcc hB hlt hj
              go_wp2_with fail
              refine wp_region_quiet_below (by kernel_rfl) (by kernel_rfl) ?_
              repeat (go_big_quiet_step ((go_at_call 31; exact AC.out _ _)))
              refine wpQuiet_nil ?_
              intro _ hw'
              obtain ⟨⟨dq, osq⟩, hw''⟩ := hw'
              subst hw''
              have hq := below_regrown wr dq osq
              have HB9 := Lib.hid (HBJ.out.trans (hq.mono HBJ.out.size))
              clear hq ky0 ky1 ka0 ka1 AC HBJ
              generalize hgw : grow (redrawn wr dq) osq = W9 at *
              clear hgw
              go_wp2
              go_roundw
              case rel => exact ⟨j + 1, by have := HJL.out; omega, by go_num, by rw [HNX.out], HB9.out⟩
              case measure => have := HJL.out; simp [intOf]; omega
          · obtain rfl : j = Ma.length := by omega
            have tk : decide ((Ma.length : Int) < (Ma.length : Int)) = false := by simp
            have hmin : min Ma.length (posT Ra (f0, f1)) = posT Ra (f0, f1) := Nat.min_eq_right HST.out.le
            rw [hmin]
            have HEb := Lib.hid (HEa.out.trans (hB.mono HEa.out.size))
            have HG := HGA.out wr HEb.out f0 f1 HF.out
            have wsum : IntKind.i64.wrap ((r : Int) + (Ma.length : Int)) = (L.length : Int) := by have := HMZ.out; rw [show (r : Int) + (Ma.length : Int) = (L.length : Int) from by omega]; exact IntWalk.i64_in _ (by omega)
            have hLa3 : La.length ≤ 300 := by have := HLA.out; omega
            have HLa3 := Lib.hid hLa3
            have HSN' := HSN.out
            clear hmin hB hlt hj HST HMM HRA HBA HYa HEa HGA HGB HSN hLa3
            rcases HSN' with ⟨hp, hg, hcu⟩ | ⟨hp, ⟨xg, hg⟩, hcu⟩
            · rw [hp] at *
              rw [hg] at HG
              have HGo := Lib.hid HG
              clear HG
              go_wp2_with fail
              refine HGo.out.mono ?_
              rintro e wg ⟨Ag, cg, rfl, _, hbg⟩
              have y0 := (hbg.cell (p := ⟨w.heap.size, 0, none⟩) (block_lt_of_cell y0)).trans y0
              have y1 := (hbg.cell (p := ⟨w.heap.size, 1, none⟩) (block_lt_of_cell y1)).trans y1
              have HEg := Lib.hid (HEb.out.trans (hbg.mono HEb.out.size))
              have hcg := HCA.out.below HEg.out
              have HT2 := Lib.hid (ch_trim_any _ b1 v' La f0 f1 wg hcg (by have := HLa3.out; omega) (by rw [HMA.out]; exact HRD.out) (fun x hx => HOD.out _ (mem_map_v HMA.out hx)) HF.out)
              have HFU2 : Hid (∀ i, FootC b1 v' i → w.heap.size ≤ i) := Lib.hid (fun i hft => by
                have h5 := HLW.out.1
                rcases hft with rfl | hft
                · have := hcg.pb.1; omega
                · have := (hcg.pv _ hft).1; omega)
              have HBg := Lib.hid (HB4.out.trans (HEg.out.mono HB4.out.size))
              clear hbg hcg HGo HEb HEg
              go_wp2_with fail
              refine HT2.out.mono ?_
              rintro e wt ⟨rfl, vt, _, hbt⟩
              rw [HMA.out, hcu]
              have HBt : Hid (Below w.heap.size w wt) := Lib.hid (HBg.out.trans (hbt.below (fun i hi => HFU2.out i hi) HBg.out.size))
              clear hbt HFU2 HT2 y0 y1
              go_wp2_with fail
              refine (known15 _).mono ?_
              rintro e wz ⟨rfl, hbz⟩
              have HBz := Lib.hid (HBt.out.trans (hbz.mono HBt.out.size))
              clear hbz
              go_wp2
              go_ret
              exact ⟨rfl, HBz.out⟩
            · rw [hp] at *
              rw [hg] at HG
              have HGo := Lib.hid HG
              clear HG
              go_wp2_with fail
              refine HGo.out.mono ?_
              rintro e wg ⟨Ag, cg, rfl, _, hbg⟩
              have y0 := (hbg.cell (p := ⟨w.heap.size, 0, none⟩) (block_lt_of_cell y0)).trans y0
              have y1 := (hbg.cell (p := ⟨w.heap.size, 1, none⟩) (block_lt_of_cell y1)).trans y1
              have HEg := Lib.hid (HEb.out.trans (hbg.mono HEb.out.size))
              have hcg := HCA.out.below HEg.out
              have HT2 := Lib.hid (ch_trim_any _ b1 v' La f0 f1 wg hcg (by have := HLa3.out; omega) (by rw [HMA.out]; exact HRD.out) (fun x hx => HOD.out _ (mem_map_v HMA.out hx)) HF.out)
              have HFU2 : Hid (∀ i, FootC b1 v' i → w.heap.size ≤ i) := Lib.hid (fun i hft => by
                have h5 := HLW.out.1
                rcases hft with rfl | hft
                · have := hcg.pb.1; omega
                · have := (hcg.pv _ hft).1; omega)
              have HBg := Lib.hid (HB4.out.trans (HEg.out.mono HB4.out.size))
              clear hbg hcg HGo HEb HEg
              go_wp2_with fail
              refine HT2.out.mono ?_
              rintro e wt ⟨rfl, vt, _, hbt⟩
              rw [HMA.out, hcu]
              have HBt : Hid (Below w.heap.size w wt) := Lib.hid (HBg.out.trans (hbt.below (fun i hi => HFU2.out i hi) HBg.out.size))
              clear hbt HFU2 HT2 y0 y1
              go_wp2_with fail
              refine (known15 _).mono ?_
              rintro e wz ⟨rfl, hbz⟩
              have HBz := Lib.hid (HBt.out.trans (hbz.mono HBt.out.size))
              clear hbz
              go_wp2
              go_ret
              exact ⟨rfl, HBz.out⟩
set_option maxRecDepth 100000 in
theorem chainTrims_lifted (os : Os) (started : os.Started) (H : Type) (enc : TypeId × Value → H) :
    ReturnsInHanded {} Try.checked os 5 .any (Rows.chainTrimsSpec.pre6 enc Try.prog Try.f5 Rows.chainTrimsRow.domain false) (Rows.chainTrimsSpec.post enc Try.prog Try.f5 false true false false) := by
  refine returnsInHanded_of_change_sized (C := Try.checked) law_own started (by kernel_rfl) Try.func5
    (ChangeSpec.witness6 (enc := enc) (C := Try.checked) false ⟨#[], #[.slice none 0 0, .agg #[.int .i64 0, .int .i64 0], .slice none 0 0], []⟩ 8 (by kernel_rfl) (by kernel_rfl) (by kernel_rfl) (by kernel_rfl)) ?_
  intro W base args ds gs before hval0 hW hcnd hsz0 _
  have hval : ∀ (j : Nat) t v, Try.f5.params[j]? = some t → args[j]? = some v → Value.okWide Try.prog W .any base t v := hval0
  have hsz : (DataW.weightsEach Try.prog (Try.f5.params.toList ++ Rows.chainTrimsSpec.plain.varTypes Try.prog) (ds ++ gs)).all (· ≤ reachBytes) = true := hsz0
  have hW' := hW
  obtain ⟨p, q, hA0, hV, rfl, hfz, hnd⟩ := hW
  have hA : DataW.TrodAll enc Try.prog W 0 (fun _ => true) true Try.f5.params.toList args.toList ds p := hA0
  rw [Try.params5] at hA hval hsz
  have hsame : (Rows.chainTrimsSpec.fn H (ds ++ gs)).results = [.lit (.bool true)] ∧ (Rows.chainTrimsSpec.fn H (ds ++ gs)).args = ds ∧ (Rows.chainTrimsSpec.fn H (ds ++ gs)).vars = [] → ∀ W', Below W.heap.size W W' → Rows.chainTrimsSpec.post enc Try.prog Try.f5 false true false false W args (.bool true) W' :=
    fun h W' hb => law_post (tb := 4) hW' law_laid (by kernel_rfl) rfl Try.underlying4 h.1 h.2.1 rfl h.2.2 hb
  obtain ⟨v0, vs0, d0, ds0, p0, q0, hargs, rfl, rfl, h0, r0⟩ := trodAll_cons hA
  obtain ⟨v1, vs1, d1, ds1, p1, q1, rfl, rfl, rfl, h1, r1⟩ := trodAll_cons r0
  obtain ⟨v2, vs2, d2, ds2, p2, q2, rfl, rfl, rfl, h2, r2⟩ := trodAll_cons r1
  obtain ⟨rfl, rfl, rfl⟩ := trodAll_nil r2
  obtain rfl : args = #[v0, v1, v2] := by cases args; simp_all
  obtain ⟨rfl, rfl⟩ := trodVars_none hV
  have hpost := hsame ⟨rfl, rfl, rfl⟩
  clear hsame hA0 hval0 hsz0
  obtain ⟨L, A, c, rfl, _, _, hrow, hin, _, hz⟩ := open_versions (hval 0 22 v0 rfl rfl) h0
  have hk := hz reachBytes (sized_each (j := 0) hsz rfl rfl)
  unfold reachBytes at hk
  obtain ⟨f0, f1, rfl, wf0, wf1⟩ := open_stamp (hval 1 25 v1 rfl rfl) h1
  obtain ⟨D, n, c', z, rfl, hn, hz2⟩ := open_flat_slice (m := 2) Try.underlying57 (by kernel_rfl) (by kernel_rfl) (by omega) (hval 2 57 v2 rfl rfl) h2
  exact (chainTrims_any A L c f0 f1 D n c' (fun j => z (j * 2)) (fun j => z (j * 2 + 1)) W hrow hin (fun m hm => by have := hk m hm; omega) (by omega) (by omega) hz2.pairs (fun j hj => by obtain ⟨B, O, _, _, hc⟩ := hz2 (by omega); have h := (hc (j * 2) (by omega)).2; simp [Lit.wf, IntKind.min, IntKind.max, IntKind.signed, IntKind.bits]; omega) wf0).mono fun e W' ⟨he, hb⟩ => ⟨_, he, hpost W' hb⟩
theorem chainTrims_holds : Rows.ChainTrimsSaid :=
  OpenClaim.holds_of_wide 5 Try.f5 rfl rfl rfl rfl rfl rfl rfl ⟨rfl, rfl, rfl, rfl, rfl⟩ rfl rfl rfl rfl rfl (by kernel_rfl) Try.func5 (by kernel_rfl)
    (of_decide_eq_true (by kernel_rfl)) (by unfold Func.isWrapper; first | (rw [if_pos (by decide +kernel)]; kernel_rfl) | (rw [if_neg (by decide +kernel)]; exact ⟨rfl, rfl⟩))
    (fun os started H enc _ => chainTrims_lifted os started H enc)
end Go.Proofs.Ytfjnjababehmmaa
