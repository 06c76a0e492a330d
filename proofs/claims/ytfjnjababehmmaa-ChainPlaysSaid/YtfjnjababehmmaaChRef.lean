/- The reference's Seen (written by gen/chref.py), Order, own. -/
import Derived.Test.YtfjnjababehmmaaChSeen
set_option linter.unusedSimpArgs false
set_option linter.unusedVariables false
namespace Go.Proofs.Ytfjnjababehmmaa
open Go.RowKit

set_option maxHeartbeats 4000000 in
theorem ref_seen (ml ct vo : Int) (A : Option Addr) (n c : Nat) (gn : Bool) (tt tm tc : Int) (val : List Int) (w : World) (m0 : 0 ≤ ml) (t0 : 0 ≤ tt) (m1 : ml ≤ 281474976710655) (t1 : tt ≤ 281474976710655) (hw : (Lit.int .i64 tm).wf = true) :
    Calls Try.prog 44 #[verV ml ct vo A n c gn tt, .agg #[.int .i64 tm, .int .i64 tc]] w fun e w' => e = .returned (.bool (seenB ⟨ml, ct, vo, val, gn, tt⟩ tm tc)) ∧ Below w.heap.size w w' := by
  have hb : -9223372036854775808 ≤ tm ∧ tm ≤ 9223372036854775807 := by
    simp [Lit.wf, IntKind.min, IntKind.max, IntKind.signed, IntKind.bits] at hw
    omega
  have hud : undef = Value.tuple #[] := rfl
  have HC0 := fun W => ref10_compare ml ct tm tc W
  have hcm : cmp2 ml ct tm tc ≤ 0 → ml ≤ tm := cmp2_ml
  have HE : Hid (seenB ⟨ml, ct, vo, val, gn, tt⟩ tm tc = (decide (cmp2 ml ct tm tc ≤ 0) && (!gn && (decide (tt = 0) || decide (tm - ml < tt))))) := rfl
  generalize cmp2 ml ct tm tc = q at *
  have HC := Lib.hid HC0
  clear HC0 hw
  by_cases hq : q ≤ 0
  · have t2 : decide (0 < q) = false := by simp only [decide_eq_false_iff_not]; omega
    have hle := hcm hq
    cases gn with
    | true =>
      rw [HE.out]
      clear hcm
      go_enter Try.func44, Try.ntmps44
      go_wp2_with (go_at_call 31; refine (HC.out _).mono ?_; rintro e w1 ⟨rfl, hb1⟩; obtain ⟨hc1, hf1⟩ := bcell hb1; (try simp only [World.size_alloc] at hc1 hf1); have q3 : w1.cell? ⟨w.heap.size, 4, none⟩ = some (.bool true) := (hc1 _ _ (by omega)).trans (by simp); clear hc1 hf1)
      go_ret
      go_light
      exact ⟨by simp, by (repeat' (first | (with_reducible exact Below.refl _ _) | (with_reducible assumption) | (with_reducible refine Below.trans ?_ (Below.mono (by with_reducible assumption) ?_)) | (with_reducible refine Below.alloc ?_ ?_ _) | (with_reducible refine Below.setCell ?_ ?_ _) | (with_reducible refine below_drewN ?_ _) | (with_reducible refine Below.drew ?_) | go_size))⟩
    | false =>
      have e0 : IntKind.i64.wrap (tm - ml) = tm - ml := IntWalk.i64_in _ (by omega)
      have e1 : IntKind.u64.wrap tm = tm := (by rw [IntKind.wrap_u64]; omega)
      have e2 : IntKind.u64.wrap ml = ml := (by rw [IntKind.wrap_u64]; omega)
      have e3 : IntKind.u64.wrap (tm - ml) = tm - ml := (by rw [IntKind.wrap_u64]; omega)
      have e4 : IntKind.u64.wrap tt = tt := (by rw [IntKind.wrap_u64]; omega)
      by_cases h0 : tt = 0
      · subst h0
        have HEE : Hid (seenB ⟨ml, ct, vo, val, false, 0⟩ tm tc = true) := Lib.hid (by rw [HE.out]; simp [hq])
        rw [HEE.out]
        clear hcm HE hq
        go_enter Try.func44, Try.ntmps44
        go_wp2_with (go_at_call 31; refine (HC.out _).mono ?_; rintro e w1 ⟨rfl, hb1⟩; obtain ⟨hc1, hf1⟩ := bcell hb1; (try simp only [World.size_alloc] at hc1 hf1); have q3 : w1.cell? ⟨w.heap.size, 4, none⟩ = some (.bool false) := (hc1 _ _ (by omega)).trans (by simp); have q0 : w1.cell? ⟨w.heap.size, 0, none⟩ = some (.int .i64 ml) := (hc1 _ _ (by omega)).trans (by simp); have q5 : w1.cell? ⟨w.heap.size, 5, none⟩ = some (.int .i64 0) := (hc1 _ _ (by omega)).trans (by simp); have s0 : w1.cell? ⟨w.heap.size + 1, 0, none⟩ = some (.int .i64 tm) := (hc1 _ _ (by omega)).trans (by simp); clear hc1 hf1)
        go_ret
        go_light
        exact ⟨by simp, by (repeat' (first | (with_reducible exact Below.refl _ _) | (with_reducible assumption) | (with_reducible refine Below.trans ?_ (Below.mono (by with_reducible assumption) ?_)) | (with_reducible refine Below.alloc ?_ ?_ _) | (with_reducible refine Below.setCell ?_ ?_ _) | (with_reducible refine below_drewN ?_ _) | (with_reducible refine Below.drew ?_) | go_size))⟩
      · have h0a : (tt == 0) = false := by simpa using h0
        have h0b : decide (0 < tt) = true := by simp; omega
        have HEE : Hid (seenB ⟨ml, ct, vo, val, false, tt⟩ tm tc = decide (tm - ml < tt)) := Lib.hid (by rw [HE.out]; simp [hq, h0])
        rw [HEE.out]
        clear hcm HE hq h0
        go_enter Try.func44, Try.ntmps44
        go_wp2_with (go_at_call 31; refine (HC.out _).mono ?_; rintro e w1 ⟨rfl, hb1⟩; obtain ⟨hc1, hf1⟩ := bcell hb1; (try simp only [World.size_alloc] at hc1 hf1); have q3 : w1.cell? ⟨w.heap.size, 4, none⟩ = some (.bool false) := (hc1 _ _ (by omega)).trans (by simp); have q0 : w1.cell? ⟨w.heap.size, 0, none⟩ = some (.int .i64 ml) := (hc1 _ _ (by omega)).trans (by simp); have q5 : w1.cell? ⟨w.heap.size, 5, none⟩ = some (.int .i64 tt) := (hc1 _ _ (by omega)).trans (by simp); have s0 : w1.cell? ⟨w.heap.size + 1, 0, none⟩ = some (.int .i64 tm) := (hc1 _ _ (by omega)).trans (by simp); clear hc1 hf1)
        go_ret
        go_light
        exact ⟨by simp, by (repeat' (first | (with_reducible exact Below.refl _ _) | (with_reducible assumption) | (with_reducible refine Below.trans ?_ (Below.mono (by with_reducible assumption) ?_)) | (with_reducible refine Below.alloc ?_ ?_ _) | (with_reducible refine Below.setCell ?_ ?_ _) | (with_reducible refine below_drewN ?_ _) | (with_reducible refine Below.drew ?_) | go_size))⟩
  · have t2 : decide (0 < q) = true := by simp only [decide_eq_true_eq]; omega
    have HEE : Hid (seenB ⟨ml, ct, vo, val, gn, tt⟩ tm tc = false) := Lib.hid (by rw [HE.out]; simp [hq])
    rw [HEE.out]
    clear hcm HE hq
    go_enter Try.func44, Try.ntmps44
    go_wp2_with (go_at_call 31; refine (HC.out _).mono ?_; rintro e w1 ⟨rfl, hb1⟩)
    go_ret
    go_light
    exact ⟨rfl, by (repeat' (first | (with_reducible exact Below.refl _ _) | (with_reducible assumption) | (with_reducible refine Below.trans ?_ (Below.mono (by with_reducible assumption) ?_)) | (with_reducible refine Below.alloc ?_ ?_ _) | (with_reducible refine Below.setCell ?_ ?_ _) | (with_reducible refine below_drewN ?_ _) | (with_reducible refine Below.drew ?_) | go_size))⟩
set_option maxHeartbeats 2000000 in
theorem ref_order (ml ct vo : Int) (A : Option Addr) (n c : Nat) (g : Bool) (tt : Int) (ml' ct' vo' : Int) (A' : Option Addr) (n' c' : Nat) (g' : Bool) (tt' : Int) (w : World) :
    Calls Try.prog 37 #[verV ml ct vo A n c g tt, verV ml' ct' vo' A' n' c' g' tt'] w fun e w' => e = .returned (.int .i64 (or2 (cmp2 ml ct ml' ct') (cmp1 vo vo'))) ∧ Below w.heap.size w w' := by
  have HC0 := fun W => ref10_compare ml ct ml' ct' W
  generalize cmp2 ml ct ml' ct' = q at *
  have HC := Lib.hid HC0
  clear HC0
  have ARM : True := trivial
  unfold or2
  by_cases hq : q = 0
  · subst hq
    rw [if_pos rfl]
    unfold cmp1
    by_cases h1 : vo < vo'
    · have t1 : decide (vo < vo') = true := by simpa using h1
      rw [if_pos h1]
      clear h1
      go_enter Try.func37, Try.ntmps37
      go_wp2_with (go_at_call 31; refine (HC.out _).mono ?_; rintro e w1 ⟨rfl, hb1⟩; obtain ⟨hc1, hf1⟩ := bcell hb1; (try simp only [World.size_alloc] at hc1 hf1); have q2 : w1.cell? ⟨w.heap.size, 2, none⟩ = some (.int .i64 vo) := (hc1 _ _ (by omega)).trans (by simp [World.cell?_alloc_past]); have s2 : w1.cell? ⟨w.heap.size + 1, 2, none⟩ = some (.int .i64 vo') := (hc1 _ _ (by omega)).trans (by simp); clear hc1 hf1)
      go_ret
      go_light
      exact ⟨rfl, by (repeat' (first | (with_reducible exact Below.refl _ _) | (with_reducible assumption) | (with_reducible refine Below.trans ?_ (Below.mono (by with_reducible assumption) ?_)) | (with_reducible refine Below.alloc ?_ ?_ _) | (with_reducible refine Below.setCell ?_ ?_ _) | (with_reducible refine below_drewN ?_ _) | (with_reducible refine Below.drew ?_) | go_size))⟩
    · have t1 : decide (vo < vo') = false := by simpa using h1
      rw [if_neg h1]
      by_cases h2 : vo' < vo
      · have t2 : decide (vo' < vo) = true := by simpa using h2
        rw [if_pos h2]
        clear h1 h2
        go_enter Try.func37, Try.ntmps37
        go_wp2_with (go_at_call 31; refine (HC.out _).mono ?_; rintro e w1 ⟨rfl, hb1⟩; obtain ⟨hc1, hf1⟩ := bcell hb1; (try simp only [World.size_alloc] at hc1 hf1); have q2 : w1.cell? ⟨w.heap.size, 2, none⟩ = some (.int .i64 vo) := (hc1 _ _ (by omega)).trans (by simp [World.cell?_alloc_past]); have s2 : w1.cell? ⟨w.heap.size + 1, 2, none⟩ = some (.int .i64 vo') := (hc1 _ _ (by omega)).trans (by simp); clear hc1 hf1)
        go_ret
        go_light
        exact ⟨rfl, by (repeat' (first | (with_reducible exact Below.refl _ _) | (with_reducible assumption) | (with_reducible refine Below.trans ?_ (Below.mono (by with_reducible assumption) ?_)) | (with_reducible refine Below.alloc ?_ ?_ _) | (with_reducible refine Below.setCell ?_ ?_ _) | (with_reducible refine below_drewN ?_ _) | (with_reducible refine Below.drew ?_) | go_size))⟩
      · have t2 : decide (vo' < vo) = false := by simpa using h2
        rw [if_neg h2]
        clear h1 h2
        go_enter Try.func37, Try.ntmps37
        go_wp2_with (go_at_call 31; refine (HC.out _).mono ?_; rintro e w1 ⟨rfl, hb1⟩; obtain ⟨hc1, hf1⟩ := bcell hb1; (try simp only [World.size_alloc] at hc1 hf1); have q2 : w1.cell? ⟨w.heap.size, 2, none⟩ = some (.int .i64 vo) := (hc1 _ _ (by omega)).trans (by simp [World.cell?_alloc_past]); have s2 : w1.cell? ⟨w.heap.size + 1, 2, none⟩ = some (.int .i64 vo') := (hc1 _ _ (by omega)).trans (by simp); clear hc1 hf1)
        go_ret
        go_light
        exact ⟨rfl, by (repeat' (first | (with_reducible exact Below.refl _ _) | (with_reducible assumption) | (with_reducible refine Below.trans ?_ (Below.mono (by with_reducible assumption) ?_)) | (with_reducible refine Below.alloc ?_ ?_ _) | (with_reducible refine Below.setCell ?_ ?_ _) | (with_reducible refine below_drewN ?_ _) | (with_reducible refine Below.drew ?_) | go_size))⟩
  · have t0 : (q != 0) = true := by simpa using hq
    have t0' : (q == 0) = false := by simpa using hq
    rw [if_neg hq]
    clear hq
    go_enter Try.func37, Try.ntmps37
    go_wp2_with (go_at_call 31; refine (HC.out _).mono ?_; rintro e w1 ⟨rfl, hb1⟩)
    go_ret
    go_light
    exact ⟨rfl, by (repeat' (first | (with_reducible exact Below.refl _ _) | (with_reducible assumption) | (with_reducible refine Below.trans ?_ (Below.mono (by with_reducible assumption) ?_)) | (with_reducible refine Below.alloc ?_ ?_ _) | (with_reducible refine Below.setCell ?_ ?_ _) | (with_reducible refine below_drewN ?_ _) | (with_reducible refine Below.drew ?_) | go_size))⟩
theorem fz_one (w : World) (cs : Array Value) (t : TypeId) (o2 o3 : Obj) (k : Nat) : (((w.alloc (.cells cs t)).alloc o2).alloc o3).frozen? ⟨w.heap.size, k, none⟩ = false := by
  rw [(((Below.refl _ (w.alloc (.cells cs t))).alloc (Nat.le_refl _) o2).alloc (by simp) o3).frozen (p := ⟨w.heap.size, k, none⟩) (by simp)]
  exact World.frozen?_alloc_at (w := w) cs t w.heap.size k rfl
theorem fz_two (w : World) (o1 : Obj) (cs : Array Value) (t : TypeId) (o3 : Obj) (k : Nat) : (((w.alloc o1).alloc (.cells cs t)).alloc o3).frozen? ⟨w.heap.size + 1, k, none⟩ = false := by
  rw [((Below.refl _ ((w.alloc o1).alloc (.cells cs t))).alloc (Nat.le_refl _) o3).frozen (p := ⟨w.heap.size + 1, k, none⟩) (by simp)]
  exact World.frozen?_alloc_at (w := w.alloc o1) cs t (w.heap.size + 1) k (by simp)
theorem at_one (w : World) (cs : Array Value) (t : TypeId) (o2 o3 : Obj) (k : Nat) : (((w.alloc (.cells cs t)).alloc o2).alloc o3).cell? ⟨w.heap.size, k, none⟩ = cs[k]? := by
  rw [World.cell?_alloc_past _ _ _ (by simp; omega), World.cell?_alloc_past _ _ _ (by simp)]
  simp
theorem at_two (w : World) (o1 : Obj) (cs : Array Value) (t : TypeId) (o3 : Obj) (k : Nat) : (((w.alloc o1).alloc (.cells cs t)).alloc o3).cell? ⟨w.heap.size + 1, k, none⟩ = cs[k]? := by
  rw [World.cell?_alloc_past _ _ _ (by simp)]
  have h := World.cell?_alloc_at (w := w.alloc o1) cs t (w.heap.size + 1) k (by simp)
  exact h
set_option maxRecDepth 100000 in
set_option maxHeartbeats 4000000 in
theorem ref_own (m : Mv) (w : World) (hp : ByL w m.A m.v.val) (hn : m.A = none → m.v.val.length = 0) (hl : m.v.val.length ≤ 100000) :
    Calls Try.prog 38 #[m.val] w fun e w' => Owned w w' m e := by
  obtain ⟨⟨ml, ct, vo, val, gn, tt⟩, A, c⟩ := m
  obtain ⟨i0, hi0, hz0, hz1, hz2⟩ := info_parts u8_info
  have HB0' : Below w.heap.size w (((w.alloc (verO ml ct vo A val.length c gn tt)).alloc (verO 0 0 0 none 0 0 false 0)).alloc (.cells #[] 5)) := by (repeat' (first | (with_reducible exact Below.refl _ _) | (with_reducible assumption) | (with_reducible refine Below.trans ?_ (Below.mono (by with_reducible assumption) ?_)) | (with_reducible refine Below.alloc ?_ ?_ _) | (with_reducible refine Below.setCell ?_ ?_ _) | (with_reducible refine below_drewN ?_ _) | (with_reducible refine Below.drew ?_) | go_size))
  have hmade := World.ownsRow_made (base := w.heap.size + 1 + 1) (e := 5) (size := 1) ((w.alloc (verO ml ct vo A val.length c gn tt)).alloc (verO 0 0 0 none 0 0 false 0)) #[] 0 (by simp) (Nat.zero_le _) rfl
  have hni : (val.length : Int) ≤ 100000 := Int.ofNat_le.2 hl
  have HP := Lib.hid (hp.below HB0')
  clear hp
  simp only [World.size_alloc] at hmade
  by_cases hp0 : 0 < val.length
  · obtain ⟨ad, rfl⟩ : ∃ ad, A = some ad := by
      cases A with
      | none => have : val.length = 0 := hn rfl; omega
      | some ad => exact ⟨ad, rfl⟩
    have hsrc := HP.out.cells
    have HBX : Hid (Below (w.heap.size + 1 + 1) (((w.alloc (verO ml ct vo (some ad) val.length c gn tt)).alloc (verO 0 0 0 none 0 0 false 0)).alloc (.cells #[] 5)) (((w.alloc (verO ml ct vo (some ad) val.length c gn tt)).alloc (verO 0 0 0 none 0 0 false 0)).alloc (.cells #[] 5))) := Lib.hid (Below.refl _ _)
    have lx0 : w.heap.size < w.heap.size + 1 + 1 := by omega
    have lx1 : w.heap.size + 1 < w.heap.size + 1 + 1 := by omega
    clear hn
    go_enter Try.func38, Try.ntmps38
    go_wp2_with (at_builtin; refine wpList_append_lies _ rfl (.tmp 3) (.tmp 5) _ rfl (w.heap.size + 1 + 1) 5 i0 _ 1 1 Try.underlying26 hi0 hz0 hz1 hz2 rfl (by decide) (.slice (some ⟨w.heap.size + 1 + 1, 0, none⟩) 0 0) 0 [] rfl hmade ad val.length c (bC val) rfl (by rw [bC_len]; omega) hsrc (bC_one _) hp0 (by unfold maxLen; omega) (by omega) (by simp) _ rfl ?_; intro g1 cap1 w1 hown0 hg1 hat1 hlt1; have hown1 : w1.ownsRow (w.heap.size + 1 + 1) 5 1 (.slice (some ⟨g1, 0, none⟩) val.length cap1) val.length (bC val) := (by simpa using hown0); clear hown0; have hb1 := HBX.out.grown hg1 (by simp) (fun k hk => by simp [Value.ownBlock] at hk; omega); have q0 : w1.cell? ⟨w.heap.size, 0, none⟩ = some (.int .i64 ml) := (hb1.cell (p := ⟨w.heap.size, 0, none⟩) lx0).trans (at_one _ _ _ _ _ _); have q1 : w1.cell? ⟨w.heap.size, 1, none⟩ = some (.int .i64 ct) := (hb1.cell (p := ⟨w.heap.size, 1, none⟩) lx0).trans (at_one _ _ _ _ _ _); have q2 : w1.cell? ⟨w.heap.size, 2, none⟩ = some (.int .i64 vo) := (hb1.cell (p := ⟨w.heap.size, 2, none⟩) lx0).trans (at_one _ _ _ _ _ _); have q3 : w1.cell? ⟨w.heap.size, 3, none⟩ = some (.slice (some ad) val.length c) := (hb1.cell (p := ⟨w.heap.size, 3, none⟩) lx0).trans (at_one _ _ _ _ _ _); have q4 : w1.cell? ⟨w.heap.size, 4, none⟩ = some (.bool gn) := (hb1.cell (p := ⟨w.heap.size, 4, none⟩) lx0).trans (at_one _ _ _ _ _ _); have q5 : w1.cell? ⟨w.heap.size, 5, none⟩ = some (.int .i64 tt) := (hb1.cell (p := ⟨w.heap.size, 5, none⟩) lx0).trans (at_one _ _ _ _ _ _); have r0 : w1.cell? ⟨w.heap.size + 1, 0, none⟩ = some (.int .i64 0) := (hb1.cell (p := ⟨w.heap.size + 1, 0, none⟩) lx1).trans (at_two _ _ _ _ _ _); have r1 : w1.cell? ⟨w.heap.size + 1, 1, none⟩ = some (.int .i64 0) := (hb1.cell (p := ⟨w.heap.size + 1, 1, none⟩) lx1).trans (at_two _ _ _ _ _ _); have r2 : w1.cell? ⟨w.heap.size + 1, 2, none⟩ = some (.int .i64 0) := (hb1.cell (p := ⟨w.heap.size + 1, 2, none⟩) lx1).trans (at_two _ _ _ _ _ _); have r3 : w1.cell? ⟨w.heap.size + 1, 3, none⟩ = some (.slice none 0 0) := (hb1.cell (p := ⟨w.heap.size + 1, 3, none⟩) lx1).trans (at_two _ _ _ _ _ _); have r4 : w1.cell? ⟨w.heap.size + 1, 4, none⟩ = some (.bool false) := (hb1.cell (p := ⟨w.heap.size + 1, 4, none⟩) lx1).trans (at_two _ _ _ _ _ _); have r5 : w1.cell? ⟨w.heap.size + 1, 5, none⟩ = some (.int .i64 0) := (hb1.cell (p := ⟨w.heap.size + 1, 5, none⟩) lx1).trans (at_two _ _ _ _ _ _); have f3 : w1.frozen? ⟨w.heap.size, 3, none⟩ = false := (hb1.frozen (p := ⟨w.heap.size, 3, none⟩) lx0).trans (fz_one _ _ _ _ _ _); have uf0 : w1.frozen? ⟨w.heap.size + 1, 0, none⟩ = false := (hb1.frozen (p := ⟨w.heap.size + 1, 0, none⟩) lx1).trans (fz_two _ _ _ _ _ _); have uf1 : w1.frozen? ⟨w.heap.size + 1, 1, none⟩ = false := (hb1.frozen (p := ⟨w.heap.size + 1, 1, none⟩) lx1).trans (fz_two _ _ _ _ _ _); have uf2 : w1.frozen? ⟨w.heap.size + 1, 2, none⟩ = false := (hb1.frozen (p := ⟨w.heap.size + 1, 2, none⟩) lx1).trans (fz_two _ _ _ _ _ _); have uf3 : w1.frozen? ⟨w.heap.size + 1, 3, none⟩ = false := (hb1.frozen (p := ⟨w.heap.size + 1, 3, none⟩) lx1).trans (fz_two _ _ _ _ _ _); have uf4 : w1.frozen? ⟨w.heap.size + 1, 4, none⟩ = false := (hb1.frozen (p := ⟨w.heap.size + 1, 4, none⟩) lx1).trans (fz_two _ _ _ _ _ _); have uf5 : w1.frozen? ⟨w.heap.size + 1, 5, none⟩ = false := (hb1.frozen (p := ⟨w.heap.size + 1, 5, none⟩) lx1).trans (fz_two _ _ _ _ _ _); have hz := hg1.size; (try simp only [World.size_alloc] at hz); (try simp only [Nat.zero_add]))
    have HG : Hid (Below w.heap.size w w1) := Lib.hid (HB0'.grown hg1 (by simp; omega) (fun k hk => by simp [Value.ownBlock] at hk; omega))
    have HO := Lib.hid hown1
    clear hown1 hg1 hat1 hlt1 hsrc hmade HP HB0'
    (try go_wp2)
    have HF : Below w.heap.size w (((((((w1.setCell ⟨w.heap.size, 3, none⟩ (.slice (some ⟨g1, 0, none⟩) val.length cap1)).setCell ⟨w.heap.size + 1, 0, none⟩ (.int .i64 ml)).setCell ⟨w.heap.size + 1, 1, none⟩ (.int .i64 ct)).setCell ⟨w.heap.size + 1, 2, none⟩ (.int .i64 vo)).setCell ⟨w.heap.size + 1, 3, none⟩ (.slice (some ⟨g1, 0, none⟩) val.length cap1)).setCell ⟨w.heap.size + 1, 4, none⟩ (.bool gn)).setCell ⟨w.heap.size + 1, 5, none⟩ (.int .i64 tt)) := by
      have h0 := HG.out
      clear HG HO
      (repeat' (first | (with_reducible exact Below.refl _ _) | (with_reducible assumption) | (with_reducible refine Below.trans ?_ (Below.mono (by with_reducible assumption) ?_)) | (with_reducible refine Below.alloc ?_ ?_ _) | (with_reducible refine Below.setCell ?_ ?_ _) | (with_reducible refine below_drewN ?_ _) | (with_reducible refine Below.drew ?_) | go_size))
    have HR := own_far HO.out ((by (repeat' (first | (with_reducible exact But.refl _ _) | (with_reducible assumption) | (with_reducible refine But.setCell ?_ (fun _ => ?_) _) | (with_reducible refine But.alloc ?_ _) | (with_reducible refine But.drewN ?_ _) | (with_reducible refine But.drew ?_) | (show _ < _; simp only [World.size_alloc, World.size_setCell, World.heap_drewN]; omega) | go_size))) : But (fun i => i < w.heap.size + 1 + 1) w1 (((((((w1.setCell ⟨w.heap.size, 3, none⟩ (.slice (some ⟨g1, 0, none⟩) val.length cap1)).setCell ⟨w.heap.size + 1, 0, none⟩ (.int .i64 ml)).setCell ⟨w.heap.size + 1, 1, none⟩ (.int .i64 ct)).setCell ⟨w.heap.size + 1, 2, none⟩ (.int .i64 vo)).setCell ⟨w.heap.size + 1, 3, none⟩ (.slice (some ⟨g1, 0, none⟩) val.length cap1)).setCell ⟨w.heap.size + 1, 4, none⟩ (.bool gn)).setCell ⟨w.heap.size + 1, 5, none⟩ (.int .i64 tt)))
    refine bodyPost_ret (v := verV ml ct vo (some ⟨g1, 0, none⟩) val.length cap1 gn tt) (by simp [results, Try.results38, go_sem, q0, q1, q2, q3, q4, q5, r0, r1, r2, r3, r4, r5]) rfl ⟨some ⟨g1, 0, none⟩, cap1, rfl, own_base (by omega) HR, HF⟩
  · have hp1 : val = [] := List.length_eq_zero_iff.1 (by omega)
    subst hp1
    have hld := empty_loads.1
    have hst := empty_loads.2
    have hA : A = none ∨ ∃ ad, A = some ad := by cases A <;> simp
    clear hp0 hn HP
    have HM := Lib.hid hmade
    have HB := Lib.hid HB0'
    clear hmade HB0'
    rcases hA with rfl | ⟨ad, rfl⟩
    · skip
      go_enter Try.func38, Try.ntmps38
      go_wp2
      have HF : Below w.heap.size w (((w.alloc (.cells #[.int .i64 ml, .int .i64 ct, .int .i64 vo, .slice (some ⟨w.heap.size + 1 + 1, 0, none⟩) 0 0, .bool gn, .int .i64 tt] 28)).alloc (.cells #[.int .i64 ml, .int .i64 ct, .int .i64 vo, .slice (some ⟨w.heap.size + 1 + 1, 0, none⟩) 0 0, .bool gn, .int .i64 tt] 28)).alloc (.cells #[] 5)) := by (repeat' (first | (with_reducible exact Below.refl _ _) | (with_reducible assumption) | (with_reducible refine Below.trans ?_ (Below.mono (by with_reducible assumption) ?_)) | (with_reducible refine Below.alloc ?_ ?_ _) | (with_reducible refine Below.setCell ?_ ?_ _) | (with_reducible refine below_drewN ?_ _) | (with_reducible refine Below.drew ?_) | go_size))
      have HR : (((w.alloc (.cells #[.int .i64 ml, .int .i64 ct, .int .i64 vo, .slice (some ⟨w.heap.size + 1 + 1, 0, none⟩) 0 0, .bool gn, .int .i64 tt] 28)).alloc (.cells #[.int .i64 ml, .int .i64 ct, .int .i64 vo, .slice (some ⟨w.heap.size + 1 + 1, 0, none⟩) 0 0, .bool gn, .int .i64 tt] 28)).alloc (.cells #[] 5)).ownsRow (w.heap.size + 1 + 1) 5 1 (.slice (some ⟨w.heap.size + 1 + 1, 0, none⟩) 0 0) 0 (bC []) := by
        have hm := World.ownsRow_made (base := w.heap.size + 1 + 1) (e := 5) (size := 1) ((w.alloc (.cells #[.int .i64 ml, .int .i64 ct, .int .i64 vo, .slice (some ⟨w.heap.size + 1 + 1, 0, none⟩) 0 0, .bool gn, .int .i64 tt] 28)).alloc (.cells #[.int .i64 ml, .int .i64 ct, .int .i64 vo, .slice (some ⟨w.heap.size + 1 + 1, 0, none⟩) 0 0, .bool gn, .int .i64 tt] 28)) #[] 0 (by simp) (Nat.zero_le _) rfl
        simp only [World.size_alloc] at hm
        exact hm
      have r0 : (((w.alloc (.cells #[.int .i64 ml, .int .i64 ct, .int .i64 vo, .slice (some ⟨w.heap.size + 1 + 1, 0, none⟩) 0 0, .bool gn, .int .i64 tt] 28)).alloc (.cells #[.int .i64 ml, .int .i64 ct, .int .i64 vo, .slice (some ⟨w.heap.size + 1 + 1, 0, none⟩) 0 0, .bool gn, .int .i64 tt] 28)).alloc (.cells #[] 5)).cell? ⟨w.heap.size + 1, 0, none⟩ = some (.int .i64 ml) := at_two _ _ _ _ _ _
      have r1 : (((w.alloc (.cells #[.int .i64 ml, .int .i64 ct, .int .i64 vo, .slice (some ⟨w.heap.size + 1 + 1, 0, none⟩) 0 0, .bool gn, .int .i64 tt] 28)).alloc (.cells #[.int .i64 ml, .int .i64 ct, .int .i64 vo, .slice (some ⟨w.heap.size + 1 + 1, 0, none⟩) 0 0, .bool gn, .int .i64 tt] 28)).alloc (.cells #[] 5)).cell? ⟨w.heap.size + 1, 1, none⟩ = some (.int .i64 ct) := at_two _ _ _ _ _ _
      have r2 : (((w.alloc (.cells #[.int .i64 ml, .int .i64 ct, .int .i64 vo, .slice (some ⟨w.heap.size + 1 + 1, 0, none⟩) 0 0, .bool gn, .int .i64 tt] 28)).alloc (.cells #[.int .i64 ml, .int .i64 ct, .int .i64 vo, .slice (some ⟨w.heap.size + 1 + 1, 0, none⟩) 0 0, .bool gn, .int .i64 tt] 28)).alloc (.cells #[] 5)).cell? ⟨w.heap.size + 1, 2, none⟩ = some (.int .i64 vo) := at_two _ _ _ _ _ _
      have r3 : (((w.alloc (.cells #[.int .i64 ml, .int .i64 ct, .int .i64 vo, .slice (some ⟨w.heap.size + 1 + 1, 0, none⟩) 0 0, .bool gn, .int .i64 tt] 28)).alloc (.cells #[.int .i64 ml, .int .i64 ct, .int .i64 vo, .slice (some ⟨w.heap.size + 1 + 1, 0, none⟩) 0 0, .bool gn, .int .i64 tt] 28)).alloc (.cells #[] 5)).cell? ⟨w.heap.size + 1, 3, none⟩ = some (.slice (some ⟨w.heap.size + 1 + 1, 0, none⟩) 0 0) := at_two _ _ _ _ _ _
      have r4 : (((w.alloc (.cells #[.int .i64 ml, .int .i64 ct, .int .i64 vo, .slice (some ⟨w.heap.size + 1 + 1, 0, none⟩) 0 0, .bool gn, .int .i64 tt] 28)).alloc (.cells #[.int .i64 ml, .int .i64 ct, .int .i64 vo, .slice (some ⟨w.heap.size + 1 + 1, 0, none⟩) 0 0, .bool gn, .int .i64 tt] 28)).alloc (.cells #[] 5)).cell? ⟨w.heap.size + 1, 4, none⟩ = some (.bool gn) := at_two _ _ _ _ _ _
      have r5 : (((w.alloc (.cells #[.int .i64 ml, .int .i64 ct, .int .i64 vo, .slice (some ⟨w.heap.size + 1 + 1, 0, none⟩) 0 0, .bool gn, .int .i64 tt] 28)).alloc (.cells #[.int .i64 ml, .int .i64 ct, .int .i64 vo, .slice (some ⟨w.heap.size + 1 + 1, 0, none⟩) 0 0, .bool gn, .int .i64 tt] 28)).alloc (.cells #[] 5)).cell? ⟨w.heap.size + 1, 5, none⟩ = some (.int .i64 tt) := at_two _ _ _ _ _ _
      generalize (((w.alloc (.cells #[.int .i64 ml, .int .i64 ct, .int .i64 vo, .slice (some ⟨w.heap.size + 1 + 1, 0, none⟩) 0 0, .bool gn, .int .i64 tt] 28)).alloc (.cells #[.int .i64 ml, .int .i64 ct, .int .i64 vo, .slice (some ⟨w.heap.size + 1 + 1, 0, none⟩) 0 0, .bool gn, .int .i64 tt] 28)).alloc (.cells #[] 5)) = w1 at *
      refine bodyPost_ret (v := verV ml ct vo (some ⟨w.heap.size + 1 + 1, 0, none⟩) 0 0 gn tt) (by simp [results, Try.results38, go_sem, r0, r1, r2, r3, r4, r5]) rfl ⟨some ⟨w.heap.size + 1 + 1, 0, none⟩, 0, rfl, own_base (by omega) HR, HF⟩
    · skip
      go_enter Try.func38, Try.ntmps38
      go_wp2
      have HF : Below w.heap.size w (((w.alloc (.cells #[.int .i64 ml, .int .i64 ct, .int .i64 vo, .slice (some ⟨w.heap.size + 1 + 1, 0, none⟩) 0 0, .bool gn, .int .i64 tt] 28)).alloc (.cells #[.int .i64 ml, .int .i64 ct, .int .i64 vo, .slice (some ⟨w.heap.size + 1 + 1, 0, none⟩) 0 0, .bool gn, .int .i64 tt] 28)).alloc (.cells #[] 5)) := by (repeat' (first | (with_reducible exact Below.refl _ _) | (with_reducible assumption) | (with_reducible refine Below.trans ?_ (Below.mono (by with_reducible assumption) ?_)) | (with_reducible refine Below.alloc ?_ ?_ _) | (with_reducible refine Below.setCell ?_ ?_ _) | (with_reducible refine below_drewN ?_ _) | (with_reducible refine Below.drew ?_) | go_size))
      have HR : (((w.alloc (.cells #[.int .i64 ml, .int .i64 ct, .int .i64 vo, .slice (some ⟨w.heap.size + 1 + 1, 0, none⟩) 0 0, .bool gn, .int .i64 tt] 28)).alloc (.cells #[.int .i64 ml, .int .i64 ct, .int .i64 vo, .slice (some ⟨w.heap.size + 1 + 1, 0, none⟩) 0 0, .bool gn, .int .i64 tt] 28)).alloc (.cells #[] 5)).ownsRow (w.heap.size + 1 + 1) 5 1 (.slice (some ⟨w.heap.size + 1 + 1, 0, none⟩) 0 0) 0 (bC []) := by
        have hm := World.ownsRow_made (base := w.heap.size + 1 + 1) (e := 5) (size := 1) ((w.alloc (.cells #[.int .i64 ml, .int .i64 ct, .int .i64 vo, .slice (some ⟨w.heap.size + 1 + 1, 0, none⟩) 0 0, .bool gn, .int .i64 tt] 28)).alloc (.cells #[.int .i64 ml, .int .i64 ct, .int .i64 vo, .slice (some ⟨w.heap.size + 1 + 1, 0, none⟩) 0 0, .bool gn, .int .i64 tt] 28)) #[] 0 (by simp) (Nat.zero_le _) rfl
        simp only [World.size_alloc] at hm
        exact hm
      have r0 : (((w.alloc (.cells #[.int .i64 ml, .int .i64 ct, .int .i64 vo, .slice (some ⟨w.heap.size + 1 + 1, 0, none⟩) 0 0, .bool gn, .int .i64 tt] 28)).alloc (.cells #[.int .i64 ml, .int .i64 ct, .int .i64 vo, .slice (some ⟨w.heap.size + 1 + 1, 0, none⟩) 0 0, .bool gn, .int .i64 tt] 28)).alloc (.cells #[] 5)).cell? ⟨w.heap.size + 1, 0, none⟩ = some (.int .i64 ml) := at_two _ _ _ _ _ _
      have r1 : (((w.alloc (.cells #[.int .i64 ml, .int .i64 ct, .int .i64 vo, .slice (some ⟨w.heap.size + 1 + 1, 0, none⟩) 0 0, .bool gn, .int .i64 tt] 28)).alloc (.cells #[.int .i64 ml, .int .i64 ct, .int .i64 vo, .slice (some ⟨w.heap.size + 1 + 1, 0, none⟩) 0 0, .bool gn, .int .i64 tt] 28)).alloc (.cells #[] 5)).cell? ⟨w.heap.size + 1, 1, none⟩ = some (.int .i64 ct) := at_two _ _ _ _ _ _
      have r2 : (((w.alloc (.cells #[.int .i64 ml, .int .i64 ct, .int .i64 vo, .slice (some ⟨w.heap.size + 1 + 1, 0, none⟩) 0 0, .bool gn, .int .i64 tt] 28)).alloc (.cells #[.int .i64 ml, .int .i64 ct, .int .i64 vo, .slice (some ⟨w.heap.size + 1 + 1, 0, none⟩) 0 0, .bool gn, .int .i64 tt] 28)).alloc (.cells #[] 5)).cell? ⟨w.heap.size + 1, 2, none⟩ = some (.int .i64 vo) := at_two _ _ _ _ _ _
      have r3 : (((w.alloc (.cells #[.int .i64 ml, .int .i64 ct, .int .i64 vo, .slice (some ⟨w.heap.size + 1 + 1, 0, none⟩) 0 0, .bool gn, .int .i64 tt] 28)).alloc (.cells #[.int .i64 ml, .int .i64 ct, .int .i64 vo, .slice (some ⟨w.heap.size + 1 + 1, 0, none⟩) 0 0, .bool gn, .int .i64 tt] 28)).alloc (.cells #[] 5)).cell? ⟨w.heap.size + 1, 3, none⟩ = some (.slice (some ⟨w.heap.size + 1 + 1, 0, none⟩) 0 0) := at_two _ _ _ _ _ _
      have r4 : (((w.alloc (.cells #[.int .i64 ml, .int .i64 ct, .int .i64 vo, .slice (some ⟨w.heap.size + 1 + 1, 0, none⟩) 0 0, .bool gn, .int .i64 tt] 28)).alloc (.cells #[.int .i64 ml, .int .i64 ct, .int .i64 vo, .slice (some ⟨w.heap.size + 1 + 1, 0, none⟩) 0 0, .bool gn, .int .i64 tt] 28)).alloc (.cells #[] 5)).cell? ⟨w.heap.size + 1, 4, none⟩ = some (.bool gn) := at_two _ _ _ _ _ _
      have r5 : (((w.alloc (.cells #[.int .i64 ml, .int .i64 ct, .int .i64 vo, .slice (some ⟨w.heap.size + 1 + 1, 0, none⟩) 0 0, .bool gn, .int .i64 tt] 28)).alloc (.cells #[.int .i64 ml, .int .i64 ct, .int .i64 vo, .slice (some ⟨w.heap.size + 1 + 1, 0, none⟩) 0 0, .bool gn, .int .i64 tt] 28)).alloc (.cells #[] 5)).cell? ⟨w.heap.size + 1, 5, none⟩ = some (.int .i64 tt) := at_two _ _ _ _ _ _
      generalize (((w.alloc (.cells #[.int .i64 ml, .int .i64 ct, .int .i64 vo, .slice (some ⟨w.heap.size + 1 + 1, 0, none⟩) 0 0, .bool gn, .int .i64 tt] 28)).alloc (.cells #[.int .i64 ml, .int .i64 ct, .int .i64 vo, .slice (some ⟨w.heap.size + 1 + 1, 0, none⟩) 0 0, .bool gn, .int .i64 tt] 28)).alloc (.cells #[] 5)) = w1 at *
      refine bodyPost_ret (v := verV ml ct vo (some ⟨w.heap.size + 1 + 1, 0, none⟩) 0 0 gn tt) (by simp [results, Try.results38, go_sem, r0, r1, r2, r3, r4, r5]) rfl ⟨some ⟨w.heap.size + 1 + 1, 0, none⟩, 0, rfl, own_base (by omega) HR, HF⟩
end Go.Proofs.Ytfjnjababehmmaa
