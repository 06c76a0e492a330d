/- Stage 10: HlcTalk (written by gen/s10t.py). -/
import Derived.Test.YtmbopdabbegbiaaRef10Clk
import Derived.Test.YtmbopdabbegbiaaS10P
import Derived.Test.YtmbopdabbegbiaaArr
import Derived.Test.YtmbopdabbegbiaaLow40
import Derived.BigGuard
import Derived.BigGuardPart
import Derived.BigCall
set_option linter.unusedSimpArgs false
set_option linter.unusedVariables false
namespace Go.Proofs.Ytmbopdabbegbiaa
open Go.ChangeShapes Go.WideShapes Go.ChangeAt Go.RowKit Go.Joins

/-- Three clocks. -/
def Fam (w : World) (bk : Nat → Nat) (M N : Nat → Int) : Prop := ∀ i, i < 3 → Ints3 w (bk i) (M i) (N i) 1099511627776
theorem Fam.below {w w' : World} {bk : Nat → Nat} {M N : Nat → Int} (h : Fam w bk M N) (k : Below w.heap.size w w') : Fam w' bk M N := fun i hi => (h i hi).below k (h i hi).lt
theorem Fam.set_out {w : World} {bk : Nat → Nat} {M N : Nat → Int} (h : Fam w bk M N) {p : Addr} (hp : ∀ i, i < 3 → p.block ≠ bk i) (u : Value) : Fam (w.setCell p u) bk M N := fun i hi => (h i hi).other (hp i hi) u
theorem Fam.put {w w' : World} {bk : Nat → Nat} {M N : Nat → Int} (h : Fam w bk M N) {a : Nat} {x y : Int} (k : Only (bk a) w w') (I : Ints3 w' (bk a) x y 1099511627776) (hne : ∀ i, i < 3 → i ≠ a → bk i ≠ bk a) : Fam w' bk (upd M a x) (upd N a y) := by
  intro i hi
  unfold upd
  by_cases e : i = a
  · subst e
    rw [if_pos rfl, if_pos rfl]
    exact I
  · rw [if_neg e, if_neg e]
    exact (h i hi).only k (hne i hi e)
/-- The array of the clocks' pointers. -/
def Ptrs (w : World) (C : Nat) (bk : Nat → Nat) : Prop := ∀ i, i < 3 → w.cell? ⟨C, i, none⟩ = some (.pointer (some ⟨bk i, 0, none⟩))
theorem talk_send {m c t : Int} (hm : 0 ≤ m ∧ m ≤ 65535) (hc : 0 ≤ c ∧ c ≤ 1000) (ht : 0 ≤ t ∧ t ≤ 65535) : sdE m c 1099511627776 t = 0 ∧ isStampB m c = true ∧ isStampB (sdM m c 1099511627776 t) (sdC m c 1099511627776 t) = true ∧ 0 < cmp2 (sdM m c 1099511627776 t) (sdC m c 1099511627776 t) m c ∧ 0 ≤ sdM m c 1099511627776 t ∧ sdM m c 1099511627776 t ≤ 65535 ∧ 0 ≤ sdC m c 1099511627776 t ∧ sdC m c 1099511627776 t ≤ c + 1 := by
  have hn : isMilliB t = true := by simp [isMilliB]; omega
  have g0 : ¬ isMilliB t = false := by rw [hn]; decide
  have e1 : sdE m c 1099511627776 t = 0 := by
    unfold sdE
    rw [if_neg g0]
    by_cases h : t ≤ m
    · rw [if_pos h, if_neg (by omega), if_neg (by omega)]
    · rw [if_neg h, if_neg (by omega)]
  have e2 : isStampB m c = true := by simp [isStampB, isMilliB]; omega
  refine ⟨e1, e2, ?_⟩
  by_cases h : t ≤ m
  · have a : sdM m c 1099511627776 t = m := by unfold sdM; rw [if_pos h]
    have b : sdC m c 1099511627776 t = c + 1 := by unfold sdC; rw [if_pos h]
    rw [a, b, cmp2_pos]
    refine ⟨by simp [isStampB, isMilliB]; omega, by omega, by omega, by omega, by omega, by omega⟩
  · have a : sdM m c 1099511627776 t = t := by unfold sdM; rw [if_neg h]
    have b : sdC m c 1099511627776 t = 0 := by unfold sdC; rw [if_neg h]
    rw [a, b, cmp2_pos]
    refine ⟨by simp [isStampB, isMilliB]; omega, by omega, by omega, by omega, by omega, by omega⟩
theorem mx_or (m c p q : Int) : (mx1 m c p q = m ∧ mx2 m c p q = c) ∨ (mx1 m c p q = p ∧ mx2 m c p q = q) := by
  unfold mx1 mx2
  split
  · exact .inr ⟨rfl, rfl⟩
  · exact .inl ⟨rfl, rfl⟩
theorem talk_bd {M N : Nat → Int} {a b : Nat} {sm sn : Int} {k : Nat} (h : ∀ j, j < 3 → 0 ≤ M j ∧ M j ≤ 65535 ∧ 0 ≤ N j ∧ N j ≤ 2 * (k : Int)) (ha : a < 3) (hb : b < 3) (hs : 0 ≤ sm ∧ sm ≤ 65535 ∧ 0 ≤ sn ∧ sn ≤ 2 * (k : Int) + 1) :
    ∀ j, j < 3 → 0 ≤ upd (upd M a sm) b (mx1 (upd M a sm b) (upd N a sn b) sm sn) j ∧ upd (upd M a sm) b (mx1 (upd M a sm b) (upd N a sn b) sm sn) j ≤ 65535 ∧ 0 ≤ upd (upd N a sn) b (mx2 (upd M a sm b) (upd N a sn b) sm sn) j ∧ upd (upd N a sn) b (mx2 (upd M a sm b) (upd N a sn b) sm sn) j ≤ 2 * ((k + 1 : Nat) : Int) := by
  have g : ∀ j, j < 3 → 0 ≤ upd M a sm j ∧ upd M a sm j ≤ 65535 ∧ 0 ≤ upd N a sn j ∧ upd N a sn j ≤ 2 * (k : Int) + 1 := by
    intro j hj
    have := h j hj
    unfold upd
    split <;> omega
  generalize upd M a sm = M' at *
  generalize upd N a sn = N' at *
  intro j hj
  have g1 := g j hj
  have g2 := g b hb
  rcases mx_or (M' b) (N' b) sm sn with ⟨e1, e2⟩ | ⟨e1, e2⟩ <;> rw [e1, e2] <;> unfold upd <;> split <;> omega
theorem talk_max2 (B : Nat) (m c p q : Int) (w : World) (h0 : w.cell? ⟨B, 0, none⟩ = some (.int .i64 m)) (h1 : w.cell? ⟨B, 1, none⟩ = some (.int .i64 c)) (h2 : w.cell? ⟨B, 2, none⟩ = some (.int .i64 p)) (h3 : w.cell? ⟨B, 3, none⟩ = some (.int .i64 q)) (hB : B < w.heap.size) :
    Calls Try.prog 25 #[.slice (some ⟨B, 0, none⟩) 2 2] w fun e w' => e = .returned (.agg #[.int .i64 (mx1 m c p q), .int .i64 (mx2 m c p q)]) ∧ Below w.heap.size w w' :=
  ref10_max_any (fun j => if j = 0 then m else p) (fun j => if j = 0 then c else q) (some ⟨B, 0, none⟩) 2 2 w (by omega) (fun _ => ⟨B, 0, rfl, hB, by
    intro j hj
    rcases (show j = 0 ∨ j = 1 from by omega) with rfl | rfl
    · exact ⟨by simpa using h0, by simpa using h1⟩
    · exact ⟨by simpa using h2, by simpa using h3⟩⟩)
theorem talk_out (A : Option Addr) (n c : Nat) (A' : Option Addr) (n' c' : Nat) (w : World) (h : 100 < n ∨ (n ≤ 100 ∧ 100 < n')) (hn : n ≤ maxLen) (hn' : n' ≤ maxLen) :
    Calls Try.prog 12 #[.slice A n c, .slice A' n' c'] w fun e w' => e = .returned (.bool true) ∧ Below w.heap.size w w' := by
  unfold maxLen at hn hn'
  rcases h with h | ⟨h, h2⟩
  · have t1 : decide (100 < (n : Int)) = true := by simp only [decide_eq_true_eq]; omega
    go_enter Try.func12, Try.ntmps12
    go_wp2
    go_ret
    exact ⟨rfl, Below.refl _ _⟩
  · have t1 : decide (100 < (n : Int)) = false := by simp only [decide_eq_false_iff_not]; omega
    have t2 : decide (100 < (n' : Int)) = true := by simp only [decide_eq_true_eq]; omega
    go_enter Try.func12, Try.ntmps12
    go_wp2
    go_ret
    exact ⟨rfl, Below.refl _ _⟩
def bk3 (b0 b1 b2 : Nat) : Nat → Nat := fun i => if i = 0 then b0 else if i = 1 then b1 else b2
set_option maxRecDepth 100000 in
set_option maxHeartbeats 16000000 in
theorem talk_in (A : Option Addr) (n c : Nat) (A' : Option Addr) (n' c' : Nat) (z z' : Nat → Int) (w : World) (hz : IntsAt w A n z) (hz' : IntsAt w A' n' z') (hn : n ≤ 100) (hn' : n' ≤ 100) :
    Calls Try.prog 12 #[.slice A n c, .slice A' n' c'] w fun e w' => e = .returned (.bool true) ∧ Below w.heap.size w w' := by
  have t1 : decide (100 < (n : Int)) = false := by simp only [decide_eq_false_iff_not]; omega
  have t2 : decide (100 < (n' : Int)) = false := by simp only [decide_eq_false_iff_not]; omega
  have HZ := Lib.hid hz
  have HZ' := Lib.hid hz'
  clear hz hz'
  go_enter Try.func12, Try.ntmps12
  go_wp2_with fail
  refine wp_loop_rounds 4 ?_
  rw [rounds_succ]
  have HB0 : Below w.heap.size w (w.alloc (.cells #[.pointer none, .pointer none, .pointer none] 67)) := by (repeat' (first | (with_reducible exact Below.refl _ _) | (with_reducible assumption) | (with_reducible refine Below.trans ?_ (Below.mono (by with_reducible assumption) ?_)) | (with_reducible refine Below.alloc ?_ ?_ _) | (with_reducible refine Below.setCell ?_ ?_ _) | (with_reducible refine below_drewN ?_ _) | (with_reducible refine Below.drew ?_) | go_size))
  have y0 : (w.alloc (.cells #[.pointer none, .pointer none, .pointer none] 67)).cell? ⟨w.heap.size, 0, none⟩ = some (.pointer none) := by simp
  have y1 : (w.alloc (.cells #[.pointer none, .pointer none, .pointer none] 67)).cell? ⟨w.heap.size, 1, none⟩ = some (.pointer none) := by simp
  have y2 : (w.alloc (.cells #[.pointer none, .pointer none, .pointer none] 67)).cell? ⟨w.heap.size, 2, none⟩ = some (.pointer none) := by simp
  have yf : ∀ o, (w.alloc (.cells #[.pointer none, .pointer none, .pointer none] 67)).frozen? ⟨w.heap.size, o, none⟩ = false := fun o => by simp
  have yz : (w.alloc (.cells #[.pointer none, .pointer none, .pointer none] 67)).heap.size = w.heap.size + 1 := World.size_alloc _ _
  generalize (w.alloc (.cells #[.pointer none, .pointer none, .pointer none] 67)) = v0 at *
  have HB := HB0
  have hC : w.heap.size < v0.heap.size := by omega
  clear HB0 yz
  have hcv0 := hC
  go_wp2_with fail
  refine (hlc_new_ok 0 _ (by decide)).mono ?_; rintro e w' ⟨rfl, rfl⟩
  have K0 := Ints3.new v0 0 0 0 73
  go_wp2_with fail
  refine (hlc_raise_ok v0.heap.size 0 0 0 1099511627776 _ K0 (by decide) (by decide)).mono ?_; rintro e u0 ⟨rfl, ho, L⟩
  have zu : v0.heap.size < u0.heap.size := L.lt
  have y0 := (ho.cell w.heap.size 0 (by simp; omega) (by omega)).trans ((World.cell?_alloc_past (.cells #[.int .i64 0, .int .i64 0, .int .i64 0] 73) w.heap.size 0 hC).trans y0)
  have y1 := (ho.cell w.heap.size 1 (by simp; omega) (by omega)).trans ((World.cell?_alloc_past (.cells #[.int .i64 0, .int .i64 0, .int .i64 0] 73) w.heap.size 1 hC).trans y1)
  have y2 := (ho.cell w.heap.size 2 (by simp; omega) (by omega)).trans ((World.cell?_alloc_past (.cells #[.int .i64 0, .int .i64 0, .int .i64 0] 73) w.heap.size 2 hC).trans y2)
  have yf : ∀ o, u0.frozen? ⟨w.heap.size, o, none⟩ = false := fun o => (ho.frozen w.heap.size o (by simp; omega) (by omega)).trans (((Below.alloc (Below.refl v0.heap.size v0) (Nat.le_refl _) (.cells #[.int .i64 0, .int .i64 0, .int .i64 0] 73)).frozen (p := ⟨w.heap.size, o, none⟩) hC).trans (yf o))
  have HBu : Below w.heap.size w u0 := (HB.alloc HB.size (.cells #[.int .i64 0, .int .i64 0, .int .i64 0] 73)).trans (ho.below HB.size (Nat.le_trans HB.size (by simp)))
  have hyf := yf 0
  go_wp2
  have y0' := World.cell?_setCell_same u0 ⟨w.heap.size, 0, none⟩ (.pointer (some ⟨v0.heap.size, 0, none⟩)) y0
  have y1' := (World.cell?_setCell_other u0 ⟨w.heap.size, 0, none⟩ ⟨w.heap.size, 1, none⟩ (.pointer (some ⟨v0.heap.size, 0, none⟩)) (by simp)).trans y1
  have y2' := (World.cell?_setCell_other u0 ⟨w.heap.size, 0, none⟩ ⟨w.heap.size, 2, none⟩ (.pointer (some ⟨v0.heap.size, 0, none⟩)) (by simp)).trans y2
  have yf' : ∀ o, (u0.setCell ⟨w.heap.size, 0, none⟩ (.pointer (some ⟨v0.heap.size, 0, none⟩))).frozen? ⟨w.heap.size, o, none⟩ = false := fun o => by simpa using yf o
  have N0 : Ints3 (u0.setCell ⟨w.heap.size, 0, none⟩ (.pointer (some ⟨v0.heap.size, 0, none⟩))) v0.heap.size 0 0 1099511627776 := L.other (by simp; omega) _
  have HBv : Below w.heap.size w (u0.setCell ⟨w.heap.size, 0, none⟩ (.pointer (some ⟨v0.heap.size, 0, none⟩))) := HBu.setCell (Nat.le_refl _) _
  have zv : v0.heap.size < (u0.setCell ⟨w.heap.size, 0, none⟩ (.pointer (some ⟨v0.heap.size, 0, none⟩))).heap.size := by simpa [World.setCell] using zu
  have hC' : w.heap.size < (u0.setCell ⟨w.heap.size, 0, none⟩ (.pointer (some ⟨v0.heap.size, 0, none⟩))).heap.size := by omega
  clear ho L zu y0 y1 y2 yf hyf HBu HB hC K0 
  generalize (u0.setCell ⟨w.heap.size, 0, none⟩ (.pointer (some ⟨v0.heap.size, 0, none⟩))) = v1 at *
  have y0 := y0'
  have y1 := y1'
  have y2 := y2'
  have yf := yf'
  have HB := HBv
  have hC := hC'
  have zz0 := zv
  have M0 := N0
  clear y0' y1' y2' yf' HBv hC' zv N0
  rw [rounds_succ]
  have hcv1 := hC
  go_wp2_with fail
  refine (hlc_new_ok 0 _ (by decide)).mono ?_; rintro e w' ⟨rfl, rfl⟩
  have K1 := Ints3.new v1 0 0 0 73
  go_wp2_with fail
  refine (hlc_raise_ok v1.heap.size 0 0 0 1099511627776 _ K1 (by decide) (by decide)).mono ?_; rintro e u1 ⟨rfl, ho, L⟩
  have zu : v1.heap.size < u1.heap.size := L.lt
  have y0 := (ho.cell w.heap.size 0 (by simp; omega) (by omega)).trans ((World.cell?_alloc_past (.cells #[.int .i64 0, .int .i64 0, .int .i64 0] 73) w.heap.size 0 hC).trans y0)
  have y1 := (ho.cell w.heap.size 1 (by simp; omega) (by omega)).trans ((World.cell?_alloc_past (.cells #[.int .i64 0, .int .i64 0, .int .i64 0] 73) w.heap.size 1 hC).trans y1)
  have y2 := (ho.cell w.heap.size 2 (by simp; omega) (by omega)).trans ((World.cell?_alloc_past (.cells #[.int .i64 0, .int .i64 0, .int .i64 0] 73) w.heap.size 2 hC).trans y2)
  have yf : ∀ o, u1.frozen? ⟨w.heap.size, o, none⟩ = false := fun o => (ho.frozen w.heap.size o (by simp; omega) (by omega)).trans (((Below.alloc (Below.refl v1.heap.size v1) (Nat.le_refl _) (.cells #[.int .i64 0, .int .i64 0, .int .i64 0] 73)).frozen (p := ⟨w.heap.size, o, none⟩) hC).trans (yf o))
  have M0 := (M0.alloc (.cells #[.int .i64 0, .int .i64 0, .int .i64 0] 73)).only ho (by omega)
  have HBu : Below w.heap.size w u1 := (HB.alloc HB.size (.cells #[.int .i64 0, .int .i64 0, .int .i64 0] 73)).trans (ho.below HB.size (Nat.le_trans HB.size (by simp)))
  have hyf := yf 1
  go_wp2
  have y0' := (World.cell?_setCell_other u1 ⟨w.heap.size, 1, none⟩ ⟨w.heap.size, 0, none⟩ (.pointer (some ⟨v1.heap.size, 0, none⟩)) (by simp)).trans y0
  have y1' := World.cell?_setCell_same u1 ⟨w.heap.size, 1, none⟩ (.pointer (some ⟨v1.heap.size, 0, none⟩)) y1
  have y2' := (World.cell?_setCell_other u1 ⟨w.heap.size, 1, none⟩ ⟨w.heap.size, 2, none⟩ (.pointer (some ⟨v1.heap.size, 0, none⟩)) (by simp)).trans y2
  have yf' : ∀ o, (u1.setCell ⟨w.heap.size, 1, none⟩ (.pointer (some ⟨v1.heap.size, 0, none⟩))).frozen? ⟨w.heap.size, o, none⟩ = false := fun o => by simpa using yf o
  have N1 : Ints3 (u1.setCell ⟨w.heap.size, 1, none⟩ (.pointer (some ⟨v1.heap.size, 0, none⟩))) v1.heap.size 0 0 1099511627776 := L.other (by simp; omega) _
  have N0 : Ints3 (u1.setCell ⟨w.heap.size, 1, none⟩ (.pointer (some ⟨v1.heap.size, 0, none⟩))) v0.heap.size 0 0 1099511627776 := M0.other (by simp; omega) _
  have HBv : Below w.heap.size w (u1.setCell ⟨w.heap.size, 1, none⟩ (.pointer (some ⟨v1.heap.size, 0, none⟩))) := HBu.setCell (Nat.le_refl _) _
  have zv : v1.heap.size < (u1.setCell ⟨w.heap.size, 1, none⟩ (.pointer (some ⟨v1.heap.size, 0, none⟩))).heap.size := by simpa [World.setCell] using zu
  have hC' : w.heap.size < (u1.setCell ⟨w.heap.size, 1, none⟩ (.pointer (some ⟨v1.heap.size, 0, none⟩))).heap.size := by omega
  clear ho L zu y0 y1 y2 yf hyf HBu HB hC K1 M0
  generalize (u1.setCell ⟨w.heap.size, 1, none⟩ (.pointer (some ⟨v1.heap.size, 0, none⟩))) = v2 at *
  have y0 := y0'
  have y1 := y1'
  have y2 := y2'
  have yf := yf'
  have HB := HBv
  have hC := hC'
  have zz1 := zv
  have M0 := N0
  have M1 := N1
  clear y0' y1' y2' yf' HBv hC' zv N0 N1
  rw [rounds_succ]
  have hcv2 := hC
  go_wp2_with fail
  refine (hlc_new_ok 0 _ (by decide)).mono ?_; rintro e w' ⟨rfl, rfl⟩
  have K2 := Ints3.new v2 0 0 0 73
  go_wp2_with fail
  refine (hlc_raise_ok v2.heap.size 0 0 0 1099511627776 _ K2 (by decide) (by decide)).mono ?_; rintro e u2 ⟨rfl, ho, L⟩
  have zu : v2.heap.size < u2.heap.size := L.lt
  have y0 := (ho.cell w.heap.size 0 (by simp; omega) (by omega)).trans ((World.cell?_alloc_past (.cells #[.int .i64 0, .int .i64 0, .int .i64 0] 73) w.heap.size 0 hC).trans y0)
  have y1 := (ho.cell w.heap.size 1 (by simp; omega) (by omega)).trans ((World.cell?_alloc_past (.cells #[.int .i64 0, .int .i64 0, .int .i64 0] 73) w.heap.size 1 hC).trans y1)
  have y2 := (ho.cell w.heap.size 2 (by simp; omega) (by omega)).trans ((World.cell?_alloc_past (.cells #[.int .i64 0, .int .i64 0, .int .i64 0] 73) w.heap.size 2 hC).trans y2)
  have yf : ∀ o, u2.frozen? ⟨w.heap.size, o, none⟩ = false := fun o => (ho.frozen w.heap.size o (by simp; omega) (by omega)).trans (((Below.alloc (Below.refl v2.heap.size v2) (Nat.le_refl _) (.cells #[.int .i64 0, .int .i64 0, .int .i64 0] 73)).frozen (p := ⟨w.heap.size, o, none⟩) hC).trans (yf o))
  have M0 := (M0.alloc (.cells #[.int .i64 0, .int .i64 0, .int .i64 0] 73)).only ho (by omega)
  have M1 := (M1.alloc (.cells #[.int .i64 0, .int .i64 0, .int .i64 0] 73)).only ho (by omega)
  have HBu : Below w.heap.size w u2 := (HB.alloc HB.size (.cells #[.int .i64 0, .int .i64 0, .int .i64 0] 73)).trans (ho.below HB.size (Nat.le_trans HB.size (by simp)))
  have hyf := yf 2
  go_wp2
  have y0' := (World.cell?_setCell_other u2 ⟨w.heap.size, 2, none⟩ ⟨w.heap.size, 0, none⟩ (.pointer (some ⟨v2.heap.size, 0, none⟩)) (by simp)).trans y0
  have y1' := (World.cell?_setCell_other u2 ⟨w.heap.size, 2, none⟩ ⟨w.heap.size, 1, none⟩ (.pointer (some ⟨v2.heap.size, 0, none⟩)) (by simp)).trans y1
  have y2' := World.cell?_setCell_same u2 ⟨w.heap.size, 2, none⟩ (.pointer (some ⟨v2.heap.size, 0, none⟩)) y2
  have yf' : ∀ o, (u2.setCell ⟨w.heap.size, 2, none⟩ (.pointer (some ⟨v2.heap.size, 0, none⟩))).frozen? ⟨w.heap.size, o, none⟩ = false := fun o => by simpa using yf o
  have N2 : Ints3 (u2.setCell ⟨w.heap.size, 2, none⟩ (.pointer (some ⟨v2.heap.size, 0, none⟩))) v2.heap.size 0 0 1099511627776 := L.other (by simp; omega) _
  have N0 : Ints3 (u2.setCell ⟨w.heap.size, 2, none⟩ (.pointer (some ⟨v2.heap.size, 0, none⟩))) v0.heap.size 0 0 1099511627776 := M0.other (by simp; omega) _
  have N1 : Ints3 (u2.setCell ⟨w.heap.size, 2, none⟩ (.pointer (some ⟨v2.heap.size, 0, none⟩))) v1.heap.size 0 0 1099511627776 := M1.other (by simp; omega) _
  have HBv : Below w.heap.size w (u2.setCell ⟨w.heap.size, 2, none⟩ (.pointer (some ⟨v2.heap.size, 0, none⟩))) := HBu.setCell (Nat.le_refl _) _
  have zv : v2.heap.size < (u2.setCell ⟨w.heap.size, 2, none⟩ (.pointer (some ⟨v2.heap.size, 0, none⟩))).heap.size := by simpa [World.setCell] using zu
  have hC' : w.heap.size < (u2.setCell ⟨w.heap.size, 2, none⟩ (.pointer (some ⟨v2.heap.size, 0, none⟩))).heap.size := by omega
  clear ho L zu y0 y1 y2 yf hyf HBu HB hC K2 M0 M1
  generalize (u2.setCell ⟨w.heap.size, 2, none⟩ (.pointer (some ⟨v2.heap.size, 0, none⟩))) = v3 at *
  have y0 := y0'
  have y1 := y1'
  have y2 := y2'
  have yf := yf'
  have HB := HBv
  have hC := hC'
  have zz2 := zv
  have M0 := N0
  have M1 := N1
  have M2 := N2
  clear y0' y1' y2' yf' HBv hC' zv N0 N1 N2
  rw [rounds_succ]
  have PT : Ptrs v3 w.heap.size (bk3 v0.heap.size v1.heap.size v2.heap.size) := by
    intro i hi
    rcases (show i = 0 ∨ i = 1 ∨ i = 2 from by omega) with rfl | rfl | rfl
    · exact y0
    · exact y1
    · exact y2
  have FM : Fam v3 (bk3 v0.heap.size v1.heap.size v2.heap.size) (fun _ => 0) (fun _ => 0) := by
    intro i hi
    rcases (show i = 0 ∨ i = 1 ∨ i = 2 from by omega) with rfl | rfl | rfl
    · exact M0
    · exact M1
    · exact M2
  have hbk : ∀ i, i < 3 → w.heap.size < bk3 v0.heap.size v1.heap.size v2.heap.size i ∧ bk3 v0.heap.size v1.heap.size v2.heap.size i < v3.heap.size := by
    intro i hi
    rcases (show i = 0 ∨ i = 1 ∨ i = 2 from by omega) with rfl | rfl | rfl
    · show w.heap.size < v0.heap.size ∧ v0.heap.size < v3.heap.size; omega
    · show w.heap.size < v1.heap.size ∧ v1.heap.size < v3.heap.size; omega
    · show w.heap.size < v2.heap.size ∧ v2.heap.size < v3.heap.size; omega
  have hne : ∀ a, a < 3 → ∀ i, i < 3 → i ≠ a → bk3 v0.heap.size v1.heap.size v2.heap.size i ≠ bk3 v0.heap.size v1.heap.size v2.heap.size a := by
    intro a ha i hi hia
    rcases (show i = 0 ∨ i = 1 ∨ i = 2 from by omega) with rfl | rfl | rfl <;> rcases (show a = 0 ∨ a = 1 ∨ a = 2 from by omega) with rfl | rfl | rfl <;> simp [bk3] at * <;> omega
  generalize bk3 v0.heap.size v1.heap.size v2.heap.size = bk at *
  have hlast : ArrAt (v3.alloc (.cells #[.int .i64 0, .int .i64 0, .int .i64 0, .int .i64 0, .int .i64 0, .int .i64 0] 68)) v3.heap.size 3 (fun _ => 0) (fun _ => 0) := by
    refine ⟨fun j hj => ?_, fun j hj => ?_, fun o => by simp, by simp⟩
    · rcases (show j = 0 ∨ j = 1 ∨ j = 2 from by omega) with rfl | rfl | rfl <;> simp
    · rcases (show j = 0 ∨ j = 1 ∨ j = 2 from by omega) with rfl | rfl | rfl <;> simp
  have hb4 : Below w.heap.size w (v3.alloc (.cells #[.int .i64 0, .int .i64 0, .int .i64 0, .int .i64 0, .int .i64 0, .int .i64 0] 68)) := HB.alloc HB.size _
  have FM4 := FM.below ((Below.refl v3.heap.size v3).alloc (Nat.le_refl _) (.cells #[.int .i64 0, .int .i64 0, .int .i64 0, .int .i64 0, .int .i64 0, .int .i64 0] 68))
  have PT4 : Ptrs (v3.alloc (.cells #[.int .i64 0, .int .i64 0, .int .i64 0, .int .i64 0, .int .i64 0, .int .i64 0] 68)) w.heap.size bk := fun i hi => (World.cell?_alloc_past _ _ _ hC).trans (PT i hi)
  have HS := Lib.hid (And.intro hlast (And.intro hb4 (And.intro FM4 PT4)))
  have HN := Lib.hid hne
  have HBK := Lib.hid hbk
  have HLB : Hid (∀ i, i < 3 → bk i < v3.heap.size) := Lib.hid fun i hi => (hbk i hi).2
  have hCL : w.heap.size < v3.heap.size := hC
  clear y0 y1 y2 yf M0 M1 M2 PT FM hbk hne hlast hb4 FM4 PT4 HB
  go_wp2
  generalize hL : v3.heap.size = L at *
  clear hL
  go_loopw [10] (fun i wr => ∃ (k : Nat) (M N : Nat → Int), k ≤ n ∧ k ≤ n' ∧ i = .int .i64 k ∧ (∀ j, j < 3 → 0 ≤ M j ∧ M j ≤ 65535 ∧ 0 ≤ N j ∧ N j ≤ 2 * k) ∧ ArrAt wr L 3 M N ∧ Below w.heap.size w wr ∧ Fam wr bk M N ∧ Ptrs wr w.heap.size bk) (fun i _ => n - (intOf i).toNat)
  case atStart => exact ⟨0, _, _, Nat.zero_le _, Nat.zero_le _, rfl, fun j _ => by simp, HS.out.1, HS.out.2.1, HS.out.2.2.1, HS.out.2.2.2⟩
  case round =>
    obtain ⟨k, M, N, hk, hk', rfl, hbd, AL, HB, FM, PT⟩ := hrel
    clear HS
    have zr := HB.size
    by_cases hlt : k < n ∧ k < n'
    · obtain ⟨hlt, hlt'⟩ := hlt
      obtain ⟨B, O, rfl, hB, hcells⟩ := HZ.out (by omega)
      obtain ⟨B', O', rfl, hB', hcells'⟩ := HZ'.out (by omega)
      have lk : (k : Int) < (n : Int) := by omega
      have lk' : (k : Int) < (n' : Int) := by omega
      have lk1 : decide ((k : Int) < (n : Int)) = true := by simpa using hlt
      have lk2 : decide ((k : Int) < (n' : Int)) = true := by simpa using hlt'
      have lB : B < wr.heap.size := Nat.lt_of_lt_of_le hB zr
      have lB' : B' < wr.heap.size := Nat.lt_of_lt_of_le hB' zr
      have x0 : wr.cell? ⟨B, O + k, none⟩ = some (.int .i64 (z k)) := (HB.cell (p := ⟨B, O + k, none⟩) hB).trans (hcells k hlt).1
      have x1 : wr.cell? ⟨B', O' + k, none⟩ = some (.int .i64 (z' k)) := (HB.cell (p := ⟨B', O' + k, none⟩) hB').trans (hcells' k hlt').1
      clear hcells hcells'
      generalize z k = tv at *
      generalize z' k = wv at *
      have ht0 := bits_and_le tv 65535 (by omega)
      have hw0 := bits_and_le wv 1023 (by omega)
      have hw1 := bits_and_le (wv / 1024) 1023 (by omega)
      generalize ht : bits .and .i64 tv ((65535 : Nat) : Int) = t at *
      generalize hu : bits .and .i64 wv ((1023 : Nat) : Int) = u at *
      generalize hv : bits .and .i64 (wv / 1024) ((1023 : Nat) : Int) = v at *
      have ht' : bits .and .i64 tv 65535 = t := ht
      have hu' : bits .and .i64 wv 1023 = u := hu
      have hv' : bits .and .i64 (wv / 1024) 1023 = v := hv
      clear ht hu hv
      obtain ⟨a, ha⟩ := Int.eq_ofNat_of_zero_le (show 0 ≤ u % 3 from by omega)
      obtain ⟨b, hb⟩ := Int.eq_ofNat_of_zero_le (show 0 ≤ v % 3 from by omega)
      have ha3 : a < 3 := by omega
      have hb3 : b < 3 := by omega
      have HFP := Lib.hid (And.intro FM (And.intro PT (And.intro AL hbd)))
      clear FM PT AL hbd
      go_wp2_with fail
      go_quiet (fail)
      rw [ha, hb]
      have i0 : (0 : Int) ≤ (a : Int) := by omega
      have i1 : (a : Int) < 3 := by omega
      have i2 : (0 : Int) ≤ (b : Int) := by omega
      have i3 : (b : Int) < 3 := by omega
      clear ha hb hw0 hw1 hu' hv'
      have FM5 : Fam (wr.drewN nq) bk M N := fun i hi => (HFP.out.1 i hi).drewN nq
      have PT5 : Ptrs (wr.drewN nq) w.heap.size bk := HFP.out.2.1
      have AL5 : ArrAt (wr.drewN nq) L 3 M N := ⟨HFP.out.2.2.1.c0, HFP.out.2.2.1.c1, HFP.out.2.2.1.fz, HFP.out.2.2.1.lt⟩
      have hbd := HFP.out.2.2.2
      have HB5 : Below w.heap.size w (wr.drewN nq) := by (repeat' (first | (with_reducible exact Below.refl _ _) | (with_reducible assumption) | (with_reducible refine Below.trans ?_ (Below.mono (by with_reducible assumption) ?_)) | (with_reducible refine Below.alloc ?_ ?_ _) | (with_reducible refine Below.setCell ?_ ?_ _) | (with_reducible refine below_drewN ?_ _) | (with_reducible refine Below.drew ?_) | go_size))
      have y0 : (wr.drewN nq).cell? ⟨B, O + k, none⟩ = some (.int .i64 tv) := x0
      have lB5 : B < (wr.drewN nq).heap.size := lB
      clear x0 x1 lB lB' HB zr HFP
      generalize wr.drewN nq = w5 at *
      have z5 := HB5.size
      have pa := PT5 a ha3
      have ba := hbd a ha3
      have hC5 : w.heap.size < w5.heap.size := by have := (FM5 a ha3).lt; have := (HBK.out a ha3).1; omega
      have nCa : w.heap.size ≠ bk a := by have := (HBK.out a ha3).1; omega
      have nLa : L ≠ bk a := by have := HLB.out a ha3; omega
      obtain ⟨e1, e2, e3, e4, e5, e6, e7, e8⟩ := talk_send (m := M a) (c := N a) (t := t) (by omega) (by omega) (by omega)
      have HS5 := Lib.hid (hlc_send (bk a) (M a) (N a) 1099511627776 t w5 (FM5 a ha3) e2)
      have E1 := Lib.hid e1
      have HF5 := Lib.hid (And.intro FM5 (And.intro PT5 AL5))
      clear e1 e2 FM5 PT5 AL5
      unfold SendPost at HS5
      generalize sdM (M a) (N a) 1099511627776 t = sm at *
      generalize sdC (M a) (N a) 1099511627776 t = sn at *
      go_wp2_with fail
      refine HS5.out.mono ?_; rintro e w6 (⟨h0, _⟩ | ⟨_, rfl, ho6, K6⟩)
      · exact absurd E1.out h0
      have FM6 := HF5.out.1.put ho6 K6 (HN.out a ha3)
      have PT6 : Ptrs w6 w.heap.size bk := fun i hi => (ho6.cell w.heap.size i hC5 nCa).trans (HF5.out.2.1 i hi)
      have AL6 := HF5.out.2.2.only ho6 nLa
      have HB6 : Below w.heap.size w w6 := HB5.trans (ho6.below (by have := (HBK.out a ha3).1; omega) HB5.size)
      have hC6 : w.heap.size < w6.heap.size := Nat.lt_of_lt_of_le hC5 ho6.size
      clear HS5 HF5 E1 ho6 K6 HB5 pa y0 lB5 z5
      have SB : Below w6.heap.size w6 (w6.alloc (.cells #[.int .i64 sm, .int .i64 sn] 32)) := (Below.refl _ _).alloc (Nat.le_refl _) _
      have FM7 := FM6.below SB
      have PT7 : Ptrs (w6.alloc (.cells #[.int .i64 sm, .int .i64 sn] 32)) w.heap.size bk := fun i hi => (SB.cell (p := ⟨w.heap.size, i, none⟩) hC6).trans (PT6 i hi)
      have AL7 := AL6.below SB AL6.lt
      have HB7 := HB6.alloc HB6.size (.cells #[.int .i64 sm, .int .i64 sn] 32)
      have J7 := Ints2.new w6 sm sn 32
      have hsa : ∀ i, i < 3 → w6.heap.size ≠ bk i := fun i hi => by have := (FM6 i hi).lt; omega
      have hsL : w6.heap.size ≠ L := by have := AL6.lt; omega
      have hsC : w6.heap.size ≠ w.heap.size := by omega
      have hC7 : w.heap.size < (w6.alloc (.cells #[.int .i64 sm, .int .i64 sn] 32)).heap.size := by simp; omega
      go_wp2_with fail
      generalize hsb : w6.heap.size = sb at *
      have HSB := Lib.hid hsb
      generalize w6.alloc (.cells #[.int .i64 sm, .int .i64 sn] 32) = w7 at *
      clear FM6 PT6 AL6 HB6 SB hsb hC6
      have q0 := J7.c0
      have q1 := J7.c1
      have q2 := AL7.c0 a ha3
      have q3 := AL7.c1 a ha3
      have lj := J7.lt
      have lL := AL7.lt
      generalize hcm : cmp2 sm sn (M a) (N a) = cm at *
      have HCM := Lib.hid hcm
      have hg : decide (cm ≤ 0) = false := by simp only [decide_eq_false_iff_not]; omega
      clear hcm
      have HF7 := Lib.hid (And.intro FM7 (And.intro PT7 (And.intro AL7 (And.intro HB7 J7))))
      clear FM7 PT7 AL7 HB7 J7
      generalize hma : M a = ma at *
      generalize hna : N a = na at *
      have HMA := Lib.hid hma
      have HNA := Lib.hid hna
      clear hma hna
      refine wp_region_held_drew (S := (fun w' => w'.cell? ⟨sb, 0, none⟩ = some (.int .i64 sm) ∧ w'.cell? ⟨sb, 1, none⟩ = some (.int .i64 sn) ∧ w'.cell? ⟨L, a * 2, none⟩ = some (.int .i64 ma) ∧ w'.cell? ⟨L, a * 2 + 1, none⟩ = some (.int .i64 na))) (by kernel_rfl) ?_ (fun hHeld => ?_)
      · exact ⟨q0, q1, q2, q3⟩
      refine wpAnyH_take (i := 0) (v := ?_) rfl (by kernel_rfl) (by kernel_rfl) (by kernel_rfl) (fun _ _ _ h => h) (Or.inl ⟨by rfl, ?_⟩) (by assumption) ?_
      rotate_left
      · intro w' hSw; (try dsimp only at hSw); go_simp; (try with_reducible rfl)
      (try simp only [Act.put, List.setIfInBounds_toArray, List.set_cons_zero, List.set_cons_succ, List.getElem_toArray, List.getElem_cons_succ, List.getElem_cons_zero])
      refine wpAnyH_take (i := 1) (v := ?_) rfl (by kernel_rfl) (by kernel_rfl) (by kernel_rfl) (fun _ _ _ h => h) (Or.inl ⟨by rfl, ?_⟩) (by assumption) ?_
      rotate_left
      · intro w' hSw; (try dsimp only at hSw); go_simp; (try with_reducible rfl)
      (try simp only [Act.put, List.setIfInBounds_toArray, List.set_cons_zero, List.set_cons_succ, List.getElem_toArray, List.getElem_cons_succ, List.getElem_cons_zero])
      refine wpAnyH_take (i := 2) (v := ?_) rfl (by kernel_rfl) (by kernel_rfl) (by kernel_rfl) (fun _ _ _ h => h) (Or.inl ⟨by rfl, ?_⟩) (by assumption) ?_
      rotate_left
      · intro w' hSw; (try dsimp only at hSw); go_simp; (try with_reducible rfl)
      (try simp only [Act.put, List.setIfInBounds_toArray, List.set_cons_zero, List.set_cons_succ, List.getElem_toArray, List.getElem_cons_succ, List.getElem_cons_zero])
      refine wpAnyH_take (i := 3) (v := ?_) rfl (by kernel_rfl) (by kernel_rfl) (by kernel_rfl) (fun _ _ _ h => h) (Or.inl ⟨by rfl, ?_⟩) (by assumption) ?_
      rotate_left
      · intro w' hSw; (try dsimp only at hSw); go_simp; (try with_reducible rfl)
      (try simp only [Act.put, List.setIfInBounds_toArray, List.set_cons_zero, List.set_cons_succ, List.getElem_toArray, List.getElem_cons_succ, List.getElem_cons_zero])
      refine wpAnyH_take (i := 4) (v := ?_) rfl (by kernel_rfl) (by kernel_rfl) (by kernel_rfl) (fun _ _ _ h => h) (Or.inl ⟨by rfl, ?_⟩) (by assumption) ?_
      rotate_left
      · intro w' hSw; (try dsimp only at hSw); go_simp; (try with_reducible rfl)
      (try simp only [Act.put, List.setIfInBounds_toArray, List.set_cons_zero, List.set_cons_succ, List.getElem_toArray, List.getElem_cons_succ, List.getElem_cons_zero])
      refine wpAnyH_take (i := 5) (v := ?_) rfl (by kernel_rfl) (by kernel_rfl) (by kernel_rfl) (fun _ _ _ h => h) (Or.inl ⟨by rfl, ?_⟩) (by assumption) ?_
      rotate_left
      · intro w' hSw; (try dsimp only at hSw); go_simp; (try with_reducible rfl)
      (try simp only [Act.put, List.setIfInBounds_toArray, List.set_cons_zero, List.set_cons_succ, List.getElem_toArray, List.getElem_cons_succ, List.getElem_cons_zero])
      refine wpAnyH_take (i := 6) (v := ?_) rfl (by kernel_rfl) (by kernel_rfl) (by kernel_rfl) (fun _ _ _ h => h) (Or.inl ⟨by rfl, ?_⟩) (by assumption) ?_
      rotate_left
      · intro w' hSw; (try dsimp only at hSw); go_simp; (try with_reducible rfl)
      (try simp only [Act.put, List.setIfInBounds_toArray, List.set_cons_zero, List.set_cons_succ, List.getElem_toArray, List.getElem_cons_succ, List.getElem_cons_zero])
      refine wpAnyH_ready (rs := [7]) (by kernel_rfl) (by simp) ?_
      refine AllReadyH.cons rfl (fun K hK => ?_) AllReadyH.nil
      go_simp
      (go_at_call 26; refine (ref10_compare _ _ _ _ _).mono ?_; rw [HCM.out]; rintro e w8 ⟨rfl, hb8⟩; have HX8 : Below w7.heap.size w7 w8 := Below.trans (show Below w7.heap.size w7 _ from (by (repeat' (first | (with_reducible exact Below.refl _ _) | (with_reducible assumption) | (with_reducible refine Below.trans ?_ (Below.mono (by with_reducible assumption) ?_)) | (with_reducible refine Below.alloc ?_ ?_ _) | (with_reducible refine Below.setCell ?_ ?_ _) | (with_reducible refine below_drewN ?_ _) | (with_reducible refine Below.drew ?_) | go_size)))) (hb8.mono (Below.size (show Below w7.heap.size w7 _ from (by (repeat' (first | (with_reducible exact Below.refl _ _) | (with_reducible assumption) | (with_reducible refine Below.trans ?_ (Below.mono (by with_reducible assumption) ?_)) | (with_reducible refine Below.alloc ?_ ?_ _) | (with_reducible refine Below.setCell ?_ ?_ _) | (with_reducible refine below_drewN ?_ _) | (with_reducible refine Below.drew ?_) | go_size)))))); have s0 := (HX8.cell (p := ⟨sb, 0, none⟩) lj).trans q0; have s1 := (HX8.cell (p := ⟨sb, 1, none⟩) lj).trans q1; have s2 := (HX8.cell (p := ⟨L, a * 2, none⟩) lL).trans q2; have s3 := (HX8.cell (p := ⟨L, a * 2 + 1, none⟩) lL).trans q3)
      (try dsimp only)
      refine hK.out _ _ ?_ (fun hHeld => ?_)
      · exact ⟨s0, s1, s2, s3⟩
      clear hK K
      (try simp only [Act.put, List.setIfInBounds_toArray, List.set_cons_zero, List.set_cons_succ, List.getElem_toArray, List.getElem_cons_succ, List.getElem_cons_zero])
      refine wpAnyH_take (i := 8) (v := ?_) rfl (by kernel_rfl) (by kernel_rfl) (by kernel_rfl) (fun _ _ _ h => h) (Or.inl ⟨by rfl, ?_⟩) (by assumption) ?_
      rotate_left
      · intro w' hSw; (try dsimp only at hSw); go_simp; (try with_reducible rfl)
      (try simp only [Act.put, List.setIfInBounds_toArray, List.set_cons_zero, List.set_cons_succ, List.getElem_toArray, List.getElem_cons_succ, List.getElem_cons_zero])
      refine wpAnyH_take (i := 9) (v := ?_) rfl (by kernel_rfl) (by kernel_rfl) (by kernel_rfl) (fun _ _ _ h => h) (Or.inl ⟨by rfl, ?_⟩) (by assumption) ?_
      rotate_left
      · intro w' hSw; (try dsimp only at hSw); go_simp; (try with_reducible rfl)
      (try simp only [Act.put, List.setIfInBounds_toArray, List.set_cons_zero, List.set_cons_succ, List.getElem_toArray, List.getElem_cons_succ, List.getElem_cons_zero])
      refine wpAnyH_done (by kernel_rfl) ?_ _
      have FM8 := HF7.out.1.below HX8
      have PT8 : Ptrs w8 w.heap.size bk := fun i hi => (HX8.cell (p := ⟨w.heap.size, i, none⟩) hC7).trans (HF7.out.2.1 i hi)
      have AL8 := HF7.out.2.2.1.below HX8 lL
      have HB8 : Below w.heap.size w w8 := HF7.out.2.2.2.1.trans (HX8.mono (Nat.le_of_lt hC7))
      have J8 := HF7.out.2.2.2.2.below HX8 lj
      have f2 := AL8.fz (a * 2)
      have f3 := AL8.fz (a * 2 + 1)
      have lL8 := AL8.lt
      clear hb8 HX8 q0 q1 q2 q3 HF7
      have FM9 := (FM8.set_out (p := ⟨L, a * 2, none⟩) (fun i hi => by have := HLB.out i hi; simp; omega) (.int .i64 sm)).set_out (p := ⟨L, a * 2 + 1, none⟩) (fun i hi => by have := HLB.out i hi; simp; omega) (.int .i64 sn)
      have AL9 := AL8.set ha3 sm sn
      have PT9 : Ptrs ((w8.setCell ⟨L, a * 2, none⟩ (.int .i64 sm)).setCell ⟨L, a * 2 + 1, none⟩ (.int .i64 sn)) w.heap.size bk := fun i hi => (World.cell?_setCell_other _ _ _ _ (by simp <;> omega)).trans ((World.cell?_setCell_other _ _ _ _ (by simp <;> omega)).trans (PT8 i hi))
      have J9 := (J8.other (p := ⟨L, a * 2, none⟩) (by simp; omega) (.int .i64 sm)).other (p := ⟨L, a * 2 + 1, none⟩) (by simp; omega) (.int .i64 sn)
      have HB9 : Below w.heap.size w ((w8.setCell ⟨L, a * 2, none⟩ (.int .i64 sm)).setCell ⟨L, a * 2 + 1, none⟩ (.int .i64 sn)) := (HB8.setCell (Nat.le_of_lt hCL) _).setCell (Nat.le_of_lt hCL) _
      have HF9 := Lib.hid (And.intro FM9 (And.intro PT9 (And.intro AL9 (And.intro HB9 J9))))
      clear FM8 PT8 AL8 HB8 J8 FM9 PT9 AL9 HB9 J9
      go_wp2_with fail
      generalize (w8.setCell ⟨L, a * 2, none⟩ (.int .i64 sm)).setCell ⟨L, a * 2 + 1, none⟩ (.int .i64 sn) = w9 at *
      have FM9 := HF9.out.1
      have PT9 := HF9.out.2.1
      have AL9 := HF9.out.2.2.1
      have HB9 := HF9.out.2.2.2.1
      have J9 := HF9.out.2.2.2.2
      have q0 := J9.c0
      have q1 := J9.c1
      have q2 := PT9 b hb3
      have lj := J9.lt
      have hC9 : w.heap.size < w9.heap.size := by have := AL9.lt; omega
      have TB := Lib.hid (talk_bd hbd ha3 hb3 (sm := sm) (sn := sn) (by omega))
      have hmi : isMilliB sm = true := by simp [isMilliB]; omega
      generalize upd M a sm = M' at *
      generalize upd N a sn = N' at *
      clear HF9 s0 s1 s2 s3 f2 f3 lL lL8 hg ba HCM HMA HNA e4
      refine wp_region_held_drew (S := (fun w' => w'.cell? ⟨sb, 0, none⟩ = some (.int .i64 sm) ∧ w'.cell? ⟨sb, 1, none⟩ = some (.int .i64 sn) ∧ w'.cell? ⟨w.heap.size, b, none⟩ = some (.pointer (some ⟨bk b, 0, none⟩)))) (by kernel_rfl) ?_ (fun hHeld => ?_)
      · exact ⟨q0, q1, q2⟩
      refine wpAnyH_take (i := 0) (v := ?_) rfl (by kernel_rfl) (by kernel_rfl) (by kernel_rfl) (fun _ _ _ h => h) (Or.inl ⟨by rfl, ?_⟩) (by assumption) ?_
      rotate_left
      · intro w' hSw; (try dsimp only at hSw); go_simp; (try with_reducible rfl)
      (try simp only [Act.put, List.setIfInBounds_toArray, List.set_cons_zero, List.set_cons_succ, List.getElem_toArray, List.getElem_cons_succ, List.getElem_cons_zero])
      refine wpAnyH_take (i := 1) (v := ?_) rfl (by kernel_rfl) (by kernel_rfl) (by kernel_rfl) (fun _ _ _ h => h) (Or.inl ⟨by rfl, ?_⟩) (by assumption) ?_
      rotate_left
      · intro w' hSw; (try dsimp only at hSw); go_simp; (try with_reducible rfl)
      (try simp only [Act.put, List.setIfInBounds_toArray, List.set_cons_zero, List.set_cons_succ, List.getElem_toArray, List.getElem_cons_succ, List.getElem_cons_zero])
      refine wpAnyH_take (i := 2) (v := ?_) rfl (by kernel_rfl) (by kernel_rfl) (by kernel_rfl) (fun _ _ _ h => h) (Or.inl ⟨by rfl, ?_⟩) (by assumption) ?_
      rotate_left
      · intro w' hSw; (try dsimp only at hSw); go_simp; (try with_reducible rfl)
      (try simp only [Act.put, List.setIfInBounds_toArray, List.set_cons_zero, List.set_cons_succ, List.getElem_toArray, List.getElem_cons_succ, List.getElem_cons_zero])
      refine wpAnyH_take (i := 3) (v := ?_) rfl (by kernel_rfl) (by kernel_rfl) (by kernel_rfl) (fun _ _ _ h => h) (Or.inl ⟨by rfl, ?_⟩) (by assumption) ?_
      rotate_left
      · intro w' hSw; (try dsimp only at hSw); go_simp; (try with_reducible rfl)
      (try simp only [Act.put, List.setIfInBounds_toArray, List.set_cons_zero, List.set_cons_succ, List.getElem_toArray, List.getElem_cons_succ, List.getElem_cons_zero])
      refine wpAnyH_take (i := 4) (v := ?_) rfl (by kernel_rfl) (by kernel_rfl) (by kernel_rfl) (fun _ _ _ h => h) (Or.inl ⟨by rfl, ?_⟩) (by assumption) ?_
      rotate_left
      · intro w' hSw; (try dsimp only at hSw); go_simp; (try with_reducible rfl)
      (try simp only [Act.put, List.setIfInBounds_toArray, List.set_cons_zero, List.set_cons_succ, List.getElem_toArray, List.getElem_cons_succ, List.getElem_cons_zero])
      refine wpAnyH_take (i := 5) (v := ?_) rfl (by kernel_rfl) (by kernel_rfl) (by kernel_rfl) (fun _ _ _ h => h) (Or.inl ⟨by rfl, ?_⟩) (by assumption) ?_
      rotate_left
      · intro w' hSw; (try dsimp only at hSw); go_simp; (try with_reducible rfl)
      (try simp only [Act.put, List.setIfInBounds_toArray, List.set_cons_zero, List.set_cons_succ, List.getElem_toArray, List.getElem_cons_succ, List.getElem_cons_zero])
      refine wpAnyH_ready (rs := [6]) (by kernel_rfl) (by simp) ?_
      refine AllReadyH.cons rfl (fun K hK => ?_) AllReadyH.nil
      go_simp
      (try dsimp only)
      refine hK.out _ _ ?_ (fun hHeld => ?_)
      · exact ⟨(World.cell?_alloc_past (.cells #[.int .i64 sm, .int .i64 sn] 32) sb 0 lj).trans q0, (World.cell?_alloc_past (.cells #[.int .i64 sm, .int .i64 sn] 32) sb 1 lj).trans q1, (World.cell?_alloc_past (.cells #[.int .i64 sm, .int .i64 sn] 32) w.heap.size b hC9).trans q2⟩
      clear hK K
      (try simp only [Act.put, List.setIfInBounds_toArray, List.set_cons_zero, List.set_cons_succ, List.getElem_toArray, List.getElem_cons_succ, List.getElem_cons_zero])
      have FM10 : Fam (w9.alloc (.cells #[.int .i64 sm, .int .i64 sn] 32)).drew bk M' N' := fun i hi => ((FM9 i hi).alloc (.cells #[.int .i64 sm, .int .i64 sn] 32)).drew
      have PT10 : Ptrs (w9.alloc (.cells #[.int .i64 sm, .int .i64 sn] 32)).drew w.heap.size bk := fun i hi => (World.cell?_alloc_past (.cells #[.int .i64 sm, .int .i64 sn] 32) w.heap.size i hC9).trans (PT9 i hi)
      have AL10 : ArrAt (w9.alloc (.cells #[.int .i64 sm, .int .i64 sn] 32)).drew L 3 M' N' := (AL9.alloc (.cells #[.int .i64 sm, .int .i64 sn] 32)).drew
      have J10 : Ints2 (w9.alloc (.cells #[.int .i64 sm, .int .i64 sn] 32)).drew sb sm sn := (J9.alloc (.cells #[.int .i64 sm, .int .i64 sn] 32)).drew
      have HB10 : Below w.heap.size w (w9.alloc (.cells #[.int .i64 sm, .int .i64 sn] 32)).drew := (HB9.alloc HB9.size (.cells #[.int .i64 sm, .int .i64 sn] 32)).drew
      have n0 : World.cell? (w9.alloc (.cells #[.int .i64 sm, .int .i64 sn] 32)).drew ⟨w9.heap.size, 0, none⟩ = some (.int .i64 sm) := (Ints2.new w9 sm sn 32).c0
      have n1 : World.cell? (w9.alloc (.cells #[.int .i64 sm, .int .i64 sn] 32)).drew ⟨w9.heap.size, 1, none⟩ = some (.int .i64 sn) := (Ints2.new w9 sm sn 32).c1
      have n2 : w9.heap.size < ((w9.alloc (.cells #[.int .i64 sm, .int .i64 sn] 32)).drew).heap.size := by simp
      have n3 : w9.heap.size ≠ bk b := by have := (FM9 b hb3).lt; omega
      have hC10 : w.heap.size < ((w9.alloc (.cells #[.int .i64 sm, .int .i64 sn] 32)).drew).heap.size := by simp; omega
      have hn9 : L < w9.heap.size := AL9.lt
      generalize hb9 : w9.heap.size = B9 at *
      clear hb9
      generalize (w9.alloc (.cells #[.int .i64 sm, .int .i64 sn] 32)).drew = w10 at *
      refine wpAnyH_ready (rs := [7]) (by kernel_rfl) (by simp) ?_
      refine AllReadyH.cons rfl (fun K hK => ?_) AllReadyH.nil
      go_simp
      (go_at_call 19; refine (hlc_hear1_ok (bk b) B9 (M' b) (N' b) 1099511627776 sm sm sn w10 (FM10 b hb3) hmi e3 (by omega) n0 n1 n2 n3).mono ?_; rintro e w11 ⟨rfl, ho11, K11⟩)
      have J11 := J10.only ho11 (hsa b hb3)
      have PT11 : Ptrs w11 w.heap.size bk := fun i hi => (ho11.cell w.heap.size i hC10 (by have := (HBK.out b hb3).1; omega)).trans (PT10 i hi)
      (try dsimp only)
      refine hK.out _ _ ?_ (fun hHeld => ?_)
      · exact ⟨J11.c0, J11.c1, PT11 b hb3⟩
      clear hK K
      (try simp only [Act.put, List.setIfInBounds_toArray, List.set_cons_zero, List.set_cons_succ, List.getElem_toArray, List.getElem_cons_succ, List.getElem_cons_zero])
      refine wpAnyH_take (i := 8) (v := ?_) rfl (by kernel_rfl) (by kernel_rfl) (by kernel_rfl) (fun _ _ _ h => h) (Or.inl ⟨by rfl, ?_⟩) (by assumption) ?_
      rotate_left
      · intro w' hSw; (try dsimp only at hSw); go_simp; (try with_reducible rfl)
      (try simp only [Act.put, List.setIfInBounds_toArray, List.set_cons_zero, List.set_cons_succ, List.getElem_toArray, List.getElem_cons_succ, List.getElem_cons_zero])
      refine wpAnyH_done (by kernel_rfl) ?_ _
      have FM11 := FM10.put ho11 K11 (HN.out b hb3)
      have AL11 := AL10.only ho11 (by have := HLB.out b hb3; omega)
      have HB11 : Below w.heap.size w w11 := HB10.trans (ho11.below (by have := (HBK.out b hb3).1; omega) HB10.size)
      have hC11 : w.heap.size < w11.heap.size := Nat.lt_of_lt_of_le hC10 ho11.size
      clear FM9 PT9 AL9 HB9 J9 FM10 PT10 AL10 J10 HB10 n0 n1 n2 n3 ho11 K11 q0 q1 q2 lj hC9 hC10 hn9
      have q0 := J11.c0
      have q1 := J11.c1
      have q2 := AL11.c0 b hb3
      have q3 := AL11.c1 b hb3
      have lj := J11.lt
      have lL := AL11.lt
      go_wp2_with fail
      refine wp_region_held_drew (S := (fun w' => w'.cell? ⟨sb, 0, none⟩ = some (.int .i64 sm) ∧ w'.cell? ⟨sb, 1, none⟩ = some (.int .i64 sn))) (by kernel_rfl) ?_ (fun hHeld => ?_)
      · exact ⟨q0, q1⟩
      refine wpAnyH_take (i := 0) (v := ?_) rfl (by kernel_rfl) (by kernel_rfl) (by kernel_rfl) (fun _ _ _ h => h) (Or.inl ⟨by rfl, ?_⟩) (by assumption) ?_
      rotate_left
      · intro w' hSw; (try dsimp only at hSw); go_simp; (try with_reducible rfl)
      (try simp only [Act.put, List.setIfInBounds_toArray, List.set_cons_zero, List.set_cons_succ, List.getElem_toArray, List.getElem_cons_succ, List.getElem_cons_zero])
      refine wpAnyH_take (i := 1) (v := ?_) rfl (by kernel_rfl) (by kernel_rfl) (by kernel_rfl) (fun _ _ _ h => h) (Or.inl ⟨by rfl, ?_⟩) (by assumption) ?_
      rotate_left
      · intro w' hSw; (try dsimp only at hSw); go_simp; (try with_reducible rfl)
      (try simp only [Act.put, List.setIfInBounds_toArray, List.set_cons_zero, List.set_cons_succ, List.getElem_toArray, List.getElem_cons_succ, List.getElem_cons_zero])
      refine wpAnyH_take (i := 2) (v := ?_) rfl (by kernel_rfl) (by kernel_rfl) (by kernel_rfl) (fun _ _ _ h => h) (Or.inl ⟨by rfl, ?_⟩) (by assumption) ?_
      rotate_left
      · intro w' hSw; (try dsimp only at hSw); go_simp; (try with_reducible rfl)
      (try simp only [Act.put, List.setIfInBounds_toArray, List.set_cons_zero, List.set_cons_succ, List.getElem_toArray, List.getElem_cons_succ, List.getElem_cons_zero])
      refine wpAnyH_take (i := 4) (v := ?_) rfl (by kernel_rfl) (by kernel_rfl) (by kernel_rfl) (fun _ _ _ h => h) (Or.inl ⟨by rfl, ?_⟩) (by assumption) ?_
      rotate_left
      · intro w' hSw; (try dsimp only at hSw); go_simp; (try with_reducible rfl)
      (try simp only [Act.put, List.setIfInBounds_toArray, List.set_cons_zero, List.set_cons_succ, List.getElem_toArray, List.getElem_cons_succ, List.getElem_cons_zero])
      refine wpAnyH_ready (rs := [3]) (by kernel_rfl) (by simp) ?_
      refine AllReadyH.cons rfl (fun K hK => ?_) AllReadyH.nil
      go_simp
      (try dsimp only)
      refine hK.out _ _ ?_ (fun hHeld => ?_)
      · exact ⟨q0, q1⟩
      clear hK K
      (try simp only [Act.put, List.setIfInBounds_toArray, List.set_cons_zero, List.set_cons_succ, List.getElem_toArray, List.getElem_cons_succ, List.getElem_cons_zero])
      refine wpAnyH_ready (rs := [5]) (by kernel_rfl) (by simp) ?_
      refine AllReadyH.cons rfl (fun K hK => ?_) AllReadyH.nil
      go_simp
      (try dsimp only)
      refine hK.out _ _ ?_ (fun hHeld => ?_)
      · exact ⟨(World.cell?_alloc_past (.cells #[.int .i64 (M' b), .int .i64 (N' b), .int .i64 sm, .int .i64 sn] 32) sb 0 lj).trans q0, (World.cell?_alloc_past (.cells #[.int .i64 (M' b), .int .i64 (N' b), .int .i64 sm, .int .i64 sn] 32) sb 1 lj).trans q1⟩
      clear hK K
      (try simp only [Act.put, List.setIfInBounds_toArray, List.set_cons_zero, List.set_cons_succ, List.getElem_toArray, List.getElem_cons_succ, List.getElem_cons_zero])
      have SB : Below w11.heap.size w11 (w11.alloc (.cells #[.int .i64 (M' b), .int .i64 (N' b), .int .i64 sm, .int .i64 sn] 32)).drew := ((Below.refl _ _).alloc (Nat.le_refl _) (.cells #[.int .i64 (M' b), .int .i64 (N' b), .int .i64 sm, .int .i64 sn] 32)).drew
      have J12 := J11.below SB lj
      have n0 : World.cell? (w11.alloc (.cells #[.int .i64 (M' b), .int .i64 (N' b), .int .i64 sm, .int .i64 sn] 32)).drew ⟨w11.heap.size, 0, none⟩ = some (.int .i64 (M' b)) := by simp
      have n1 : World.cell? (w11.alloc (.cells #[.int .i64 (M' b), .int .i64 (N' b), .int .i64 sm, .int .i64 sn] 32)).drew ⟨w11.heap.size, 1, none⟩ = some (.int .i64 (N' b)) := by simp
      have n2 : World.cell? (w11.alloc (.cells #[.int .i64 (M' b), .int .i64 (N' b), .int .i64 sm, .int .i64 sn] 32)).drew ⟨w11.heap.size, 2, none⟩ = some (.int .i64 sm) := by simp
      have n3 : World.cell? (w11.alloc (.cells #[.int .i64 (M' b), .int .i64 (N' b), .int .i64 sm, .int .i64 sn] 32)).drew ⟨w11.heap.size, 3, none⟩ = some (.int .i64 sn) := by simp
      have n4 : w11.heap.size < ((w11.alloc (.cells #[.int .i64 (M' b), .int .i64 (N' b), .int .i64 sm, .int .i64 sn] 32)).drew).heap.size := by simp
      generalize (w11.alloc (.cells #[.int .i64 (M' b), .int .i64 (N' b), .int .i64 sm, .int .i64 sn] 32)).drew = w12 at *
      refine wpAnyH_ready (rs := [6]) (by kernel_rfl) (by simp) ?_
      refine AllReadyH.cons rfl (fun K hK => ?_) AllReadyH.nil
      go_simp
      (go_at_call 25; refine (talk_max2 w11.heap.size (M' b) (N' b) sm sn w12 n0 n1 n2 n3 n4).mono ?_; rintro e w13 ⟨rfl, hb13⟩)
      have SC := SB.trans (hb13.mono SB.size)
      have J13 := J11.below SC lj
      (try dsimp only)
      refine hK.out _ _ ?_ (fun hHeld => ?_)
      · exact ⟨J13.c0, J13.c1⟩
      clear hK K
      (try simp only [Act.put, List.setIfInBounds_toArray, List.set_cons_zero, List.set_cons_succ, List.getElem_toArray, List.getElem_cons_succ, List.getElem_cons_zero])
      have FM13 := FM11.below SC
      have PT13 : Ptrs w13 w.heap.size bk := fun i hi => (SC.cell (p := ⟨w.heap.size, i, none⟩) hC11).trans (PT11 i hi)
      have AL13 := AL11.below SC lL
      have HB13 := HB11.trans (SC.mono (Nat.le_of_lt hC11))
      have q2 := AL13.c0 b hb3
      have q3 := AL13.c1 b hb3
      have f2 := AL13.fz (b * 2)
      have f3 := AL13.fz (b * 2 + 1)
      have lL := AL13.lt
      have q0 := J13.c0
      have q1 := J13.c1
      clear n0 n1 n2 n3 n4 hb13 SB SC J12 FM11 PT11 AL11 HB11
      refine wpAnyH_take (i := 7) (v := ?_) rfl (by kernel_rfl) (by kernel_rfl) (by kernel_rfl) (fun _ _ _ h => h) (Or.inl ⟨by rfl, ?_⟩) (by assumption) ?_
      rotate_left
      · intro w' hSw; (try dsimp only at hSw); go_simp; (try with_reducible rfl)
      (try simp only [Act.put, List.setIfInBounds_toArray, List.set_cons_zero, List.set_cons_succ, List.getElem_toArray, List.getElem_cons_succ, List.getElem_cons_zero])
      refine wpAnyH_ready (rs := [8]) (by kernel_rfl) (by simp) ?_
      refine AllReadyH.cons rfl (fun K hK => ?_) AllReadyH.nil
      go_simp
      (try dsimp only)
      refine hK.out _ _ ?_ (fun hHeld => ?_)
      · exact ⟨(World.cell?_setCell_other _ _ _ _ (by simp <;> omega)).trans ((World.cell?_setCell_other _ _ _ _ (by simp <;> omega)).trans q0), (World.cell?_setCell_other _ _ _ _ (by simp <;> omega)).trans ((World.cell?_setCell_other _ _ _ _ (by simp <;> omega)).trans q1)⟩
      clear hK K
      (try simp only [Act.put, List.setIfInBounds_toArray, List.set_cons_zero, List.set_cons_succ, List.getElem_toArray, List.getElem_cons_succ, List.getElem_cons_zero])
      refine wpAnyH_done (by kernel_rfl) ?_ _
      have FM14 := (FM13.set_out (p := ⟨L, b * 2, none⟩) (fun i hi => by have := HLB.out i hi; simp; omega) (.int .i64 (mx1 (M' b) (N' b) sm sn))).set_out (p := ⟨L, b * 2 + 1, none⟩) (fun i hi => by have := HLB.out i hi; simp; omega) (.int .i64 (mx2 (M' b) (N' b) sm sn))
      have AL14 := AL13.set hb3 (mx1 (M' b) (N' b) sm sn) (mx2 (M' b) (N' b) sm sn)
      have PT14 : Ptrs ((w13.setCell ⟨L, b * 2, none⟩ (.int .i64 (mx1 (M' b) (N' b) sm sn))).setCell ⟨L, b * 2 + 1, none⟩ (.int .i64 (mx2 (M' b) (N' b) sm sn))) w.heap.size bk := fun i hi => (World.cell?_setCell_other _ _ _ _ (by simp <;> omega)).trans ((World.cell?_setCell_other _ _ _ _ (by simp <;> omega)).trans (PT13 i hi))
      have HB14 := (HB13.setCell (p := ⟨L, b * 2, none⟩) (Nat.le_of_lt hCL) (.int .i64 (mx1 (M' b) (N' b) sm sn))).setCell (p := ⟨L, b * 2 + 1, none⟩) (Nat.le_of_lt hCL) (.int .i64 (mx2 (M' b) (N' b) sm sn))
      clear q0 q1 q2 q3 f2 f3 FM13 AL13 PT13 HB13
      go_wp2
      go_roundw
      case rel => exact ⟨k + 1, _, _, by omega, by omega, by go_num, TB.out, AL14, HB14, FM14, PT14⟩
      case measure => simp [intOf]; omega
    · have z3 := HB.size
      rcases (show k = n ∨ (k < n ∧ k = n') from by omega) with rfl | ⟨hl, rfl⟩
      · have d1 : decide ((k : Int) < (k : Int)) = false := by simp
        go_wp2_with (go_at_call 16; refine (known10 _).mono ?_; rintro e w5 ⟨rfl, hb5⟩; obtain ⟨hc5, hf5⟩ := bcell hb5; have hz5 := hb5.size; (try simp only [World.size_alloc, World.size_setCell, World.heap_drewN] at hb5 hc5 hf5 hz5); (try have ha05 : w.heap.size < w5.heap.size := by omega); (try have ha15 : w.heap.size + 1 < w5.heap.size := by omega); (try have ha25 : w.heap.size + 2 < w5.heap.size := by omega); (try have hal5 : w.heap.size ≤ w5.heap.size := by omega); (try have ham5 : w.heap.size < w5.heap.size + 2 := by omega); (try have hb05 : wr.heap.size < w5.heap.size := by omega); (try have hb15 : wr.heap.size + 1 < w5.heap.size := by omega); (try have hb25 : wr.heap.size + 2 < w5.heap.size := by omega); (try have hbl5 : wr.heap.size ≤ w5.heap.size := by omega); (try have hbm5 : wr.heap.size < w5.heap.size + 2 := by omega))
        go_ret
        go_light
        exact ⟨rfl, by (repeat' (first | (with_reducible exact Below.refl _ _) | (with_reducible assumption) | (with_reducible refine Below.trans ?_ (Below.mono (by with_reducible assumption) ?_)) | (with_reducible refine Below.alloc ?_ ?_ _) | (with_reducible refine Below.setCell ?_ ?_ _) | (with_reducible refine below_drewN ?_ _) | (with_reducible refine Below.drew ?_) | go_size))⟩
      · have d1 : decide ((k : Int) < (n : Int)) = true := by simpa using hl
        have d2 : decide ((k : Int) < (k : Int)) = false := by simp
        have d3 : (k : Int) < (n : Int) := by omega
        go_wp2_with (go_at_call 16; refine (known10 _).mono ?_; rintro e w5 ⟨rfl, hb5⟩; obtain ⟨hc5, hf5⟩ := bcell hb5; have hz5 := hb5.size; (try simp only [World.size_alloc, World.size_setCell, World.heap_drewN] at hb5 hc5 hf5 hz5); (try have ha05 : w.heap.size < w5.heap.size := by omega); (try have ha15 : w.heap.size + 1 < w5.heap.size := by omega); (try have ha25 : w.heap.size + 2 < w5.heap.size := by omega); (try have hal5 : w.heap.size ≤ w5.heap.size := by omega); (try have ham5 : w.heap.size < w5.heap.size + 2 := by omega); (try have hb05 : wr.heap.size < w5.heap.size := by omega); (try have hb15 : wr.heap.size + 1 < w5.heap.size := by omega); (try have hb25 : wr.heap.size + 2 < w5.heap.size := by omega); (try have hbl5 : wr.heap.size ≤ w5.heap.size := by omega); (try have hbm5 : wr.heap.size < w5.heap.size + 2 := by omega))
        go_ret
        go_light
        exact ⟨rfl, by (repeat' (first | (with_reducible exact Below.refl _ _) | (with_reducible assumption) | (with_reducible refine Below.trans ?_ (Below.mono (by with_reducible assumption) ?_)) | (with_reducible refine Below.alloc ?_ ?_ _) | (with_reducible refine Below.setCell ?_ ?_ _) | (with_reducible refine below_drewN ?_ _) | (with_reducible refine Below.drew ?_) | go_size))⟩
set_option maxRecDepth 100000 in
theorem hlcTalk_lifted (os : Os) (started : os.Started) (H : Type) (enc : TypeId × Value → H) :
    ReturnsInHanded {} Try.checked os 12 .any (Rows.hlcTalkSpec.pre6 enc Try.prog Try.f12 Rows.hlcTalkRow.domain false) (Rows.hlcTalkSpec.post enc Try.prog Try.f12 false true false false) := by
  refine returnsInHanded_of_change_sized (C := Try.checked) law_own started (by kernel_rfl) Try.func12
    (ChangeSpec.witness6 (enc := enc) (C := Try.checked) false ⟨#[], #[.slice none 0 0, .slice none 0 0], []⟩ 8 (by kernel_rfl) (by kernel_rfl) (by kernel_rfl) (by kernel_rfl)) ?_
  intro W base args ds gs before hval0 hW hcnd hsz0 _
  have hval : ∀ (j : Nat) t v, Try.f12.params[j]? = some t → args[j]? = some v → Value.okWide Try.prog W .any base t v := hval0
  have hsz : (DataW.weightsEach Try.prog (Try.f12.params.toList ++ Rows.hlcTalkSpec.plain.varTypes Try.prog) (ds ++ gs)).all (· ≤ reachBytes) = true := hsz0
  have hW' := hW
  obtain ⟨p, q, hA0, hV, rfl, hfz, hnd⟩ := hW
  have hA : DataW.TrodAll enc Try.prog W 0 (fun _ => true) true Try.f12.params.toList args.toList ds p := hA0
  rw [Try.params12] at hA hval hsz
  have hsame : (Rows.hlcTalkSpec.fn H (ds ++ gs)).results = [.lit (.bool true)] ∧ (Rows.hlcTalkSpec.fn H (ds ++ gs)).args = ds ∧ (Rows.hlcTalkSpec.fn H (ds ++ gs)).vars = [] → ∀ W', Below W.heap.size W W' → Rows.hlcTalkSpec.post enc Try.prog Try.f12 false true false false W args (.bool true) W' :=
    fun h W' hb => law_post (tb := 4) hW' law_laid (by kernel_rfl) rfl Try.underlying4 h.1 h.2.1 rfl h.2.2 hb
  obtain ⟨v0, vs0, d0, ds0, p0, q0, hargs, rfl, rfl, h0, r0⟩ := trodAll_cons hA
  obtain ⟨v1, vs1, d1, ds1, p1, q1, rfl, rfl, rfl, h1, r1⟩ := trodAll_cons r0
  obtain ⟨rfl, rfl, rfl⟩ := trodAll_nil r1
  obtain rfl : args = #[v0, v1] := by cases args; simp_all
  obtain ⟨rfl, rfl⟩ := trodVars_none hV
  have hpost := hsame ⟨rfl, rfl, rfl⟩
  clear hsame hA0 hval0 hsz0
  obtain ⟨A, n, c, z, rfl, hn, hz⟩ := open_int_slice (hval 0 51 v0 rfl rfl) h0
  obtain ⟨A', n', c', z', rfl, hn', hz'⟩ := open_int_slice (hval 1 51 v1 rfl rfl) h1
  by_cases h : 100 < n ∨ (n ≤ 100 ∧ 100 < n')
  · exact (talk_out A n c A' n' c' W h hn hn').mono fun e W' ⟨he, hb⟩ => ⟨_, he, hpost W' hb⟩
  · exact (talk_in A n c A' n' c' z z' W hz hz' (by omega) (by omega)).mono fun e W' ⟨he, hb⟩ => ⟨_, he, hpost W' hb⟩
theorem hlcTalk_holds : Rows.HlcTalkSaid :=
  OpenClaim.holds_of_wide 12 Try.f12 rfl rfl rfl rfl rfl rfl rfl ⟨rfl, rfl, rfl, rfl, rfl⟩ rfl rfl rfl rfl rfl (by kernel_rfl) Try.func12 (by kernel_rfl)
    (of_decide_eq_true (by kernel_rfl)) (by unfold Func.isWrapper; first | (rw [if_pos (by decide +kernel)]; kernel_rfl) | (rw [if_neg (by decide +kernel)]; exact ⟨rfl, rfl⟩))
    (fun os started H enc _ => hlcTalk_lifted os started H enc)
end Go.Proofs.Ytmbopdabbegbiaa
