/- leap.Parse of the text of 'known': a table of two. -/
import Derived.Test.YtonleiffbfdikaaDoorParse
import Derived.Test.YtonleiffbfdikaaDoorLeapOff
import Derived.Test.YtonleiffbfdikaaDoorBut
import Derived.Deep.AppendLies
import Derived.OwnWalk
set_option linter.unusedSimpArgs false
set_option linter.unusedVariables false
namespace Go.Proofs.YtonleiffbfdikaaDoor
open Go.RowKit

def kTx : ByteArray := ⟨#[35, 32, 120, 10, 50, 48, 49, 53, 45, 48, 55, 45, 48, 49, 32, 51, 54, 10, 50, 48, 49, 55, 45, 48, 49, 45, 48, 49, 32, 51, 55, 10, 10, 101, 120, 112, 105, 114, 101, 115, 32, 50, 48, 50, 54, 45, 49, 50, 45, 50, 56, 10]⟩
def k0 : ByteArray := ⟨#[35, 32, 120]⟩
def k1 : ByteArray := ⟨#[50, 48, 49, 53, 45, 48, 55, 45, 48, 49, 32, 51, 54]⟩
def k2 : ByteArray := ⟨#[50, 48, 49, 55, 45, 48, 49, 45, 48, 49, 32, 51, 55]⟩
def k3 : ByteArray := ⟨#[]⟩
def k4 : ByteArray := ⟨#[101, 120, 112, 105, 114, 101, 115, 32, 50, 48, 50, 54, 45, 49, 50, 45, 50, 56]⟩
def d1 : ByteArray := ⟨#[50, 48, 49, 53, 45, 48, 55, 45, 48, 49]⟩
def d2 : ByteArray := ⟨#[50, 48, 49, 55, 45, 48, 49, 45, 48, 49]⟩
def d4 : ByteArray := ⟨#[50, 48, 50, 54, 45, 49, 50, 45, 50, 56]⟩
def n1 : ByteArray := ⟨#[51, 54]⟩
def n2 : ByteArray := ⟨#[51, 55]⟩
def x4 : ByteArray := ⟨#[101, 120, 112, 105, 114, 101, 115]⟩
def nlT : ByteArray := ⟨#[10]⟩
theorem k_split : Lib.countB kTx nlT + 1 = 6 ∧ ((Lib.splitB nlT 0 (Lib.countB kTx nlT) kTx).map Value.string).toArray = #[.string k0, .string k1, .string k2, .string k3, .string k4, .string k3] := ⟨by kernel_rfl, by kernel_rfl⟩
theorem k_cut1 : Lib.cut k1.data.toList spT.data.toList = (d1.data.toList, n1.data.toList, true) := by kernel_rfl
theorem k_cut2 : Lib.cut k2.data.toList spT.data.toList = (d2.data.toList, n2.data.toList, true) := by kernel_rfl
theorem k_cut4 : Lib.cut k4.data.toList spT.data.toList = (x4.data.toList, d4.data.toList, true) := by kernel_rfl
theorem k_p1 : Lib.trimPrefix k1.data.toList expT.data.toList = k1.data.toList ∧ Lib.hasPrefix k1.data.toList expT.data.toList = false := ⟨by kernel_rfl, by kernel_rfl⟩
theorem k_p2 : Lib.trimPrefix k2.data.toList expT.data.toList = k2.data.toList ∧ Lib.hasPrefix k2.data.toList expT.data.toList = false := ⟨by kernel_rfl, by kernel_rfl⟩
theorem k_p4 : Lib.trimPrefix k4.data.toList expT.data.toList = d4.data.toList ∧ Lib.hasPrefix k4.data.toList expT.data.toList = true := ⟨by kernel_rfl, by kernel_rfl⟩
theorem k_d1 : DateText d1 2015 7 1 := ⟨by kernel_rfl, fun _ => by kernel_rfl, fun _ => by kernel_rfl, by kernel_rfl, by kernel_rfl, by kernel_rfl, by unfold Cal.Vld; decide⟩
theorem k_d2 : DateText d2 2017 1 1 := ⟨by kernel_rfl, fun _ => by kernel_rfl, fun _ => by kernel_rfl, by kernel_rfl, by kernel_rfl, by kernel_rfl, by unfold Cal.Vld; decide⟩
theorem k_d4 : DateText d4 2026 12 28 := ⟨by kernel_rfl, fun _ => by kernel_rfl, fun _ => by kernel_rfl, by kernel_rfl, by kernel_rfl, by kernel_rfl, by unfold Cal.Vld; decide⟩
theorem k_n1 : DigitsOk n1 := ⟨by decide, by decide, fun k h => by
  rcases (show k = 0 ∨ k = 1 from by simp [n1, ByteArray.size] at h; omega) with rfl | rfl <;> decide +revert, .inr fun _ => by decide +revert⟩
theorem k_n2 : DigitsOk n2 := ⟨by decide, by decide, fun k h => by
  rcases (show k = 0 ∨ k = 1 from by simp [n2, ByteArray.size] at h; omega) with rfl | rfl <;> decide +revert, .inr fun _ => by decide +revert⟩
theorem k_v : capGo n1.data.toList 0 = 36 ∧ capGo n2.data.toList 0 = 37 := ⟨by kernel_rfl, by kernel_rfl⟩
theorem k_num : Cal.num 2015 7 1 = 16617 ∧ Cal.num 2017 1 1 = 17167 ∧ Cal.num 2026 12 28 = 20815 := by decide
/-- A table's two cells in a block of its own. -/
structure Tb (w : World) (b : Nat) (v : Value) (x : Int) : Prop where
  c0 : w.cell? ⟨b, 0, none⟩ = some v
  c1 : w.cell? ⟨b, 1, none⟩ = some (.int .i64 x)
  f0 : w.frozen? ⟨b, 0, none⟩ = false
  f1 : w.frozen? ⟨b, 1, none⟩ = false
  lt : b < w.heap.size
theorem Tb.below {w w' : World} {b : Nat} {v : Value} {x : Int} (h : Tb w b v x) (k : Below w.heap.size w w') : Tb w' b v x :=
  ⟨(k.cell (p := ⟨b, 0, none⟩) h.lt).trans h.c0, (k.cell (p := ⟨b, 1, none⟩) h.lt).trans h.c1, (k.frozen (p := ⟨b, 0, none⟩) h.lt).trans h.f0, (k.frozen (p := ⟨b, 1, none⟩) h.lt).trans h.f1, Nat.lt_of_lt_of_le h.lt k.size⟩
theorem Tb.set0 {w : World} {b : Nat} {v : Value} {x : Int} (h : Tb w b v x) (u : Value) : Tb (w.setCell ⟨b, 0, none⟩ u) b u x :=
  ⟨World.cell?_setCell_same _ _ _ h.c0, (World.cell?_setCell_other _ _ _ _ (by simp)).trans h.c1, by simpa using h.f0, by simpa using h.f1, by simpa [World.setCell] using h.lt⟩
theorem Tb.set1 {w : World} {b : Nat} {v : Value} {x : Int} (h : Tb w b v x) (u : Int) : Tb (w.setCell ⟨b, 1, none⟩ (.int .i64 u)) b v u :=
  ⟨(World.cell?_setCell_other _ _ _ _ (by simp)).trans h.c0, World.cell?_setCell_same _ _ _ h.c1, by simpa using h.f0, by simpa using h.f1, by simpa [World.setCell] using h.lt⟩
theorem Tb.other {w : World} {b : Nat} {v : Value} {x : Int} (h : Tb w b v x) {p : Addr} (hp : p.block ≠ b) (u : Value) : Tb (w.setCell p u) b v x :=
  ⟨(World.cell?_setCell_other _ _ _ _ (fun e => hp (by rw [e]))).trans h.c0, (World.cell?_setCell_other _ _ _ _ (fun e => hp (by rw [e]))).trans h.c1, by simpa using h.f0, by simpa using h.f1, by simpa [World.setCell] using h.lt⟩
theorem Tb.new (w : World) (v : Value) (x : Int) (t : TypeId) : Tb (w.alloc (.cells #[v, .int .i64 x] t)) w.heap.size v x := by
  constructor <;> simp
/-- The lines of the text, in a block. -/
structure Ln (w : World) (b : Nat) : Prop where
  l1 : w.cell? ⟨b, 1, none⟩ = some (.string k1)
  l2 : w.cell? ⟨b, 2, none⟩ = some (.string k2)
  l3 : w.cell? ⟨b, 3, none⟩ = some (.string k3)
  l4 : w.cell? ⟨b, 4, none⟩ = some (.string k4)
  lt : b < w.heap.size
theorem Ln.below {w w' : World} {b : Nat} (h : Ln w b) (k : Below w.heap.size w w') : Ln w' b :=
  ⟨(k.cell (p := ⟨b, 1, none⟩) h.lt).trans h.l1, (k.cell (p := ⟨b, 2, none⟩) h.lt).trans h.l2, (k.cell (p := ⟨b, 3, none⟩) h.lt).trans h.l3, (k.cell (p := ⟨b, 4, none⟩) h.lt).trans h.l4, Nat.lt_of_lt_of_le h.lt k.size⟩
theorem Ln.other {w : World} {b : Nat} (h : Ln w b) {p : Addr} (hp : p.block ≠ b) (u : Value) : Ln (w.setCell p u) b :=
  ⟨(World.cell?_setCell_other _ _ _ _ (fun e => hp (by rw [e]))).trans h.l1, (World.cell?_setCell_other _ _ _ _ (fun e => hp (by rw [e]))).trans h.l2, (World.cell?_setCell_other _ _ _ _ (fun e => hp (by rw [e]))).trans h.l3, (World.cell?_setCell_other _ _ _ _ (fun e => hp (by rw [e]))).trans h.l4, by simpa [World.setCell] using h.lt⟩
theorem leap_info : (Tryd.prog.info? 33).map (fun i => (i.zero, i.size, i.bytes)) = some (some (.agg #[.int .i64 0, .int .i64 0]), 2, 16) := by kernel_rfl
def kz (j : Nat) : Int := if j = 0 then 16617 else if j = 1 then 36 else if j = 2 then 17167 else 37
theorem own_flat {w : World} {e : TypeId} {g n cap : Nat} {xs : List Value} {z : Nat → Int} (h : w.ownsRow 0 e 2 (.slice (some ⟨g, 0, none⟩) n cap) n xs) (hz : ∀ j, j < n * 2 → xs[j]? = some (.int .i64 (z j)) ∧ -9223372036854775808 ≤ z j ∧ z j ≤ 9223372036854775807) : FlatAt w (some ⟨g, 0, none⟩) 2 n z := by
  intro hn
  refine ⟨g, 0, rfl, (h.lt g rfl).2, fun j hj => ⟨?_, (hz j hj).2⟩⟩
  rw [Nat.zero_add]
  exact row_cell h (hz j hj).1
/-- What Parse keeps on its way through the lines. -/
structure PS (w0 wr : World) (v : Value) (xs : List Value) (n : Nat) : Prop where
  x0 : Tb wr w0.heap.size (.slice none 0 0) 0
  xl : Ln wr (w0.heap.size + 1)
  xt : Tb wr (w0.heap.size + 2) v 0
  row : wr.ownsRow 0 33 2 v n xs
  nb : ∀ g, v.ownBlock = some g → w0.heap.size + 2 < g
  hb : Below w0.heap.size w0 wr
theorem PS.below {w0 w w' : World} {v : Value} {xs : List Value} {n : Nat} (h : PS w0 w v xs n) (k : Below w.heap.size w w') : PS w0 w' v xs n :=
  ⟨h.x0.below k, h.xl.below k, h.xt.below k, (But.of_below (S := fun _ => False) k).row h.row (fun _ _ hf => hf), h.nb, h.hb.trans (k.mono h.hb.size)⟩
structure AppOut (w0 w2 w3 : World) (v v' : Value) (ys : List Value) (m : Nat) (d o : Int) : Prop where
  ps : PS w0 (w3.setCell ⟨w0.heap.size + 2, 0, none⟩ v') v' ys m
  c : w3.cell? ⟨w0.heap.size + 2, 0, none⟩ = some v
  f : w3.frozen? ⟨w0.heap.size + 2, 0, none⟩ = false
  l0 : (w3.setCell ⟨w0.heap.size + 2, 0, none⟩ v').cell? ⟨w2.heap.size, 0, none⟩ = some (.int .i64 d)
theorem PS.app {w0 w2 w3 : World} {v v' : Value} {xs ys : List Value} {n m : Nat} {d o : Int} {t t' : TypeId} (h : PS w0 w2 v xs n)
    (hg : ((w2.alloc (.cells #[.int .i64 d, .int .i64 o] t)).alloc (.cells #[.int .i64 d, .int .i64 o] t')).grownBy w3 v.ownBlock) (hown : w3.ownsRow 0 33 2 v' m ys) (hv : ∀ g, v'.ownBlock = some g → v.ownBlock = some g ∨ g = w2.heap.size + 2) : AppOut w0 w2 w3 v v' ys m d o := by
  have hbut : But (fun k => v.ownBlock = some k) w2 w3 := (((But.refl (fun k => v.ownBlock = some k) w2).alloc _).alloc _).trans (But.of_grown (S := fun k => v.ownBlock = some k) hg (fun k hk => hk)) (fun _ _ hf => hf)
  have hlt := h.xt.lt
  have hn2 : ¬ (fun k => v.ownBlock = some k) (w0.heap.size + 2) := fun e => by have := h.nb _ e; omega
  have hn1 : ¬ (fun k => v.ownBlock = some k) (w0.heap.size + 1) := fun e => by have := h.nb _ e; omega
  have hn0 : ¬ (fun k => v.ownBlock = some k) w0.heap.size := fun e => by have := h.nb _ e; omega
  have Y0 : Tb w3 w0.heap.size (.slice none 0 0) 0 := ⟨(hbut.cell _ 0 h.x0.lt hn0).trans h.x0.c0, (hbut.cell _ 1 h.x0.lt hn0).trans h.x0.c1, (hbut.frozen _ 0 h.x0.lt hn0).trans h.x0.f0, (hbut.frozen _ 1 h.x0.lt hn0).trans h.x0.f1, Nat.lt_of_lt_of_le h.x0.lt hbut.size⟩
  have Y1 : Ln w3 (w0.heap.size + 1) := ⟨(hbut.cell _ 1 h.xl.lt hn1).trans h.xl.l1, (hbut.cell _ 2 h.xl.lt hn1).trans h.xl.l2, (hbut.cell _ 3 h.xl.lt hn1).trans h.xl.l3, (hbut.cell _ 4 h.xl.lt hn1).trans h.xl.l4, Nat.lt_of_lt_of_le h.xl.lt hbut.size⟩
  have Y2 : Tb w3 (w0.heap.size + 2) v 0 := ⟨(hbut.cell _ 0 hlt hn2).trans h.xt.c0, (hbut.cell _ 1 hlt hn2).trans h.xt.c1, (hbut.frozen _ 0 hlt hn2).trans h.xt.f0, (hbut.frozen _ 1 hlt hn2).trans h.xt.f1, Nat.lt_of_lt_of_le hlt hbut.size⟩
  have hnv : ∀ g, v'.ownBlock = some g → w0.heap.size + 2 < g := fun g hg' => by
    rcases hv g hg' with e | e
    · exact h.nb g e
    · omega
  refine ⟨⟨Y0.other (by simp) _, Y1.other (by simp) _, Y2.set0 _, (But.of_only (S := fun k => k = w0.heap.size + 2) ((Only.refl _ w3).setB _) rfl).row hown (fun g hg' e => by have := hnv g hg'; omega), hnv, ?_⟩, Y2.c0, Y2.f0, ?_⟩
  · exact (h.hb.trans ⟨hbut.os, hbut.tape, hbut.output, hbut.size, fun k hk => hbut.block k (by have := h.hb.size; omega) (fun e => by have := h.nb k e; omega)⟩).setCell (by simp) _
  · rw [World.cell?_setCell_other _ _ _ _ (by simp; try omega)]
    have hnl : some w2.heap.size ≠ v.ownBlock := fun e => by have := (h.row.lt _ e.symm).2; omega
    rw [hg.cell_far ⟨w2.heap.size, 0, none⟩ (by simp; omega) hnl, World.cell?_alloc_past _ _ _ (by simp)]
    simp
theorem kz_tab1 : IsTab kz 1 16618 := by
  refine ⟨by omega, by omega, ?_, by decide, by decide, by decide⟩
  intro k hk
  obtain rfl : k = 0 := by omega
  exact ⟨by decide, by decide, by decide, by decide, .inl rfl⟩
theorem kz_tab (x : Int) (h : 17167 < x) (h2 : x ≤ 2932896) : IsTab kz 2 x := by
  refine ⟨by omega, by omega, ?_, by omega, by omega, by show (17167 : Int) < x; exact h⟩
  intro k hk
  rcases (show k = 0 ∨ k = 1 from by omega) with rfl | rfl
  · exact ⟨by decide, by decide, by decide, by decide, .inl rfl⟩
  · exact ⟨by decide, by decide, by decide, by decide, .inr ⟨by decide, ⟨2017, 1, by unfold Cal.Vld; decide, by decide⟩, by decide⟩⟩
def ParseKn (w : World) (e : Ending) (w' : World) : Prop := ∃ A c, e = .returned (.tuple #[.agg #[.slice A 2 c, .int .i64 20815], .int .i64 0, .int .i64 0]) ∧ FlatAt w' A 2 2 kz ∧ Below w.heap.size w w'
set_option maxRecDepth 100000 in
set_option maxHeartbeats 4000000 in
theorem parse_known (w : World) (hm : Mx w) : Calls Tryd.prog 23 #[.string kTx] w (ParseKn w) := by
  have hsz : (kTx.size : Int) = 52 := by decide
  have hsz' : kTx.size < 4294967281 := by decide
  have J0 := Tb.new w (.slice none 0 0) 0 24
  have HB0 : Below w.heap.size w (w.alloc (.cells #[.slice none 0 0, .int .i64 0] 24)) := by (repeat' (first | (with_reducible exact Below.refl _ _) | (with_reducible assumption) | (with_reducible refine Below.trans ?_ (Below.mono (by with_reducible assumption) ?_)) | (with_reducible refine Below.alloc ?_ ?_ _) | (with_reducible refine Below.setCell ?_ ?_ _) | (with_reducible refine below_drewN ?_ _) | (with_reducible refine Below.drew ?_) | go_size))
  have HS := Lib.hid (split_ok kTx nlT _ (hm.below HB0) hsz' (by decide))
  rw [k_split.1, k_split.2] at HS
  have HM := Lib.hid hm
  have e3 : k3.toList.isEmpty = true := by rw [Lib.toList_data]; rfl
  have e0 : k0.toList.isEmpty = false := by rw [Lib.toList_data]; rfl
  have e1 : k1.toList.isEmpty = false := by rw [Lib.toList_data]; rfl
  have e2 : k2.toList.isEmpty = false := by rw [Lib.toList_data]; rfl
  have e4 : k4.toList.isEmpty = false := by rw [Lib.toList_data]; rfl
  have s0 : 0 < k0.size := by decide
  have s1 : 0 < k1.size := by decide
  have s2 : 0 < k2.size := by decide
  have s4 : 0 < k4.size := by decide
  have b0 : (((k0[0]'s0).toNat : Int) == 35) = true := by decide +revert
  have b1 : (((k1[0]'s1).toNat : Int) == 35) = false := by decide +revert
  have b2 : (((k2[0]'s2).toNat : Int) == 35) = false := by decide +revert
  have b4 : (((k4[0]'s4).toNat : Int) == 35) = false := by decide +revert
  clear hm hsz'
  go_enter Tryd.func23, Tryd.ntmps23
  go_wp2_with fail
  refine HS.out.mono ?_; rintro e w' ⟨rfl, rfl⟩
  go_wp2_with fail
  refine wp_loop_rounds 6 ?_
  rw [rounds_succ]
  go_wp2_with fail
  rw [rounds_succ]
  go_wp2_with fail
  obtain ⟨W, hW⟩ : ∃ W, W = ((w.alloc (.cells #[.slice none 0 0, .int .i64 0] 24)).alloc (.cells #[.string k0, .string k1, .string k2, .string k3, .string k4, .string k3] 9)).alloc (.cells #[.slice none 0 0, .int .i64 0] 24) := ⟨_, rfl⟩
  have X0 : Tb W w.heap.size (.slice none 0 0) 0 := by rw [hW]; exact (J0.below ((Below.refl _ _).alloc (Nat.le_refl _) _)).below ((Below.refl _ _).alloc (Nat.le_refl _) _)
  have XL : Ln W (w.heap.size + 1) := by rw [hW]; constructor <;> simp [go_sem]
  have XT : Tb W (w.heap.size + 2) (.slice none 0 0) 0 := by rw [hW]; have h := Tb.new ((w.alloc (.cells #[.slice none 0 0, .int .i64 0] 24)).alloc (.cells #[.string k0, .string k1, .string k2, .string k3, .string k4, .string k3] 9)) (.slice none 0 0) 0 24; simp only [World.size_alloc] at h; exact h
  have HB : Below w.heap.size w W := by rw [hW]; (repeat' (first | (with_reducible exact Below.refl _ _) | (with_reducible assumption) | (with_reducible refine Below.trans ?_ (Below.mono (by with_reducible assumption) ?_)) | (with_reducible refine Below.alloc ?_ ?_ _) | (with_reducible refine Below.setCell ?_ ?_ _) | (with_reducible refine below_drewN ?_ _) | (with_reducible refine Below.drew ?_) | go_size))
  rw [← hW]
  have P0 : PS w W (.slice none 0 0) [] 0 := ⟨X0, XL, XT, World.ownsRow_nil _ _ _ _, fun g hg => by simp [Value.ownBlock] at hg, HB⟩
  obtain ⟨i0, hi0, hz0, hz1, hz2⟩ := info_parts leap_info
  clear hW HB0 J0 HS X0 XL XT HB
  refine (parseEnd_no k1 k1 W k_p1.1 k_p1.2).mono ?_; rintro e w1 ⟨rfl, hb1⟩
  go_wp2_with fail
  refine (parseLeap_yes k1 d1 n1 2015 7 1 16617 36 w1 (HM.out.below P0.hb |>.below hb1) (by decide) k_cut1 k_d1 k_num.1 k_n1 k_v.1).mono ?_; rintro e w2 ⟨rfl, hb2⟩
  have P2 := Lib.hid (P0.below (hb1.trans (hb2.mono hb1.size)))
  clear hb1 hb2 P0
  have t0 := P2.out.xt.c0
  have tl := P2.out.xt.lt
  go_wp2_with (at_builtin; refine wpList_append_lies _ rfl (.tmp 57) (.tmp 59) 22 rfl 0 33 i0 _ 2 16 Tryd.underlying22 hi0 hz0 hz1 hz2 rfl (by decide) (.slice none 0 0) 0 [] rfl (World.ownsRow_nil _ _ _ _) ⟨w2.heap.size + 1, 0, none⟩ 1 1 [.int .i64 16617, .int .i64 36] rfl rfl (World.news_of_block (cs := #[.int .i64 16617, .int .i64 36]) (t := 33) (fr := (0, 0)) (by have h := heap_alloc_new (w2.alloc (.cells #[.int .i64 16617, .int .i64 36] 33)) (.cells #[.int .i64 16617, .int .i64 36] 33); simpa using h)) (by simp [Value.oneCell']) (by omega) (by unfold maxLen; omega) (by omega) (by simp) (w2.heap.size + 2) (by simp) ?_; intro g cap w3 hown hgrow hat hlt; have AO := Lib.hid (P2.out.app hgrow hown (fun k hk => by have hk' : g = k := (by simpa [Value.ownBlock] using hk); exact hat.imp (fun h => hk' ▸ h) (fun h => hk' ▸ h))); have c3 := AO.out.c; have f3 := AO.out.f; have l3 := AO.out.l0; clear hown hgrow hat t0)
  have FL : FlatAt (w3.setCell ⟨w.heap.size + 2, 0, none⟩ (.slice (some ⟨g, 0, none⟩) 1 cap)) (some ⟨g, 0, none⟩) 2 1 kz := own_flat AO.out.ps.row (fun j hj => by
    rcases (show j = 0 ∨ j = 1 from by omega) with rfl | rfl <;> exact ⟨rfl, by decide, by decide⟩)
  refine (leap_is_yes (some ⟨g, 0, none⟩) 1 cap 16618 kz _ FL kz_tab1).mono ?_; rintro e w4 ⟨rfl, hb4⟩
  have P4 : PS w w4 (.slice (some ⟨g, 0, none⟩) 1 cap) [.int .i64 16617, .int .i64 36] 1 := AO.out.ps.below hb4
  have l2 := P4.xl.l2
  have lt2 := P4.xl.lt
  have P4 := Lib.hid P4
  clear FL hb4 c3 f3 l3 AO P2
  go_wp2_with fail
  rw [rounds_succ]
  go_wp2_with fail
  refine (parseEnd_no k2 k2 w4 k_p2.1 k_p2.2).mono ?_; rintro e w5 ⟨rfl, hb5⟩
  go_wp2_with fail
  refine (parseLeap_yes k2 d2 n2 2017 1 1 17167 37 w5 (HM.out.below P4.out.hb |>.below hb5) (by decide) k_cut2 k_d2 k_num.2.1 k_n2 k_v.2).mono ?_; rintro e w6 ⟨rfl, hb6⟩
  have P6 := Lib.hid (P4.out.below (hb5.trans (hb6.mono hb5.size)))
  clear hb5 hb6 P4 l2 lt2
  have t6 := P6.out.xt.c0
  have tl := P6.out.xt.lt
  go_wp2_with (at_builtin; refine wpList_append_lies _ rfl (.tmp 57) (.tmp 59) 22 rfl 0 33 i0 _ 2 16 Tryd.underlying22 hi0 hz0 hz1 hz2 rfl (by decide) (.slice (some ⟨g, 0, none⟩) 1 cap) 1 [.int .i64 16617, .int .i64 36] rfl (World.ownsRow.alloc (World.ownsRow.alloc P6.out.row _) _) ⟨w6.heap.size + 1, 0, none⟩ 1 1 [.int .i64 17167, .int .i64 37] rfl rfl (World.news_of_block (cs := #[.int .i64 17167, .int .i64 37]) (t := 33) (fr := (0, 0)) (by have h := heap_alloc_new (w6.alloc (.cells #[.int .i64 17167, .int .i64 37] 33)) (.cells #[.int .i64 17167, .int .i64 37] 33); simpa using h)) (by simp [Value.oneCell']) (by omega) (by unfold maxLen; omega) (by omega) (by simp) (w6.heap.size + 2) (by simp) ?_; intro g' cap' w7 hown hgrow hat hlt; have BO := Lib.hid (P6.out.app hgrow hown (fun k hk => by have hk' : g' = k := (by simpa [Value.ownBlock] using hk); exact hat.imp (fun h => hk' ▸ h) (fun h => hk' ▸ h))); have c7 := BO.out.c; have f7 := BO.out.f; have l7 := BO.out.l0; clear hown hgrow hat t6)
  have FL : FlatAt (w7.setCell ⟨w.heap.size + 2, 0, none⟩ (.slice (some ⟨g', 0, none⟩) 2 cap')) (some ⟨g', 0, none⟩) 2 2 kz := own_flat BO.out.ps.row (fun j hj => by
    rcases (show j = 0 ∨ j = 1 ∨ j = 2 ∨ j = 3 from by omega) with rfl | rfl | rfl | rfl <;> exact ⟨rfl, by decide, by decide⟩)
  refine (leap_is_yes (some ⟨g', 0, none⟩) 2 cap' 17168 kz _ FL (kz_tab _ (by omega) (by omega))).mono ?_; rintro e w8 ⟨rfl, hb8⟩
  have P8 : PS w w8 (.slice (some ⟨g', 0, none⟩) 2 cap') [.int .i64 16617, .int .i64 36, .int .i64 17167, .int .i64 37] 2 := BO.out.ps.below hb8
  have l3' := P8.xl.l3
  have l4' := P8.xl.l4
  have lt2 := P8.xl.lt
  have P8 := Lib.hid P8
  clear FL hb8 c7 f7 l7 BO P6
  go_wp2_with fail
  rw [rounds_succ]
  go_wp2_with fail
  rw [rounds_succ]
  go_wp2_with fail
  refine (parseEnd_yes k4 d4 2026 12 28 20815 w8 k_p4.1 k_p4.2 k_d4 k_num.2.2).mono ?_; rintro e w9 ⟨rfl, hb9⟩
  go_wp2_with fail
  refine (parseLeap_no k4 x4 d4 w9 (HM.out.below P8.out.hb |>.below hb9) (by decide) k_cut4 (by decide)).mono ?_; rintro e w10 ⟨rfl, hb10⟩
  have P10 := Lib.hid (P8.out.below (hb9.trans (hb10.mono hb9.size)))
  clear hb9 hb10 P8 l3' l4' lt2
  obtain ⟨u0, u1, uf0, uf1, ul⟩ := P10.out.xt
  have hg2 := P10.out.nb g' rfl
  obtain ⟨V, hV⟩ : ∃ V, V = (w10.setCell ⟨w.heap.size + 1 + 1, 1, none⟩ (.int .i64 20815)).alloc (.cells #[.int .i64 0, .int .i64 0] 33) := ⟨_, rfl⟩
  have vb : Below (w10.setCell ⟨w.heap.size + 1 + 1, 1, none⟩ (.int .i64 20815)).heap.size (w10.setCell ⟨w.heap.size + 1 + 1, 1, none⟩ (.int .i64 20815)) V := by rw [hV]; exact (Below.refl _ _).alloc (Nat.le_refl _) _
  have V0 : Tb V w.heap.size (.slice none 0 0) 0 := (P10.out.x0.other (p := ⟨w.heap.size + 1 + 1, 1, none⟩) (by simp; try omega) _).below vb
  have VT : Tb V (w.heap.size + 2) (.slice (some ⟨g', 0, none⟩) 2 cap') 20815 := (P10.out.xt.set1 20815).below vb
  have VR : V.ownsRow 0 33 2 (.slice (some ⟨g', 0, none⟩) 2 cap') 2 [.int .i64 16617, .int .i64 36, .int .i64 17167, .int .i64 37] := (But.of_below (S := fun _ => False) vb).row ((But.of_only (S := fun k => k = w.heap.size + 1 + 1) ((Only.refl _ w10).setB _) rfl).row P10.out.row (fun k hk e => by have := P10.out.nb k hk; omega)) (fun _ _ hf => hf)
  have VB : Below w.heap.size w V := (P10.out.hb.setCell (p := ⟨w.heap.size + 1 + 1, 1, none⟩) (by simp; try omega) _).trans (vb.mono (by have := P10.out.hb.size; simpa [World.setCell] using this))
  have VR' := Lib.hid VR
  go_wp2_with fail
  rw [← hV]
  clear hV vb u0 u1 uf0 uf1 ul
  refine (leap_is_yes (some ⟨g', 0, none⟩) 2 cap' 20815 kz V (own_flat VR'.out (fun j hj => by
    rcases (show j = 0 ∨ j = 1 ∨ j = 2 ∨ j = 3 from by omega) with rfl | rfl | rfl | rfl <;> exact ⟨rfl, by decide, by decide⟩)) (kz_tab _ (by omega) (by omega))).mono ?_; rintro e w11 ⟨rfl, hb11⟩
  have Z0 := V0.below hb11
  have ZT := VT.below hb11
  have ZR := Lib.hid ((But.of_below (S := fun _ => False) hb11).row VR'.out (fun _ _ hf => hf))
  have ZB := VB.trans (hb11.mono VB.size)
  have R := (Z0.set0 (.slice (some ⟨g', 0, none⟩) 2 cap')).set1 20815
  have R0 := R.c0
  have R1 := R.c1
  have ZF : Hid (((w11.setCell ⟨w.heap.size, 0, none⟩ (.slice (some ⟨g', 0, none⟩) 2 cap')).setCell ⟨w.heap.size, 1, none⟩ (.int .i64 20815)).ownsRow 0 33 2 (.slice (some ⟨g', 0, none⟩) 2 cap') 2 [.int .i64 16617, .int .i64 36, .int .i64 17167, .int .i64 37]) :=
    (But.of_only (S := fun k => k = w.heap.size) (((Only.refl _ w11).setB _).setB _) rfl).row ZR.out (fun k hk e => by simp [Value.ownBlock] at hk; omega)
  have ZBB := Lib.hid ((ZB.setCell (p := ⟨w.heap.size, 0, none⟩) (Nat.le_refl _) (.slice (some ⟨g', 0, none⟩) 2 cap')).setCell (p := ⟨w.heap.size, 1, none⟩) (Nat.le_refl _) (.int .i64 20815))
  obtain ⟨z0, z1, zf0, zf1, zl⟩ := Z0
  obtain ⟨y0, y1, yf0, yf1, yl⟩ := ZT
  clear hb11 V0 VT VB R VR VR' ZB ZR P10
  go_wp2_with fail
  rw [rounds_succ]
  go_wp2
  refine bodyPost_ret (v := .tuple #[.agg #[.slice (some ⟨g', 0, none⟩) 2 cap', .int .i64 20815], .int .i64 0, .int .i64 0]) (by simp [results, Tryd.results23, go_sem, R0, R1]) rfl ⟨_, _, rfl, own_flat ZF.out (fun j hj => by
    rcases (show j = 0 ∨ j = 1 ∨ j = 2 ∨ j = 3 from by omega) with rfl | rfl | rfl | rfl <;> exact ⟨rfl, by decide, by decide⟩), ZBB.out⟩
end Go.Proofs.YtonleiffbfdikaaDoor
