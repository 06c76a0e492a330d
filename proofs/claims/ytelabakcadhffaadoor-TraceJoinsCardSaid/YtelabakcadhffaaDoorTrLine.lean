/- trace.Line of any step and answer (written by gen/trline.py). -/
import Derived.Test.YtelabakcadhffaaDoorTrQuo
import Derived.Test.YtelabakcadhffaaDoorBld
import Derived.Test.YtelabakcadhffaaDoorItoaL
import Derived.Lib.ItoaLen
import Derived.Lib.ConvBytes
import Derived.Lib.QuietBelow
import Derived.Shelf.Unicode.PredsPay
import Derived.Deep.RegionHeld
import Derived.Deep.DeepCutAuto
set_option linter.unusedSimpArgs false
set_option linter.unusedVariables false
namespace Go.Proofs.YtelabakcadhffaaDoor
open Go.RowKit Go.Sort Go.Deep

def Tab (w : World) : Prop := Lib.TabIs Tryd.prog w "internal/strconv.uint64pow10" .u64 Lib.pow10Tab
theorem Tab.below {w w' : World} (h : Tab w) (k : Below w.heap.size w w') : Tab w' := TabIs_below (g := 0) (by kernel_rfl) h k
theorem below_grow_drewN (w : World) (k : Nat) (os : Array Obj) : Below w.heap.size w (grow (w.drewN k) os) := ⟨rfl, rfl, rfl, by simp [grow], fun i hi => by simp [grow, Array.getElem?_append, hi]⟩
/-- A number's text: one below 0 as 0. -/
def numS (n : Int) : ByteArray := ⟨(Lib.itoa (if n < 0 then 0 else n)).toArray⟩
theorem numS_size (n : Int) (h1 : n ≤ 9223372036854775807) : (numS n).size ≤ 21 := by
  have h := Lib.itoa_length_le (if n < 0 then 0 else n) (by split <;> omega) (by split <;> omega)
  simpa [numS, ByteArray.size] using h
theorem wf_i64 {n : Int} (h : (Lit.int .i64 n).wf = true) : -9223372036854775808 ≤ n ∧ n ≤ 9223372036854775807 := by
  simp [Lit.wf, IntKind.min, IntKind.max, IntKind.signed, IntKind.bits] at h
  omega
theorem tr_number (n : Int) (w : World) (ht : Tab w) (h0 : -9223372036854775808 ≤ n) (h1 : n ≤ 9223372036854775807) :
    Calls Tryd.prog 13 #[.int .i64 n] w fun e w' => e = .returned (.string (numS n)) ∧ Below w.heap.size w w' := by
  unfold numS
  have HI := Lib.hid (Any.strconv_Itoa Tryd.laysM171 (if n < 0 then 0 else n) (by split <;> omega) (by split <;> omega) w ht)
  obtain ⟨q, hq⟩ : ∃ q, (⟨(Lib.itoa (if n < 0 then 0 else n)).toArray⟩ : ByteArray) = q := ⟨_, rfl⟩
  rw [hq] at HI ⊢
  have HM : Hid (max n 0 = if n < 0 then 0 else n) := Lib.hid (by split <;> omega)
  clear hq ht
  go_enter Tryd.func13, Tryd.ntmps13
  go_wp2_with fail
  rw [HM.out]
  refine HI.out.mono ?_; rintro e w1 ⟨rfl, k, os, rfl⟩
  have HB := Lib.hid (below_grow_drewN w k os)
  generalize grow (w.drewN k) os = w1 at *
  go_wp2
  all_goals go_ret
  all_goals exact ⟨rfl, HB.out⟩
theorem bld_below {B b : Nat} {bs : List Value} {w w' : World} (h : Lib.IsBuilder 45 5 B b bs w) (k : Below w.heap.size w w') : Lib.IsBuilder 45 5 B b bs w' := by
  have f : ∀ p, Lib.BuilderAt 45 5 B b p bs w → Lib.BuilderAt 45 5 B b p bs w' := by
    rintro p ⟨hB, v, hb, hown, hne⟩
    have hlt : b < w.heap.size := (Array.getElem?_eq_some_iff.1 hb).1
    exact ⟨hB, v, (k.block b hlt).trans hb, (But.of_below (S := fun _ => False) k).row hown (fun _ _ hf => hf), hne⟩
  exact h.elim (fun h => .inl (f _ h)) (fun h => .inr (f _ h))
/-- A pair, where its value lies. -/
structure Pa where
  key : ByteArray
  val : List Int
  A : Option Addr
  c : Nat
def Pa.cs (x : Pa) : List Value := [.string x.key, .slice x.A x.val.length x.c]
def rowP (L : List Pa) : List Value := L.flatMap Pa.cs
theorem rowP_len (L : List Pa) : (rowP L).length = L.length * 2 := by
  induction L with
  | nil => rfl
  | cons a t ih =>
    show (a.cs ++ rowP t).length = _
    rw [List.length_append, ih]
    simp [Pa.cs]
    omega
theorem rowP_append (a b : List Pa) : rowP (a ++ b) = rowP a ++ rowP b := by simp [rowP]
theorem rowP_at {L : List Pa} {k : Nat} {x : Pa} (h : L[k]? = some x) (j : Nat) (hj : j < 2) : (rowP L)[k * 2 + j]? = x.cs[j]? := by
  have hk : k < L.length := (List.getElem?_eq_some_iff.1 h).1
  have e : L = L.take k ++ x :: L.drop (k + 1) := by
    have h2 : L[k] = x := by have := List.getElem?_eq_getElem hk; rw [this] at h; injection h
    conv => lhs; rw [← List.take_append_drop k L]
    rw [List.drop_eq_getElem_cons hk, h2]
  rw [e, rowP_append, List.getElem?_append_right (by rw [rowP_len, List.length_take]; omega), rowP_len, List.length_take, show min k L.length = k from by omega, show k * 2 + j - k * 2 = j from by omega]
  show (x.cs ++ rowP (L.drop (k + 1)))[j]? = _
  rw [List.getElem?_append_left (by simp [Pa.cs]; omega)]
structure Pa.In (w : World) (x : Pa) : Prop where
  by_ : ByL w x.A x.val
  is : isBy x.val
  n : x.A = none → x.val.length = 0
  s1 : x.key.size ≤ 100000
  s2 : x.val.length ≤ 100000
theorem Pa.In.below {w w' : World} {x : Pa} (h : x.In w) (k : Below w.heap.size w w') : x.In w' := ⟨h.by_.below k, h.is, h.n, h.s1, h.s2⟩
/-- Pairs at an address. -/
def RowPa (w : World) (A : Option Addr) (L : List Pa) : Prop := 0 < L.length → ∃ B O, A = some ⟨B, O, none⟩ ∧ B < w.heap.size ∧ ∀ j u, (rowP L)[j]? = some u → w.cell? ⟨B, O + j, none⟩ = some u
theorem RowPa.below {w w' : World} {A : Option Addr} {L : List Pa} (h : RowPa w A L) (k : Below w.heap.size w w') : RowPa w' A L := by
  intro h0
  obtain ⟨B, O, rfl, hB, hc⟩ := h h0
  exact ⟨B, O, rfl, Nat.lt_of_lt_of_le hB k.size, fun j u hu => (k.cell (p := ⟨B, O + j, none⟩) hB).trans (hc j u hu)⟩
/-- A line, piece by piece. -/
def pairS (x : Pa) : ByteArray := (⟨#[32]⟩ : ByteArray) ++ strB (quoL (kL x.key)) ++ (⟨#[61]⟩ : ByteArray) ++ strB (quoL x.val)
def pairsL (L : List Pa) : List UInt8 := L.flatMap fun x => (pairS x).data.toList
theorem pairsL_take {L : List Pa} {k : Nat} {x : Pa} (h : L[k]? = some x) : pairsL (L.take (k + 1)) = pairsL (L.take k) ++ (pairS x).data.toList := by
  have hk := (List.getElem?_eq_some_iff.1 h).1
  rw [List.take_succ_eq_append_getElem hk]
  rw [List.getElem?_eq_getElem hk] at h
  injection h with h
  rw [h]
  simp [pairsL]
theorem size_list (s : ByteArray) : s.data.toList.length = s.size := Array.length_toList
theorem pairS_size {x : Pa} (h1 : x.key.size ≤ 100000) (h2 : x.val.length ≤ 100000) : (pairS x).size ≤ 1000000 := by
  have e1 := (quoL_len (kL x.key)).2
  have e2 := (quoL_len x.val).2
  rw [kL_len] at e1
  unfold pairS
  rw [ByteArray.size_append, ByteArray.size_append, ByteArray.size_append, strB_size, strB_size]
  have a1 : (⟨#[32]⟩ : ByteArray).size = 1 := rfl
  have a2 : (⟨#[61]⟩ : ByteArray).size = 1 := rfl
  omega
theorem pairsL_len : ∀ {L : List Pa}, (∀ x ∈ L, (pairS x).size ≤ 1000000) → (pairsL L).length ≤ L.length * 1000000
  | [], _ => by simp [pairsL]
  | x :: t, h => by
    have h1 := pairsL_len (L := t) (fun y hy => h y (by simp [hy]))
    have h2 := h x (by simp)
    show ((pairS x).data.toList ++ pairsL t).length ≤ (t.length + 1) * 1000000
    rw [List.length_append, size_list]
    omega
def headL (kd nd : Int) : List UInt8 := (numS kd ++ (⟨#[32]⟩ : ByteArray) ++ numS nd).data.toList
def errL (er : Int) : List UInt8 := if er = 0 then [] else ((⟨#[32, 101, 114, 114, 111, 114, 32]⟩ : ByteArray) ++ numS er).data.toList
def nL (n : Int) : List UInt8 := if 0 < n then ((⟨#[32, 110, 61]⟩ : ByteArray) ++ numS n).data.toList else []
def stL (m c : Int) : List UInt8 := if m = 0 ∧ c = 0 then [] else ((⟨#[32, 97, 116, 61]⟩ : ByteArray) ++ numS m ++ (⟨#[46]⟩ : ByteArray) ++ numS c).data.toList
def fdL (fd : Bool) (v : List Int) : List UInt8 := if fd = true then ((⟨#[32, 102, 111, 117, 110, 100, 32]⟩ : ByteArray) ++ strB (quoL v)).data.toList else []
def frontL (kd nd er n m c : Int) (fd : Bool) (v : List Int) : List UInt8 := headL kd nd ++ errL er ++ nL n ++ stL m c ++ fdL fd v
def lineL (kd nd er n m c : Int) (fd : Bool) (v : List Int) (P : List Pa) : List UInt8 := frontL kd nd er n m c fd v ++ pairsL P
/-- What is held while a line is made. -/
structure LR (w0 : World) (kd nd er n m c : Int) (fd : Bool) (VA : Option Addr) (vn vc : Nat) (PA : Option Addr) (pn pc : Nat) (L : List UInt8) (wx : World) : Prop where
  s0 : wx.cell? ⟨w0.heap.size, 0, none⟩ = some (.int .i64 kd)
  s1 : wx.cell? ⟨w0.heap.size, 1, none⟩ = some (.int .i64 nd)
  a0 : wx.cell? ⟨w0.heap.size + 1, 0, none⟩ = some (.int .i64 er)
  a1 : wx.cell? ⟨w0.heap.size + 1, 1, none⟩ = some (.int .i64 n)
  a2 : wx.cell? ⟨w0.heap.size + 1, 2, none⟩ = some (.int .i64 m)
  a3 : wx.cell? ⟨w0.heap.size + 1, 3, none⟩ = some (.int .i64 c)
  a4 : wx.cell? ⟨w0.heap.size + 1, 4, none⟩ = some (.bool fd)
  a5 : wx.cell? ⟨w0.heap.size + 1, 5, none⟩ = some (.slice VA vn vc)
  a6 : wx.cell? ⟨w0.heap.size + 1, 6, none⟩ = some (.slice PA pn pc)
  bl : Lib.IsBuilder 45 5 (w0.heap.size + 1 + 1) (w0.heap.size + 1 + 1) (Lib.byteCells L) wx
  hb : Below w0.heap.size w0 wx
  lt : w0.heap.size + 1 + 1 < wx.heap.size
theorem LR.low {w0 : World} {kd nd er n m c : Int} {fd : Bool} {VA PA : Option Addr} {vn vc pn pc : Nat} {L L2 : List UInt8} {wx wy : World} (h : LR w0 kd nd er n m c fd VA vn vc PA pn pc L wx) (k : Below (w0.heap.size + 1 + 1) wx wy)
    (hl : Lib.IsBuilder 45 5 (w0.heap.size + 1 + 1) (w0.heap.size + 1 + 1) (Lib.byteCells L2) wy) : LR w0 kd nd er n m c fd VA vn vc PA pn pc L2 wy :=
  ⟨(k.cell (p := ⟨w0.heap.size, 0, none⟩) (by show w0.heap.size < _; omega)).trans h.s0, (k.cell (p := ⟨w0.heap.size, 1, none⟩) (by show w0.heap.size < _; omega)).trans h.s1, (k.cell (p := ⟨w0.heap.size + 1, 0, none⟩) (by show w0.heap.size + 1 < _; omega)).trans h.a0, (k.cell (p := ⟨w0.heap.size + 1, 1, none⟩) (by show w0.heap.size + 1 < _; omega)).trans h.a1, (k.cell (p := ⟨w0.heap.size + 1, 2, none⟩) (by show w0.heap.size + 1 < _; omega)).trans h.a2, (k.cell (p := ⟨w0.heap.size + 1, 3, none⟩) (by show w0.heap.size + 1 < _; omega)).trans h.a3, (k.cell (p := ⟨w0.heap.size + 1, 4, none⟩) (by show w0.heap.size + 1 < _; omega)).trans h.a4, (k.cell (p := ⟨w0.heap.size + 1, 5, none⟩) (by show w0.heap.size + 1 < _; omega)).trans h.a5, (k.cell (p := ⟨w0.heap.size + 1, 6, none⟩) (by show w0.heap.size + 1 < _; omega)).trans h.a6, hl, h.hb.trans (k.mono (by omega)), Nat.lt_of_lt_of_le h.lt k.size⟩
theorem LR.below {w0 : World} {kd nd er n m c : Int} {fd : Bool} {VA PA : Option Addr} {vn vc pn pc : Nat} {L : List UInt8} {wx wy : World} (h : LR w0 kd nd er n m c fd VA vn vc PA pn pc L wx) (k : Below wx.heap.size wx wy) : LR w0 kd nd er n m c fd VA vn vc PA pn pc L wy :=
  h.low (k.mono (Nat.le_of_lt h.lt)) (bld_below h.bl k)
/-- The builder is written. -/
theorem LR.write {w0 : World} {kd nd er n m c : Int} {fd : Bool} {VA PA : Option Addr} {vn vc pn pc : Nat} {L : List UInt8} {wx : World} (h : LR w0 kd nd er n m c fd VA vn vc PA pn pc L wx) (s : ByteArray) (hs : L.length + s.size ≤ 140737488355328) :
    Calls Tryd.prog 11 #[.pointer (some ⟨w0.heap.size + 1 + 1, 0, none⟩), .string s] wx fun e w' => e = .returned (.tuple #[.int .i64 s.size, .nilIface]) ∧ LR w0 kd nd er n m c fd VA vn vc PA pn pc (L ++ s.data.toList) w' :=
  (bld_write _ _ _ s wx h.bl (by rw [Lib.byteCells_length]; exact hs) (Nat.le_of_lt h.lt)).mono fun e w' ⟨h1, h2, h3⟩ => ⟨h1, h.low h3 (.inr (by rw [Lib.byteCells_append, ← Lib.strCells_eq]; exact h2))⟩
theorem yz {w w' : World} {b : Nat} {u v : Value} (h : w.cell? ⟨b, 0, none⟩ = some u ∧ w.cell? ⟨b, 1, none⟩ = some v ∧ b < w.heap.size) (k : Below w.heap.size w w') : w'.cell? ⟨b, 0, none⟩ = some u ∧ w'.cell? ⟨b, 1, none⟩ = some v ∧ b < w'.heap.size :=
  ⟨(k.cell (p := ⟨b, 0, none⟩) h.2.2).trans h.1, (k.cell (p := ⟨b, 1, none⟩) h.2.2).trans h.2.1, Nat.lt_of_lt_of_le h.2.2 k.size⟩
theorem bytes_below (W : World) (s : ByteArray) : Below W.heap.size W (Lib.bytesWorld W 5 s) := ⟨rfl, rfl, rfl, by rw [Lib.bytesWorld_size]; omega, fun k hk => Lib.bytesWorld_at_old W 5 s k hk⟩
theorem bytes_by (W : World) (s : ByteArray) : ByL (Lib.bytesWorld W 5 s) (some ⟨W.heap.size, 0, none⟩) (kL s) := fun _ => by
  refine ⟨_, _, rfl, by rw [Lib.bytesWorld_size]; omega, fun j u hu => ?_⟩
  obtain ⟨q, rfl⟩ := bC_some hu
  have q' : j < s.size := by rwa [kL_len] at q
  rw [Nat.zero_add, Lib.bytesWorld_cell W 5 s j q']
  have hj : j < s.data.toList.length := by rw [Array.length_toList]; exact q'
  have e : (kL s)[j] = ((s.data.toList[j]'hj).toNat : Int) := by simp [kL]
  rw [e, List.getD_eq_getElem?_getD, List.getElem?_eq_getElem hj]
  rfl
set_option maxRecDepth 100000 in
theorem LR.start (w : World) (kd nd er n m c : Int) (fd : Bool) (VA PA : Option Addr) (vn vc pn pc : Nat) (cs : Array Value) (t1 t2 : TypeId) (h0 : cs[0]? = some (.int .i64 kd)) (h1 : cs[1]? = some (.int .i64 nd)) :
    LR w kd nd er n m c fd VA vn vc PA pn pc [] (((w.alloc (.cells cs t1)).alloc (.cells #[.int .i64 er, .int .i64 n, .int .i64 m, .int .i64 c, .bool fd, .slice VA vn vc, .slice PA pn pc] t2)).alloc (.cells #[.pointer none, .slice none 0 0] 45)) := by
  have hk : Below (w.heap.size + 1) (w.alloc (.cells cs t1)) (((w.alloc (.cells cs t1)).alloc (.cells #[.int .i64 er, .int .i64 n, .int .i64 m, .int .i64 c, .bool fd, .slice VA vn vc, .slice PA pn pc] t2)).alloc (.cells #[.pointer none, .slice none 0 0] 45)) := ((Below.refl _ _).alloc (by simp) _).alloc (by simp) _
  refine ⟨?_, ?_, ?_, ?_, ?_, ?_, ?_, ?_, ?_, ?_, by (repeat' (first | (with_reducible exact Below.refl _ _) | (with_reducible assumption) | (with_reducible refine Below.trans ?_ (Below.mono (by with_reducible assumption) ?_)) | (with_reducible refine Below.alloc ?_ ?_ _) | (with_reducible refine Below.setCell ?_ ?_ _) | (with_reducible refine below_drewN ?_ _) | (with_reducible refine Below.drew ?_) | go_size)), by simp⟩
  · rw [hk.cell (p := ⟨w.heap.size, 0, none⟩) (by show w.heap.size < _; omega)]; simpa using h0
  · rw [hk.cell (p := ⟨w.heap.size, 1, none⟩) (by show w.heap.size < _; omega)]; simpa using h1
  iterate 7 (rw [World.cell?_alloc_past _ _ _ (by simp)]; have hh := World.size_alloc w (.cells cs t1); (first | (rw [← hh]; simp)))
  · exact .inl ⟨Nat.le_refl _, .slice none 0 0, by have := heap_alloc_new ((w.alloc (.cells cs t1)).alloc (.cells #[.int .i64 er, .int .i64 n, .int .i64 m, .int .i64 c, .bool fd, .slice VA vn vc, .slice PA pn pc] t2)) (.cells #[.pointer none, .slice none 0 0] 45); simpa using this, World.ownsRow_nil _ _ _ _, by simp [Value.ownBlock]⟩
set_option maxRecDepth 100000 in
set_option maxHeartbeats 8000000 in
theorem tr_line (kd nd s2 s3 s4 s5 s6 : Int) (k1 k2 : ByteArray) (KA : Option Addr) (kn kc : Nat) (er n m c : Int) (fd : Bool) (VA : Option Addr) (val : List Int) (vc : Nat) (PA : Option Addr) (P : List Pa) (pc : Nat) (w : World) (ht : Tab w)
    (hv : ByL w VA val) (hvb : isBy val) (hvl : val.length ≤ 100000) (hP : RowPa w PA P) (hPi : ∀ x ∈ P, x.In w) (hPl : P.length ≤ 100000)
    (b0 : -9223372036854775808 ≤ kd ∧ kd ≤ 9223372036854775807) (b1 : -9223372036854775808 ≤ nd ∧ nd ≤ 9223372036854775807) (b2 : -9223372036854775808 ≤ er ∧ er ≤ 9223372036854775807) (b3 : -9223372036854775808 ≤ n ∧ n ≤ 9223372036854775807) (b4 : -9223372036854775808 ≤ m ∧ m ≤ 9223372036854775807) (b5 : -9223372036854775808 ≤ c ∧ c ≤ 9223372036854775807) :
    Calls Tryd.prog 10 #[.agg #[.int .i64 kd, .int .i64 nd, .int .i64 s2, .int .i64 s3, .int .u8 s4, .int .i64 s5, .int .i64 s6, .string k1, .string k2, .slice KA kn kc], .agg #[.int .i64 er, .int .i64 n, .int .i64 m, .int .i64 c, .bool fd, .slice VA val.length vc, .slice PA P.length pc]] w fun e w' => e = .returned (.string ⟨(lineL kd nd er n m c fd val P).toArray⟩) ∧ Below w.heap.size w w' := by
  have R0 := Lib.hid (LR.start w kd nd er n m c fd VA PA val.length vc P.length pc #[.int .i64 kd, .int .i64 nd, .int .i64 s2, .int .i64 s3, .int .u8 s4, .int .i64 s5, .int .i64 s6, .string k1, .string k2, .slice KA kn kc] 40 34 rfl rfl)
  have HN := Lib.hid fun (q : Int) (hq : -9223372036854775808 ≤ q ∧ q ≤ 9223372036854775807) (W : World) (hb : Below w.heap.size w W) => tr_number q W (ht.below hb) hq.1 hq.2
  have HQ := Lib.hid fun (W : World) (hb : Below w.heap.size w W) => tr_quote VA val vc W (hv.below hb) hvb hvl
  have HP := Lib.hid hP
  have HPI := Lib.hid hPi
  have z0 := numS_size kd b0.2
  have z1 := numS_size nd b1.2
  have z2 := numS_size er b2.2
  have z3 := numS_size n b3.2
  have z4 := numS_size m b4.2
  have z5 := numS_size c b5.2
  have z6 : (strB (quoL val)).size ≤ 400002 := by rw [strB_size]; have := (quoL_len val).2; omega
  have hpl : (P.length : Int) ≤ 100000 := by omega
  have N0 := Lib.hid (HN.out kd b0)
  have N1 := Lib.hid (HN.out nd b1)
  have N2 := Lib.hid (HN.out er b2)
  have N3 := Lib.hid (HN.out n b3)
  have N4 := Lib.hid (HN.out m b4)
  have N5 := Lib.hid (HN.out c b5)
  clear ht hv hvb hvl hP hPi b0 b1 b2 b3 b4 b5 HN
  have E1 : Hid ((numS kd ++ (⟨#[32]⟩ : ByteArray) ++ numS nd).data.toList = headL kd nd) := Lib.hid rfl
  have E2 : Hid (er ≠ 0 → ((⟨#[32, 101, 114, 114, 111, 114, 32]⟩ : ByteArray) ++ numS er).data.toList = errL er) := Lib.hid (fun h => by unfold errL; rw [if_neg h])
  have E2' : Hid (er = 0 → [] = errL er) := Lib.hid (fun h => by unfold errL; rw [if_pos h])
  have E3 : Hid (0 < n → ((⟨#[32, 110, 61]⟩ : ByteArray) ++ numS n).data.toList = nL n) := Lib.hid (fun h => by unfold nL; rw [if_pos h])
  have E3' : Hid (¬ 0 < n → [] = nL n) := Lib.hid (fun h => by unfold nL; rw [if_neg h])
  have E4 : Hid (¬ (m = 0 ∧ c = 0) → ((⟨#[32, 97, 116, 61]⟩ : ByteArray) ++ numS m ++ (⟨#[46]⟩ : ByteArray) ++ numS c).data.toList = stL m c) := Lib.hid (fun h => by unfold stL; rw [if_neg h])
  have E4' : Hid (m = 0 ∧ c = 0 → [] = stL m c) := Lib.hid (fun h => by unfold stL; rw [if_pos h])
  have E5 : Hid (fd = true → ((⟨#[32, 102, 111, 117, 110, 100, 32]⟩ : ByteArray) ++ strB (quoL val)).data.toList = fdL fd val) := Lib.hid (fun h => by unfold fdL; rw [if_pos h])
  have E5' : Hid (fd = false → [] = fdL fd val) := Lib.hid (fun h => by unfold fdL; rw [if_neg (by rw [h]; decide)])
  have EF : Hid (frontL kd nd er n m c fd val = headL kd nd ++ errL er ++ nL n ++ stL m c ++ fdL fd val) := Lib.hid rfl
  have EL : Hid (lineL kd nd er n m c fd val P = frontL kd nd er n m c fd val ++ pairsL P) := Lib.hid rfl
  have y1 : (headL kd nd).length ≤ 100 := by rw [← E1.out, size_list, ByteArray.size_append, ByteArray.size_append]; have a1 : (⟨#[32]⟩ : ByteArray).size = 1 := rfl; omega
  have y0 : 0 < (headL kd nd).length := by rw [← E1.out, size_list, ByteArray.size_append, ByteArray.size_append]; have a1 : (⟨#[32]⟩ : ByteArray).size = 1 := rfl; omega
  have y2 : (errL er).length ≤ 100 := by
    unfold errL; split
    · simp
    · rw [size_list, ByteArray.size_append]; have a1 : (⟨#[32, 101, 114, 114, 111, 114, 32]⟩ : ByteArray).size = 7 := rfl; omega
  have y3 : (nL n).length ≤ 100 := by
    unfold nL; split
    · rw [size_list, ByteArray.size_append]; have a1 : (⟨#[32, 110, 61]⟩ : ByteArray).size = 3 := rfl; omega
    · simp
  have y4 : (stL m c).length ≤ 100 := by
    unfold stL; split
    · simp
    · rw [size_list, ByteArray.size_append, ByteArray.size_append, ByteArray.size_append]; have a1 : (⟨#[32, 97, 116, 61]⟩ : ByteArray).size = 4 := rfl; have a2 : (⟨#[46]⟩ : ByteArray).size = 1 := rfl; omega
  have y5 : (fdL fd val).length ≤ 400100 := by
    unfold fdL; split
    · rw [size_list, ByteArray.size_append]; have a1 : (⟨#[32, 102, 111, 117, 110, 100, 32]⟩ : ByteArray).size = 7 := rfl; omega
    · simp
  generalize headL kd nd = l1 at *
  generalize errL er = l2 at *
  generalize nL n = l3 at *
  generalize stL m c = l4 at *
  generalize fdL fd val = l5 at *
  generalize numS kd = n0 at *
  generalize numS nd = n1 at *
  generalize numS er = n2 at *
  generalize numS n = n3 at *
  generalize numS m = n4 at *
  generalize numS c = n5 at *
  generalize strB (quoL val) = n6 at *
  generalize frontL kd nd er n m c fd val = lf at *
  generalize lineL kd nd er n m c fd val P = ll at *
  have x1 : ¬ 9223372036854775807 < n0.size + 1 := by omega
  have x2 : ¬ 9223372036854775807 < n0.size + 1 + n1.size := by omega
  have x3 : ¬ 9223372036854775807 < 7 + n2.size := by omega
  have x4 : ¬ 9223372036854775807 < 3 + n3.size := by omega
  have x5 : ¬ 9223372036854775807 < 4 + n4.size := by omega
  have x6 : ¬ 9223372036854775807 < 4 + n4.size + 1 := by omega
  have x7 : ¬ 9223372036854775807 < 4 + n4.size + 1 + n5.size := by omega
  have x8 : ¬ 9223372036854775807 < 7 + n6.size := by omega
  go_enter Tryd.func10, Tryd.ntmps10
  go_upto_region 2 with fail
  generalize hW0 : (((w.alloc (.cells #[.int .i64 kd, .int .i64 nd, .int .i64 s2, .int .i64 s3, .int .u8 s4, .int .i64 s5, .int .i64 s6, .string k1, .string k2, .slice KA kn kc] 40)).alloc (.cells #[.int .i64 er, .int .i64 n, .int .i64 m, .int .i64 c, .bool fd, .slice VA val.length vc, .slice PA P.length pc] 34)).alloc (.cells #[.pointer none, .slice none 0 0] 45)) = W0 at *
  clear hW0
  have RD := Lib.hid (R0.out.below ((Below.refl _ _).drew))
  refine wp_region_held_drew (S := (fun w' => w'.cell? ⟨w.heap.size, 0, none⟩ = some (.int .i64 kd) ∧ w'.cell? ⟨w.heap.size, 1, none⟩ = some (.int .i64 nd))) (by kernel_rfl) ?_ (fun hHeld => ?_)
  · exact ⟨RD.out.s0, RD.out.s1⟩
  refine wpAnyH_take (i := 0) (v := ?_) rfl (by kernel_rfl) (by kernel_rfl) (by kernel_rfl) (fun _ _ _ h => h) (Or.inl ⟨by rfl, ?_⟩) (by assumption) ?_
  rotate_left
  · intro w' hSw; (try dsimp only at hSw); go_simp; (try with_reducible rfl)
  (try simp only [Act.put, List.setIfInBounds_toArray, List.set_cons_zero, List.set_cons_succ, List.getElem_toArray, List.getElem_cons_succ, List.getElem_cons_zero])
  refine wpAnyH_take (i := 1) (v := ?_) rfl (by kernel_rfl) (by kernel_rfl) (by kernel_rfl) (fun _ _ _ h => h) (Or.inl ⟨by rfl, ?_⟩) (by assumption) ?_
  rotate_left
  · intro w' hSw; (try dsimp only at hSw); go_simp; (try with_reducible rfl)
  (try simp only [Act.put, List.setIfInBounds_toArray, List.set_cons_zero, List.set_cons_succ, List.getElem_toArray, List.getElem_cons_succ, List.getElem_cons_zero])
  refine wpAnyH_take (i := 4) (v := ?_) rfl (by kernel_rfl) (by kernel_rfl) (by kernel_rfl) (fun _ _ _ h => h) (Or.inl ⟨by rfl, ?_⟩) (by assumption) ?_
  rotate_left
  · intro w' hSw; (try dsimp only at hSw); go_simp; (try with_reducible rfl)
  (try simp only [Act.put, List.setIfInBounds_toArray, List.set_cons_zero, List.set_cons_succ, List.getElem_toArray, List.getElem_cons_succ, List.getElem_cons_zero])
  refine wpAnyH_take (i := 5) (v := ?_) rfl (by kernel_rfl) (by kernel_rfl) (by kernel_rfl) (fun _ _ _ h => h) (Or.inl ⟨by rfl, ?_⟩) (by assumption) ?_
  rotate_left
  · intro w' hSw; (try dsimp only at hSw); go_simp; (try with_reducible rfl)
  (try simp only [Act.put, List.setIfInBounds_toArray, List.set_cons_zero, List.set_cons_succ, List.getElem_toArray, List.getElem_cons_succ, List.getElem_cons_zero])
  refine wpAnyH_ready (rs := [2]) (by kernel_rfl) (by simp) ?_
  refine AllReadyH.cons rfl (fun K hK => ?_) AllReadyH.nil
  go_simp
  (go_at_call 13; refine (N0.out _ RD.out.hb).mono ?_; rintro e W1 ⟨rfl, hb1⟩; have R1 := Lib.hid (RD.out.below hb1); clear hb1)
  (try dsimp only)
  refine hK.out _ _ ?_ (fun hHeld => ?_)
  · exact ⟨R1.out.s0, R1.out.s1⟩
  clear hK K
  (try simp only [Act.put, List.setIfInBounds_toArray, List.set_cons_zero, List.set_cons_succ, List.getElem_toArray, List.getElem_cons_succ, List.getElem_cons_zero])
  refine wpAnyH_take (i := 3) (v := ?_) rfl (by kernel_rfl) (by kernel_rfl) (by kernel_rfl) (fun _ _ _ h => h) (Or.inl ⟨by rfl, ?_⟩) (by assumption) ?_
  rotate_left
  · intro w' hSw; (try dsimp only at hSw); go_simp; (try with_reducible rfl)
  (try simp only [Act.put, List.setIfInBounds_toArray, List.set_cons_zero, List.set_cons_succ, List.getElem_toArray, List.getElem_cons_succ, List.getElem_cons_zero])
  refine wpAnyH_ready (rs := [6]) (by kernel_rfl) (by simp) ?_
  refine AllReadyH.cons rfl (fun K hK => ?_) AllReadyH.nil
  go_simp
  (go_at_call 13; refine (N1.out _ R1.out.hb).mono ?_; rintro e W2 ⟨rfl, hb2⟩; have R2 := Lib.hid (R1.out.below hb2); clear hb2)
  (try dsimp only)
  refine hK.out _ _ ?_ (fun hHeld => ?_)
  · exact ⟨R2.out.s0, R2.out.s1⟩
  clear hK K
  (try simp only [Act.put, List.setIfInBounds_toArray, List.set_cons_zero, List.set_cons_succ, List.getElem_toArray, List.getElem_cons_succ, List.getElem_cons_zero])
  refine wpAnyH_take (i := 7) (v := ?_) rfl (by kernel_rfl) (by kernel_rfl) (by kernel_rfl) (fun _ _ _ h => h) (Or.inl ⟨by rfl, ?_⟩) (by assumption) ?_
  rotate_left
  · intro w' hSw; (try dsimp only at hSw); go_simp; (try with_reducible rfl)
  (try simp only [Act.put, List.setIfInBounds_toArray, List.set_cons_zero, List.set_cons_succ, List.getElem_toArray, List.getElem_cons_succ, List.getElem_cons_zero])
  refine wpAnyH_ready (rs := [8]) (by kernel_rfl) (by simp) ?_
  refine AllReadyH.cons rfl (fun K hK => ?_) AllReadyH.nil
  go_simp
  (refine (R2.out.write (n0 ++ (⟨#[32]⟩ : ByteArray) ++ n1) (by simp only [ByteArray.size_append, List.length_append, List.length_nil]; (try have a1 : (⟨#[32]⟩ : ByteArray).size = 1 := rfl); (try have a2 : (⟨#[32, 101, 114, 114, 111, 114, 32]⟩ : ByteArray).size = 7 := rfl); (try have a3 : (⟨#[32, 110, 61]⟩ : ByteArray).size = 3 := rfl); (try have a4 : (⟨#[32, 97, 116, 61]⟩ : ByteArray).size = 4 := rfl); (try have a5 : (⟨#[46]⟩ : ByteArray).size = 1 := rfl); (try have a6 : (⟨#[32, 102, 111, 117, 110, 100, 32]⟩ : ByteArray).size = 7 := rfl); (try have a7 : (⟨#[61]⟩ : ByteArray).size = 1 := rfl); omega)).mono ?_; rintro e W3 ⟨rfl, hr3⟩; have R3 := Lib.hid hr3; clear hr3)
  (try dsimp only)
  refine hK.out _ _ ?_ (fun hHeld => ?_)
  · exact ⟨R3.out.s0, R3.out.s1⟩
  clear hK K
  (try simp only [Act.put, List.setIfInBounds_toArray, List.set_cons_zero, List.set_cons_succ, List.getElem_toArray, List.getElem_cons_succ, List.getElem_cons_zero])
  refine wpAnyH_done (by kernel_rfl) ?_ _
  rw [E1.out, List.nil_append] at R3
  clear hHeld RD R0 R1 R2
  have c0 := R3.out.a0
  have c1 := R3.out.a1
  have c2 := R3.out.a2
  have c3 := R3.out.a3
  have c4 := R3.out.a4
  have c5 := R3.out.a5
  have lt := R3.out.lt
  go_upto_if 19 with fail
  go_cut [4] (fun s wx => s = .string ⟨#[]⟩ ∧ LR w kd nd er n m c fd VA val.length vc PA P.length pc (l1 ++ l2) wx)
  case first =>
    by_cases he : er = 0
    · have t1 : (er != 0) = false := by simpa using he
      have HE := Lib.hid (E2'.out he)
      clear he
      go_wp2_with fail
      go_meet
      exact ⟨rfl, by rw [← HE.out, List.append_nil]; exact R3.out⟩
    · have t1 : (er != 0) = true := by simpa using he
      have HE := Lib.hid (E2.out he)
      clear he
      go_wp2_with fail
      refine (N2.out _ R3.out.hb).mono ?_; rintro e w4 ⟨rfl, hb4⟩
      have R4 := Lib.hid (R3.out.below hb4)
      clear hb4 c0 c1 c2 c3 c4 c5 lt
      go_wp2_with fail
      refine (R4.out.write ((⟨#[32, 101, 114, 114, 111, 114, 32]⟩ : ByteArray) ++ n2) (by simp only [ByteArray.size_append]; (try have a1 : (⟨#[32]⟩ : ByteArray).size = 1 := rfl); (try have a2 : (⟨#[32, 101, 114, 114, 111, 114, 32]⟩ : ByteArray).size = 7 := rfl); (try have a3 : (⟨#[32, 110, 61]⟩ : ByteArray).size = 3 := rfl); (try have a4 : (⟨#[32, 97, 116, 61]⟩ : ByteArray).size = 4 := rfl); (try have a5 : (⟨#[46]⟩ : ByteArray).size = 1 := rfl); (try have a6 : (⟨#[32, 102, 111, 117, 110, 100, 32]⟩ : ByteArray).size = 7 := rfl); (try have a7 : (⟨#[61]⟩ : ByteArray).size = 1 := rfl); omega)).mono ?_; rintro e w5 ⟨rfl, hr5⟩
      rw [HE.out] at hr5
      have R5 := Lib.hid hr5
      clear hr5
      go_wp2_with fail
      go_meet
      exact ⟨rfl, R5.out⟩
  case rest =>
  obtain ⟨rfl, hR3⟩ := hcut
  have R3 := Lib.hid hR3
  clear hR3 c0 c1 c2 c3 c4 c5 lt
  generalize wc = W3 at *
  have c0 := R3.out.a0
  have c1 := R3.out.a1
  have c2 := R3.out.a2
  have c3 := R3.out.a3
  have c4 := R3.out.a4
  have c5 := R3.out.a5
  have lt := R3.out.lt
  go_upto_if 27 with fail
  go_cut [4] (fun s wx => s = .string ⟨#[]⟩ ∧ LR w kd nd er n m c fd VA val.length vc PA P.length pc (l1 ++ l2 ++ l3) wx)
  case first =>
    by_cases he : 0 < n
    · have t1 : decide (0 < n) = true := decide_eq_true he
      have t2 : ¬ n ≤ 0 := by omega
      have HE := Lib.hid (E3.out he)
      go_wp2_with fail
      refine (N3.out _ R3.out.hb).mono ?_; rintro e w4 ⟨rfl, hb4⟩
      have R4 := Lib.hid (R3.out.below hb4)
      clear hb4 c0 c1 c2 c3 c4 c5 lt
      go_wp2_with fail
      refine (R4.out.write ((⟨#[32, 110, 61]⟩ : ByteArray) ++ n3) (by simp only [ByteArray.size_append, List.length_append, List.length_nil]; (try have a1 : (⟨#[32]⟩ : ByteArray).size = 1 := rfl); (try have a2 : (⟨#[32, 101, 114, 114, 111, 114, 32]⟩ : ByteArray).size = 7 := rfl); (try have a3 : (⟨#[32, 110, 61]⟩ : ByteArray).size = 3 := rfl); (try have a4 : (⟨#[32, 97, 116, 61]⟩ : ByteArray).size = 4 := rfl); (try have a5 : (⟨#[46]⟩ : ByteArray).size = 1 := rfl); (try have a6 : (⟨#[32, 102, 111, 117, 110, 100, 32]⟩ : ByteArray).size = 7 := rfl); (try have a7 : (⟨#[61]⟩ : ByteArray).size = 1 := rfl); omega)).mono ?_; rintro e w5 ⟨rfl, hr5⟩
      rw [HE.out] at hr5
      have R5 := Lib.hid hr5
      clear hr5
      go_wp2_with fail
      go_meet
      exact ⟨rfl, R5.out⟩
    · have t1 : decide (0 < n) = false := decide_eq_false he
      have t2 : n ≤ 0 := by omega
      have HE := Lib.hid (E3'.out he)
      go_wp2_with fail
      go_meet
      exact ⟨rfl, by rw [← HE.out, List.append_nil]; exact R3.out⟩
  case rest =>
  obtain ⟨rfl, hR3⟩ := hcut
  have R3 := Lib.hid hR3
  clear hR3 c0 c1 c2 c3 c4 c5 lt
  generalize wc = W3 at *
  have c2 := R3.out.a2
  have c3 := R3.out.a3
  have lt := R3.out.lt
  obtain ⟨sb, hsb⟩ : ∃ sb, sb = (!((m == 0) && (c == 0))) := ⟨_, rfl⟩
  go_upto_region 7 with fail
  go_cut [36] (fun s wx => s = .bool sb ∧ wx = W3)
  case first =>
    by_cases h1 : m = 0
    · have t1 : (m == 0) = true := by simpa using h1
      by_cases h2 : c = 0
      · have t2 : (c == 0) = true := by simpa using h2
        have e : sb = false := by rw [hsb, t1, t2]; rfl
        subst e
        clear h1 h2 hsb
        go_wp2_with fail
        go_meet
        exact ⟨rfl, rfl⟩
      · have t2 : (c == 0) = false := by simpa using h2
        have e : sb = true := by rw [hsb, t1, t2]; rfl
        subst e
        clear h1 h2 hsb
        go_wp2_with fail
        go_meet
        exact ⟨rfl, rfl⟩
    · have t1 : (m == 0) = false := by simpa using h1
      have e : sb = true := by rw [hsb, t1]; rfl
      subst e
      clear h1 hsb
      go_wp2_with fail
      go_meet
      exact ⟨rfl, rfl⟩
  case rest =>
  obtain ⟨rfl, rfl⟩ := hcut
  go_upto_if 36 with fail
  go_cut [4] (fun s wx => s = .string ⟨#[]⟩ ∧ LR w kd nd er n m c fd VA val.length vc PA P.length pc (l1 ++ l2 ++ l3 ++ l4) wx)
  case first =>
    cases hss : sb with
    | false =>
      have HE := Lib.hid (E4'.out (by rw [hss] at hsb; simp at hsb; exact hsb))
      subst hss
      clear hsb
      go_wp2_with fail
      go_meet
      exact ⟨rfl, by rw [← HE.out, List.append_nil]; exact R3.out⟩
    | true =>
      have HE := Lib.hid (E4.out (fun h => by rw [hss, h.1, h.2] at hsb; simp at hsb))
      subst hss
      clear hsb
      have RD := Lib.hid (R3.out.below ((Below.refl _ _).drew))
      go_wp2_with fail
      refine wp_region_held_drew (S := (fun w' => w'.cell? ⟨w.heap.size + 1, 2, none⟩ = some (.int .i64 m) ∧ w'.cell? ⟨w.heap.size + 1, 3, none⟩ = some (.int .i64 c))) (by kernel_rfl) ?_ (fun hHeld => ?_)
      · exact ⟨RD.out.a2, RD.out.a3⟩
      refine wpAnyH_take (i := 0) (v := ?_) rfl (by kernel_rfl) (by kernel_rfl) (by kernel_rfl) (fun _ _ _ h => h) (Or.inl ⟨by rfl, ?_⟩) (by assumption) ?_
      rotate_left
      · intro w' hSw; (try dsimp only at hSw); go_simp; (try with_reducible rfl)
      (try simp only [Act.put, List.setIfInBounds_toArray, List.set_cons_zero, List.set_cons_succ, List.getElem_toArray, List.getElem_cons_succ, List.getElem_cons_zero])
      refine wpAnyH_take (i := 1) (v := ?_) rfl (by kernel_rfl) (by kernel_rfl) (by kernel_rfl) (fun _ _ _ h => h) (Or.inl ⟨by rfl, ?_⟩) (by assumption) ?_
      rotate_left
      · intro w' hSw; (try dsimp only at hSw); go_simp; (try with_reducible rfl)
      (try simp only [Act.put, List.setIfInBounds_toArray, List.set_cons_zero, List.set_cons_succ, List.getElem_toArray, List.getElem_cons_succ, List.getElem_cons_zero])
      refine wpAnyH_take (i := 2) (v := ?_) rfl (by kernel_rfl) (by kernel_rfl) (by kernel_rfl) (fun _ _ _ h => h) (Or.inl ⟨by rfl, ?_⟩) (by assumption) ?_
      rotate_left
      · intro w' hSw; (try dsimp only at hSw); go_simp; (try with_reducible rfl)
      (try simp only [Act.put, List.setIfInBounds_toArray, List.set_cons_zero, List.set_cons_succ, List.getElem_toArray, List.getElem_cons_succ, List.getElem_cons_zero])
      refine wpAnyH_take (i := 6) (v := ?_) rfl (by kernel_rfl) (by kernel_rfl) (by kernel_rfl) (fun _ _ _ h => h) (Or.inl ⟨by rfl, ?_⟩) (by assumption) ?_
      rotate_left
      · intro w' hSw; (try dsimp only at hSw); go_simp; (try with_reducible rfl)
      (try simp only [Act.put, List.setIfInBounds_toArray, List.set_cons_zero, List.set_cons_succ, List.getElem_toArray, List.getElem_cons_succ, List.getElem_cons_zero])
      refine wpAnyH_take (i := 7) (v := ?_) rfl (by kernel_rfl) (by kernel_rfl) (by kernel_rfl) (fun _ _ _ h => h) (Or.inl ⟨by rfl, ?_⟩) (by assumption) ?_
      rotate_left
      · intro w' hSw; (try dsimp only at hSw); go_simp; (try with_reducible rfl)
      (try simp only [Act.put, List.setIfInBounds_toArray, List.set_cons_zero, List.set_cons_succ, List.getElem_toArray, List.getElem_cons_succ, List.getElem_cons_zero])
      refine wpAnyH_take (i := 8) (v := ?_) rfl (by kernel_rfl) (by kernel_rfl) (by kernel_rfl) (fun _ _ _ h => h) (Or.inl ⟨by rfl, ?_⟩) (by assumption) ?_
      rotate_left
      · intro w' hSw; (try dsimp only at hSw); go_simp; (try with_reducible rfl)
      (try simp only [Act.put, List.setIfInBounds_toArray, List.set_cons_zero, List.set_cons_succ, List.getElem_toArray, List.getElem_cons_succ, List.getElem_cons_zero])
      refine wpAnyH_ready (rs := [3]) (by kernel_rfl) (by simp) ?_
      refine AllReadyH.cons rfl (fun K hK => ?_) AllReadyH.nil
      go_simp
      (go_at_call 13; refine (N4.out _ RD.out.hb).mono ?_; rintro e W4 ⟨rfl, hb4⟩; have R4 := Lib.hid (RD.out.below hb4); clear hb4)
      (try dsimp only)
      refine hK.out _ _ ?_ (fun hHeld => ?_)
      · exact ⟨R4.out.a2, R4.out.a3⟩
      clear hK K
      (try simp only [Act.put, List.setIfInBounds_toArray, List.set_cons_zero, List.set_cons_succ, List.getElem_toArray, List.getElem_cons_succ, List.getElem_cons_zero])
      refine wpAnyH_take (i := 4) (v := ?_) rfl (by kernel_rfl) (by kernel_rfl) (by kernel_rfl) (fun _ _ _ h => h) (Or.inl ⟨by rfl, ?_⟩) (by assumption) ?_
      rotate_left
      · intro w' hSw; (try dsimp only at hSw); go_simp; (try with_reducible rfl)
      (try simp only [Act.put, List.setIfInBounds_toArray, List.set_cons_zero, List.set_cons_succ, List.getElem_toArray, List.getElem_cons_succ, List.getElem_cons_zero])
      refine wpAnyH_take (i := 5) (v := ?_) rfl (by kernel_rfl) (by kernel_rfl) (by kernel_rfl) (fun _ _ _ h => h) (Or.inl ⟨by rfl, ?_⟩) (by assumption) ?_
      rotate_left
      · intro w' hSw; (try dsimp only at hSw); go_simp; (try with_reducible rfl)
      (try simp only [Act.put, List.setIfInBounds_toArray, List.set_cons_zero, List.set_cons_succ, List.getElem_toArray, List.getElem_cons_succ, List.getElem_cons_zero])
      refine wpAnyH_ready (rs := [9]) (by kernel_rfl) (by simp) ?_
      refine AllReadyH.cons rfl (fun K hK => ?_) AllReadyH.nil
      go_simp
      (go_at_call 13; refine (N5.out _ R4.out.hb).mono ?_; rintro e W5 ⟨rfl, hb5⟩; have R5 := Lib.hid (R4.out.below hb5); clear hb5)
      (try dsimp only)
      refine hK.out _ _ ?_ (fun hHeld => ?_)
      · exact ⟨R5.out.a2, R5.out.a3⟩
      clear hK K
      (try simp only [Act.put, List.setIfInBounds_toArray, List.set_cons_zero, List.set_cons_succ, List.getElem_toArray, List.getElem_cons_succ, List.getElem_cons_zero])
      refine wpAnyH_take (i := 10) (v := ?_) rfl (by kernel_rfl) (by kernel_rfl) (by kernel_rfl) (fun _ _ _ h => h) (Or.inl ⟨by rfl, ?_⟩) (by assumption) ?_
      rotate_left
      · intro w' hSw; (try dsimp only at hSw); go_simp; (try with_reducible rfl)
      (try simp only [Act.put, List.setIfInBounds_toArray, List.set_cons_zero, List.set_cons_succ, List.getElem_toArray, List.getElem_cons_succ, List.getElem_cons_zero])
      refine wpAnyH_ready (rs := [11]) (by kernel_rfl) (by simp) ?_
      refine AllReadyH.cons rfl (fun K hK => ?_) AllReadyH.nil
      go_simp
      (refine (R5.out.write ((⟨#[32, 97, 116, 61]⟩ : ByteArray) ++ n4 ++ (⟨#[46]⟩ : ByteArray) ++ n5) (by simp only [ByteArray.size_append, List.length_append, List.length_nil]; (try have a1 : (⟨#[32]⟩ : ByteArray).size = 1 := rfl); (try have a2 : (⟨#[32, 101, 114, 114, 111, 114, 32]⟩ : ByteArray).size = 7 := rfl); (try have a3 : (⟨#[32, 110, 61]⟩ : ByteArray).size = 3 := rfl); (try have a4 : (⟨#[32, 97, 116, 61]⟩ : ByteArray).size = 4 := rfl); (try have a5 : (⟨#[46]⟩ : ByteArray).size = 1 := rfl); (try have a6 : (⟨#[32, 102, 111, 117, 110, 100, 32]⟩ : ByteArray).size = 7 := rfl); (try have a7 : (⟨#[61]⟩ : ByteArray).size = 1 := rfl); omega)).mono ?_; rintro e W6 ⟨rfl, hr6⟩; have R6 := Lib.hid hr6; clear hr6)
      (try dsimp only)
      refine hK.out _ _ ?_ (fun hHeld => ?_)
      · exact ⟨R6.out.a2, R6.out.a3⟩
      clear hK K
      (try simp only [Act.put, List.setIfInBounds_toArray, List.set_cons_zero, List.set_cons_succ, List.getElem_toArray, List.getElem_cons_succ, List.getElem_cons_zero])
      refine wpAnyH_done (by kernel_rfl) ?_ _
      rw [HE.out] at R6
      go_wp2_with fail
      go_meet
      exact ⟨rfl, R6.out⟩
  case rest =>
  obtain ⟨rfl, hR3⟩ := hcut
  have R3 := Lib.hid hR3
  clear hR3 c2 c3 lt hsb
  generalize wc = W4 at *
  have c4 := R3.out.a4
  have c5 := R3.out.a5
  have lt := R3.out.lt
  go_upto_if 50 with fail
  go_cut [4] (fun s wx => s = .string ⟨#[]⟩ ∧ LR w kd nd er n m c fd VA val.length vc PA P.length pc (l1 ++ l2 ++ l3 ++ l4 ++ l5) wx)
  case first =>
    cases hss : fd with
    | false =>
      have HE := Lib.hid (E5'.out hss)
      subst hss
      go_wp2_with fail
      go_meet
      exact ⟨rfl, by rw [← HE.out, List.append_nil]; exact R3.out⟩
    | true =>
      have HE := Lib.hid (E5.out hss)
      subst hss
      go_wp2_with fail
      refine (HQ.out _ R3.out.hb).mono ?_; rintro e w4 ⟨rfl, hb4⟩
      have R4 := Lib.hid (R3.out.below hb4)
      clear hb4 c4 c5 lt
      go_wp2_with fail
      refine (R4.out.write ((⟨#[32, 102, 111, 117, 110, 100, 32]⟩ : ByteArray) ++ n6) (by simp only [ByteArray.size_append, List.length_append]; (try have a1 : (⟨#[32]⟩ : ByteArray).size = 1 := rfl); (try have a2 : (⟨#[32, 101, 114, 114, 111, 114, 32]⟩ : ByteArray).size = 7 := rfl); (try have a3 : (⟨#[32, 110, 61]⟩ : ByteArray).size = 3 := rfl); (try have a4 : (⟨#[32, 97, 116, 61]⟩ : ByteArray).size = 4 := rfl); (try have a5 : (⟨#[46]⟩ : ByteArray).size = 1 := rfl); (try have a6 : (⟨#[32, 102, 111, 117, 110, 100, 32]⟩ : ByteArray).size = 7 := rfl); (try have a7 : (⟨#[61]⟩ : ByteArray).size = 1 := rfl); omega)).mono ?_; rintro e w5 ⟨rfl, hr5⟩
      rw [HE.out] at hr5
      have R5 := Lib.hid hr5
      clear hr5
      go_wp2_with fail
      go_meet
      exact ⟨rfl, R5.out⟩
  case rest =>
  obtain ⟨rfl, hR3⟩ := hcut
  rw [← EF.out] at hR3
  have R3 := Lib.hid hR3
  have HNE : Hid (lf ≠ []) := Lib.hid (fun h => by have := congrArg List.length (EF.out.symm.trans h); simp only [List.length_append, List.length_nil] at this; omega)
  have yf : lf.length ≤ 500000 := by rw [EF.out]; simp only [List.length_append]; omega
  clear hR3 c4 c5 lt y1 y2 y3 y4 y5 E1 E2 E2' E3 E3' E4 E4' E5 E5' N0 N1 N2 N3 N4 N5 HQ z0 z1 z2 z3 z4 z5 z6 x1 x2 x3 x4 x5 x6 x7 x8
  generalize wc = W5 at *
  have c6 := R3.out.a6
  have lt := R3.out.lt
  go_wp2_with fail
  clear c6
  go_loopw [59] (fun i wr => ∃ k : Nat, k ≤ P.length ∧ i = .int .i64 k ∧ LR w kd nd er n m c fd VA val.length vc PA P.length pc (lf ++ pairsL (P.take k)) wr) (fun i _ => P.length - (intOf i).toNat)
  case atStart => exact ⟨0, Nat.zero_le _, rfl, by have h := R3.out; simpa [pairsL] using h⟩
  case round =>
    obtain ⟨k, hk, rfl, hr⟩ := hrel
    have R3 := Lib.hid hr
    clear hr lt
    by_cases hlt : k < P.length
    · have tk : decide ((k : Int) < (P.length : Int)) = true := by simpa using hlt
      have lk : (k : Int) < (P.length : Int) := by omega
      have wk : IntKind.i64.wrap ((k : Int) + 1) = (k : Int) + 1 := IntWalk.i64_in _ (by omega)
      have hx : P[k]? = some P[k] := List.getElem?_eq_getElem hlt
      have HT := Lib.hid (pairsL_take hx)
      have hin := HPI.out P[k] (List.getElem_mem hlt)
      obtain ⟨B, O, rfl, lB, hc⟩ := HP.out (by omega)
      have q0 := (R3.out.hb.cell (p := ⟨B, O + k * 2, none⟩) lB).trans (hc (k * 2) _ (rowP_at hx 0 (by omega)))
      have q1 : wr.cell? ⟨B, O + k * 2 + 1, none⟩ = _ := (R3.out.hb.cell (p := ⟨B, O + (k * 2 + 1), none⟩) lB).trans (hc (k * 2 + 1) _ (rowP_at hx 1 (by omega)))
      have hpk : (pairsL (P.take k)).length ≤ 100000 * 1000000 := by
        refine Nat.le_trans (pairsL_len (fun y hy => ?_)) (Nat.mul_le_mul_right _ (by rw [List.length_take]; omega))
        have hy2 := HPI.out y (List.mem_of_mem_take hy)
        exact pairS_size hy2.s1 hy2.s2
      generalize P[k] = x at *
      obtain ⟨key, val2, A, c2⟩ := x
      have q0 : wr.cell? ⟨B, O + k * 2, none⟩ = some (.string key) := q0
      have q1 : wr.cell? ⟨B, O + k * 2 + 1, none⟩ = some (.slice A val2.length c2) := q1
      have hi1 : ByL w A val2 := hin.by_
      have hi2 : isBy val2 := hin.is
      have hi4 : key.size ≤ 100000 := hin.s1
      have hi5 : val2.length ≤ 100000 := hin.s2
      have HQ2 := Lib.hid fun (W : World) (hb : Below w.heap.size w W) => tr_quote A val2 c2 W (hi1.below hb) hi2 hi5
      have HQ1 : Hid (∀ (W : World) (D : Option Addr) (cc : Nat), ByL W D (kL key) → Calls Tryd.prog 5 #[.slice D key.size cc] W fun e w' => e = .returned (.string (strB (quoL (kL key)))) ∧ Below W.heap.size W w') := Lib.hid fun W D cc hb => by
        have h := tr_quote D (kL key) cc W hb (kL_by key) (by rw [kL_len]; exact hi4)
        rwa [kL_len] at h
      have hcvt : ∀ W : World, (convert 9 22 (.string key)).run Tryd.prog W = .ok (.slice (some ⟨W.heap.size, 0, none⟩) key.size (grownCap W key.size 0 5)) (Lib.bytesWorld W 5 key) := fun W => Lib.run_convert_string_bytes W 9 22 5 key Tryd.underlying9 Tryd.underlying22 Tryd.underlying5
      have HBW := Lib.hid fun (W : World) => bytes_below W key
      have HBY := Lib.hid fun (W : World) => bytes_by W key
      have z1 : (strB (quoL (kL key))).size ≤ 400002 := by rw [strB_size]; have := (quoL_len (kL key)).2; rw [kL_len] at this; omega
      have z2 : (strB (quoL val2)).size ≤ 400002 := by rw [strB_size]; have := (quoL_len val2).2; omega
      have HPS : Hid (((⟨#[32]⟩ : ByteArray) ++ strB (quoL (kL key)) ++ (⟨#[61]⟩ : ByteArray) ++ strB (quoL val2)).data.toList = (pairS ⟨key, val2, A, c2⟩).data.toList) := Lib.hid rfl
      clear hx hin lB hc hi1 hi2 hi4 hi5
      generalize strB (quoL (kL key)) = n1 at *
      generalize strB (quoL val2) = n2 at *
      have x1 : ¬ 9223372036854775807 < 1 + n1.size := by omega
      have x2 : ¬ 9223372036854775807 < 1 + n1.size + 1 := by omega
      have x3 : ¬ 9223372036854775807 < 1 + n1.size + 1 + n2.size := by omega
      have hV0 : Below wr.heap.size wr (wr.alloc (.cells #[.string key, .slice A val2.length c2] 42)) := (Below.refl _ _).alloc (Nat.le_refl _) _
      have hV1 : Below wr.heap.size wr (wr.alloc (.cells #[.string key, .slice A val2.length c2] 42)).drew := hV0.drew
      have RD := Lib.hid (R3.out.below hV1)
      have Y0 : Hid ((wr.alloc (.cells #[.string key, .slice A val2.length c2] 42)).drew.cell? ⟨wr.heap.size, 0, none⟩ = some (.string key) ∧ (wr.alloc (.cells #[.string key, .slice A val2.length c2] 42)).drew.cell? ⟨wr.heap.size, 1, none⟩ = some (.slice A val2.length c2) ∧ wr.heap.size < (wr.alloc (.cells #[.string key, .slice A val2.length c2] 42)).drew.heap.size) := Lib.hid ⟨by simp, by simp, by simp⟩
      have HLW := Lib.hid (show w.heap.size + 1 + 1 ≤ wr.heap.size from Nat.le_of_lt R3.out.lt)
      clear hV0 hV1
      go_wp2_with fail
      generalize hVV : (wr.alloc (.cells #[.string key, .slice A val2.length c2] 42)).drew = V0 at Y0 RD
      refine wp_region_held_drew (S := fun _ => True) (by kernel_rfl) trivial (fun hHeld => ?_)
      rw [hVV]
      clear hVV
      refine wpAnyH_take (i := 0) (v := ?_) rfl (by kernel_rfl) (by kernel_rfl) (by kernel_rfl) (fun _ _ _ h => h) (Or.inl ⟨by rfl, ?_⟩) (by assumption) ?_
      rotate_left
      · intro w' hSw; (try dsimp only at hSw); go_simp; (try with_reducible rfl)
      (try simp only [Act.put, List.setIfInBounds_toArray, List.set_cons_zero, List.set_cons_succ, List.getElem_toArray, List.getElem_cons_succ, List.getElem_cons_zero])
      refine wpAnyH_take (i := 6) (v := ?_) rfl (by kernel_rfl) (by kernel_rfl) (by kernel_rfl) (fun _ _ _ h => h) (Or.inl ⟨by rfl, ?_⟩) (by assumption) ?_
      rotate_left
      · intro w' hSw; (try dsimp only at hSw); go_simp; (try with_reducible rfl)
      (try simp only [Act.put, List.setIfInBounds_toArray, List.set_cons_zero, List.set_cons_succ, List.getElem_toArray, List.getElem_cons_succ, List.getElem_cons_zero])
      refine wpAnyH_ready (rs := [1, 7]) (by kernel_rfl) (by simp) ?_
      refine AllReadyH.cons rfl (fun K hK => ?_) (AllReadyH.cons rfl (fun K hK => ?_) (AllReadyH.nil))
      · skip
        have yc0 := Y0.out.1
        have yc1 := Y0.out.2.1
        go_simp
        (try dsimp only)
        refine hK.out _ _ ?_ (fun hHeld => ?_)
        · exact trivial
        clear hK K
        (try simp only [Act.put, List.setIfInBounds_toArray, List.set_cons_zero, List.set_cons_succ, List.getElem_toArray, List.getElem_cons_succ, List.getElem_cons_zero])
        clear yc0 yc1
        refine wpAnyH_ready (rs := [2, 7]) (by kernel_rfl) (by simp) ?_
        refine AllReadyH.cons rfl (fun K hK => ?_) (AllReadyH.cons rfl (fun K hK => ?_) (AllReadyH.nil))
        · skip
          have K1 := Lib.hid (HBY.out V0)
          have hbw := HBW.out V0
          have Y1 := Lib.hid (yz Y0.out hbw)
          have R1 := Lib.hid (RD.out.below hbw)
          clear hbw
          go_simp
          generalize hgw : Lib.bytesWorld V0 5 key = V1 at K1 Y1 R1 ⊢
          clear hgw
          (try dsimp only)
          refine hK.out _ _ ?_ (fun hHeld => ?_)
          · exact trivial
          clear hK K
          (try simp only [Act.put, List.setIfInBounds_toArray, List.set_cons_zero, List.set_cons_succ, List.getElem_toArray, List.getElem_cons_succ, List.getElem_cons_zero])
          refine wpAnyH_ready (rs := [3, 7]) (by kernel_rfl) (by simp) ?_
          refine AllReadyH.cons rfl (fun K hK => ?_) (AllReadyH.cons rfl (fun K hK => ?_) (AllReadyH.nil))
          · skip
            go_simp
            (go_at_call 5; refine (HQ1.out _ _ _ K1.out).mono ?_; rintro e V2 ⟨rfl, hb2⟩; have Y2 := Lib.hid (yz Y1.out hb2); have R2 := Lib.hid (R1.out.below hb2); clear hb2)
            (try dsimp only)
            refine hK.out _ _ ?_ (fun hHeld => ?_)
            · exact trivial
            clear hK K
            (try simp only [Act.put, List.setIfInBounds_toArray, List.set_cons_zero, List.set_cons_succ, List.getElem_toArray, List.getElem_cons_succ, List.getElem_cons_zero])
            refine wpAnyH_take (i := 4) (v := ?_) rfl (by kernel_rfl) (by kernel_rfl) (by kernel_rfl) (fun _ _ _ h => h) (Or.inl ⟨by rfl, ?_⟩) (by assumption) ?_
            rotate_left
            · intro w' hSw; (try dsimp only at hSw); go_simp; (try with_reducible rfl)
            (try simp only [Act.put, List.setIfInBounds_toArray, List.set_cons_zero, List.set_cons_succ, List.getElem_toArray, List.getElem_cons_succ, List.getElem_cons_zero])
            refine wpAnyH_take (i := 5) (v := ?_) rfl (by kernel_rfl) (by kernel_rfl) (by kernel_rfl) (fun _ _ _ h => h) (Or.inl ⟨by rfl, ?_⟩) (by assumption) ?_
            rotate_left
            · intro w' hSw; (try dsimp only at hSw); go_simp; (try with_reducible rfl)
            (try simp only [Act.put, List.setIfInBounds_toArray, List.set_cons_zero, List.set_cons_succ, List.getElem_toArray, List.getElem_cons_succ, List.getElem_cons_zero])
            refine wpAnyH_ready (rs := [7]) (by kernel_rfl) (by simp) ?_
            refine AllReadyH.cons rfl (fun K hK => ?_) (AllReadyH.nil)
            have yc0 := Y2.out.1
            have yc1 := Y2.out.2.1
            go_simp
            (try dsimp only)
            refine hK.out _ _ ?_ (fun hHeld => ?_)
            · exact trivial
            clear hK K
            (try simp only [Act.put, List.setIfInBounds_toArray, List.set_cons_zero, List.set_cons_succ, List.getElem_toArray, List.getElem_cons_succ, List.getElem_cons_zero])
            clear yc0 yc1
            refine wpAnyH_ready (rs := [8]) (by kernel_rfl) (by simp) ?_
            refine AllReadyH.cons rfl (fun K hK => ?_) (AllReadyH.nil)
            go_simp
            (go_at_call 5; refine (HQ2.out _ R2.out.hb).mono ?_; rintro e V3 ⟨rfl, hb3⟩; have Y3 := Lib.hid (yz Y2.out hb3); have R3 := Lib.hid (R2.out.below hb3); clear hb3)
            (try dsimp only)
            refine hK.out _ _ ?_ (fun hHeld => ?_)
            · exact trivial
            clear hK K
            (try simp only [Act.put, List.setIfInBounds_toArray, List.set_cons_zero, List.set_cons_succ, List.getElem_toArray, List.getElem_cons_succ, List.getElem_cons_zero])
            refine wpAnyH_take (i := 9) (v := ?_) rfl (by kernel_rfl) (by kernel_rfl) (by kernel_rfl) (fun _ _ _ h => h) (Or.inl ⟨by rfl, ?_⟩) (by assumption) ?_
            rotate_left
            · intro w' hSw; (try dsimp only at hSw); go_simp; (try with_reducible rfl)
            (try simp only [Act.put, List.setIfInBounds_toArray, List.set_cons_zero, List.set_cons_succ, List.getElem_toArray, List.getElem_cons_succ, List.getElem_cons_zero])
            refine wpAnyH_ready (rs := [10]) (by kernel_rfl) (by simp) ?_
            refine AllReadyH.cons rfl (fun K hK => ?_) (AllReadyH.nil)
            go_simp
            (refine (R3.out.write ((⟨#[32]⟩ : ByteArray) ++ n1 ++ (⟨#[61]⟩ : ByteArray) ++ n2) (by simp only [ByteArray.size_append, List.length_append]; (try have a1 : (⟨#[32]⟩ : ByteArray).size = 1 := rfl); (try have a7 : (⟨#[61]⟩ : ByteArray).size = 1 := rfl); omega)).mono ?_; rintro e V4 ⟨rfl, hr4⟩; have RZ := Lib.hid hr4; clear hr4)
            (try dsimp only)
            refine hK.out _ _ ?_ (fun hHeld => ?_)
            · exact trivial
            clear hK K
            (try simp only [Act.put, List.setIfInBounds_toArray, List.set_cons_zero, List.set_cons_succ, List.getElem_toArray, List.getElem_cons_succ, List.getElem_cons_zero])
            refine wpAnyH_done (by kernel_rfl) ?_ _
            rw [HPS.out, List.append_assoc, ← HT.out] at RZ
            clear Y3 R3
            go_wp2
            go_roundw
            case rel => exact ⟨k + 1, by omega, by go_num, RZ.out⟩
            case measure => simp [intOf]; omega
          · skip
            have yc0 := Y1.out.1
            have yc1 := Y1.out.2.1
            go_simp
            (try dsimp only)
            refine hK.out _ _ ?_ (fun hHeld => ?_)
            · exact trivial
            clear hK K
            (try simp only [Act.put, List.setIfInBounds_toArray, List.set_cons_zero, List.set_cons_succ, List.getElem_toArray, List.getElem_cons_succ, List.getElem_cons_zero])
            clear yc0 yc1
            refine wpAnyH_ready (rs := [3]) (by kernel_rfl) (by simp) ?_
            refine AllReadyH.cons rfl (fun K hK => ?_) (AllReadyH.nil)
            go_simp
            (go_at_call 5; refine (HQ1.out _ _ _ K1.out).mono ?_; rintro e V2 ⟨rfl, hb2⟩; have Y2 := Lib.hid (yz Y1.out hb2); have R2 := Lib.hid (R1.out.below hb2); clear hb2)
            (try dsimp only)
            refine hK.out _ _ ?_ (fun hHeld => ?_)
            · exact trivial
            clear hK K
            (try simp only [Act.put, List.setIfInBounds_toArray, List.set_cons_zero, List.set_cons_succ, List.getElem_toArray, List.getElem_cons_succ, List.getElem_cons_zero])
            refine wpAnyH_take (i := 4) (v := ?_) rfl (by kernel_rfl) (by kernel_rfl) (by kernel_rfl) (fun _ _ _ h => h) (Or.inl ⟨by rfl, ?_⟩) (by assumption) ?_
            rotate_left
            · intro w' hSw; (try dsimp only at hSw); go_simp; (try with_reducible rfl)
            (try simp only [Act.put, List.setIfInBounds_toArray, List.set_cons_zero, List.set_cons_succ, List.getElem_toArray, List.getElem_cons_succ, List.getElem_cons_zero])
            refine wpAnyH_take (i := 5) (v := ?_) rfl (by kernel_rfl) (by kernel_rfl) (by kernel_rfl) (fun _ _ _ h => h) (Or.inl ⟨by rfl, ?_⟩) (by assumption) ?_
            rotate_left
            · intro w' hSw; (try dsimp only at hSw); go_simp; (try with_reducible rfl)
            (try simp only [Act.put, List.setIfInBounds_toArray, List.set_cons_zero, List.set_cons_succ, List.getElem_toArray, List.getElem_cons_succ, List.getElem_cons_zero])
            refine wpAnyH_ready (rs := [8]) (by kernel_rfl) (by simp) ?_
            refine AllReadyH.cons rfl (fun K hK => ?_) (AllReadyH.nil)
            go_simp
            (go_at_call 5; refine (HQ2.out _ R2.out.hb).mono ?_; rintro e V3 ⟨rfl, hb3⟩; have Y3 := Lib.hid (yz Y2.out hb3); have R3 := Lib.hid (R2.out.below hb3); clear hb3)
            (try dsimp only)
            refine hK.out _ _ ?_ (fun hHeld => ?_)
            · exact trivial
            clear hK K
            (try simp only [Act.put, List.setIfInBounds_toArray, List.set_cons_zero, List.set_cons_succ, List.getElem_toArray, List.getElem_cons_succ, List.getElem_cons_zero])
            refine wpAnyH_take (i := 9) (v := ?_) rfl (by kernel_rfl) (by kernel_rfl) (by kernel_rfl) (fun _ _ _ h => h) (Or.inl ⟨by rfl, ?_⟩) (by assumption) ?_
            rotate_left
            · intro w' hSw; (try dsimp only at hSw); go_simp; (try with_reducible rfl)
            (try simp only [Act.put, List.setIfInBounds_toArray, List.set_cons_zero, List.set_cons_succ, List.getElem_toArray, List.getElem_cons_succ, List.getElem_cons_zero])
            refine wpAnyH_ready (rs := [10]) (by kernel_rfl) (by simp) ?_
            refine AllReadyH.cons rfl (fun K hK => ?_) (AllReadyH.nil)
            go_simp
            (refine (R3.out.write ((⟨#[32]⟩ : ByteArray) ++ n1 ++ (⟨#[61]⟩ : ByteArray) ++ n2) (by simp only [ByteArray.size_append, List.length_append]; (try have a1 : (⟨#[32]⟩ : ByteArray).size = 1 := rfl); (try have a7 : (⟨#[61]⟩ : ByteArray).size = 1 := rfl); omega)).mono ?_; rintro e V4 ⟨rfl, hr4⟩; have RZ := Lib.hid hr4; clear hr4)
            (try dsimp only)
            refine hK.out _ _ ?_ (fun hHeld => ?_)
            · exact trivial
            clear hK K
            (try simp only [Act.put, List.setIfInBounds_toArray, List.set_cons_zero, List.set_cons_succ, List.getElem_toArray, List.getElem_cons_succ, List.getElem_cons_zero])
            refine wpAnyH_done (by kernel_rfl) ?_ _
            rw [HPS.out, List.append_assoc, ← HT.out] at RZ
            clear Y3 R3
            go_wp2
            go_roundw
            case rel => exact ⟨k + 1, by omega, by go_num, RZ.out⟩
            case measure => simp [intOf]; omega
        · skip
          have yc0 := Y0.out.1
          have yc1 := Y0.out.2.1
          go_simp
          (try dsimp only)
          refine hK.out _ _ ?_ (fun hHeld => ?_)
          · exact trivial
          clear hK K
          (try simp only [Act.put, List.setIfInBounds_toArray, List.set_cons_zero, List.set_cons_succ, List.getElem_toArray, List.getElem_cons_succ, List.getElem_cons_zero])
          clear yc0 yc1
          refine wpAnyH_ready (rs := [2]) (by kernel_rfl) (by simp) ?_
          refine AllReadyH.cons rfl (fun K hK => ?_) (AllReadyH.nil)
          have K1 := Lib.hid (HBY.out V0)
          have hbw := HBW.out V0
          have Y1 := Lib.hid (yz Y0.out hbw)
          have R1 := Lib.hid (RD.out.below hbw)
          clear hbw
          go_simp
          generalize hgw : Lib.bytesWorld V0 5 key = V1 at K1 Y1 R1 ⊢
          clear hgw
          (try dsimp only)
          refine hK.out _ _ ?_ (fun hHeld => ?_)
          · exact trivial
          clear hK K
          (try simp only [Act.put, List.setIfInBounds_toArray, List.set_cons_zero, List.set_cons_succ, List.getElem_toArray, List.getElem_cons_succ, List.getElem_cons_zero])
          refine wpAnyH_ready (rs := [3]) (by kernel_rfl) (by simp) ?_
          refine AllReadyH.cons rfl (fun K hK => ?_) (AllReadyH.nil)
          go_simp
          (go_at_call 5; refine (HQ1.out _ _ _ K1.out).mono ?_; rintro e V2 ⟨rfl, hb2⟩; have Y2 := Lib.hid (yz Y1.out hb2); have R2 := Lib.hid (R1.out.below hb2); clear hb2)
          (try dsimp only)
          refine hK.out _ _ ?_ (fun hHeld => ?_)
          · exact trivial
          clear hK K
          (try simp only [Act.put, List.setIfInBounds_toArray, List.set_cons_zero, List.set_cons_succ, List.getElem_toArray, List.getElem_cons_succ, List.getElem_cons_zero])
          refine wpAnyH_take (i := 4) (v := ?_) rfl (by kernel_rfl) (by kernel_rfl) (by kernel_rfl) (fun _ _ _ h => h) (Or.inl ⟨by rfl, ?_⟩) (by assumption) ?_
          rotate_left
          · intro w' hSw; (try dsimp only at hSw); go_simp; (try with_reducible rfl)
          (try simp only [Act.put, List.setIfInBounds_toArray, List.set_cons_zero, List.set_cons_succ, List.getElem_toArray, List.getElem_cons_succ, List.getElem_cons_zero])
          refine wpAnyH_take (i := 5) (v := ?_) rfl (by kernel_rfl) (by kernel_rfl) (by kernel_rfl) (fun _ _ _ h => h) (Or.inl ⟨by rfl, ?_⟩) (by assumption) ?_
          rotate_left
          · intro w' hSw; (try dsimp only at hSw); go_simp; (try with_reducible rfl)
          (try simp only [Act.put, List.setIfInBounds_toArray, List.set_cons_zero, List.set_cons_succ, List.getElem_toArray, List.getElem_cons_succ, List.getElem_cons_zero])
          refine wpAnyH_ready (rs := [8]) (by kernel_rfl) (by simp) ?_
          refine AllReadyH.cons rfl (fun K hK => ?_) (AllReadyH.nil)
          go_simp
          (go_at_call 5; refine (HQ2.out _ R2.out.hb).mono ?_; rintro e V3 ⟨rfl, hb3⟩; have Y3 := Lib.hid (yz Y2.out hb3); have R3 := Lib.hid (R2.out.below hb3); clear hb3)
          (try dsimp only)
          refine hK.out _ _ ?_ (fun hHeld => ?_)
          · exact trivial
          clear hK K
          (try simp only [Act.put, List.setIfInBounds_toArray, List.set_cons_zero, List.set_cons_succ, List.getElem_toArray, List.getElem_cons_succ, List.getElem_cons_zero])
          refine wpAnyH_take (i := 9) (v := ?_) rfl (by kernel_rfl) (by kernel_rfl) (by kernel_rfl) (fun _ _ _ h => h) (Or.inl ⟨by rfl, ?_⟩) (by assumption) ?_
          rotate_left
          · intro w' hSw; (try dsimp only at hSw); go_simp; (try with_reducible rfl)
          (try simp only [Act.put, List.setIfInBounds_toArray, List.set_cons_zero, List.set_cons_succ, List.getElem_toArray, List.getElem_cons_succ, List.getElem_cons_zero])
          refine wpAnyH_ready (rs := [10]) (by kernel_rfl) (by simp) ?_
          refine AllReadyH.cons rfl (fun K hK => ?_) (AllReadyH.nil)
          go_simp
          (refine (R3.out.write ((⟨#[32]⟩ : ByteArray) ++ n1 ++ (⟨#[61]⟩ : ByteArray) ++ n2) (by simp only [ByteArray.size_append, List.length_append]; (try have a1 : (⟨#[32]⟩ : ByteArray).size = 1 := rfl); (try have a7 : (⟨#[61]⟩ : ByteArray).size = 1 := rfl); omega)).mono ?_; rintro e V4 ⟨rfl, hr4⟩; have RZ := Lib.hid hr4; clear hr4)
          (try dsimp only)
          refine hK.out _ _ ?_ (fun hHeld => ?_)
          · exact trivial
          clear hK K
          (try simp only [Act.put, List.setIfInBounds_toArray, List.set_cons_zero, List.set_cons_succ, List.getElem_toArray, List.getElem_cons_succ, List.getElem_cons_zero])
          refine wpAnyH_done (by kernel_rfl) ?_ _
          rw [HPS.out, List.append_assoc, ← HT.out] at RZ
          clear Y3 R3
          go_wp2
          go_roundw
          case rel => exact ⟨k + 1, by omega, by go_num, RZ.out⟩
          case measure => simp [intOf]; omega
      · skip
        have yc0 := Y0.out.1
        have yc1 := Y0.out.2.1
        go_simp
        (try dsimp only)
        refine hK.out _ _ ?_ (fun hHeld => ?_)
        · exact trivial
        clear hK K
        (try simp only [Act.put, List.setIfInBounds_toArray, List.set_cons_zero, List.set_cons_succ, List.getElem_toArray, List.getElem_cons_succ, List.getElem_cons_zero])
        clear yc0 yc1
        refine wpAnyH_ready (rs := [1]) (by kernel_rfl) (by simp) ?_
        refine AllReadyH.cons rfl (fun K hK => ?_) (AllReadyH.nil)
        have yc0 := Y0.out.1
        have yc1 := Y0.out.2.1
        go_simp
        (try dsimp only)
        refine hK.out _ _ ?_ (fun hHeld => ?_)
        · exact trivial
        clear hK K
        (try simp only [Act.put, List.setIfInBounds_toArray, List.set_cons_zero, List.set_cons_succ, List.getElem_toArray, List.getElem_cons_succ, List.getElem_cons_zero])
        clear yc0 yc1
        refine wpAnyH_ready (rs := [2]) (by kernel_rfl) (by simp) ?_
        refine AllReadyH.cons rfl (fun K hK => ?_) (AllReadyH.nil)
        have K1 := Lib.hid (HBY.out V0)
        have hbw := HBW.out V0
        have Y1 := Lib.hid (yz Y0.out hbw)
        have R1 := Lib.hid (RD.out.below hbw)
        clear hbw
        go_simp
        generalize hgw : Lib.bytesWorld V0 5 key = V1 at K1 Y1 R1 ⊢
        clear hgw
        (try dsimp only)
        refine hK.out _ _ ?_ (fun hHeld => ?_)
        · exact trivial
        clear hK K
        (try simp only [Act.put, List.setIfInBounds_toArray, List.set_cons_zero, List.set_cons_succ, List.getElem_toArray, List.getElem_cons_succ, List.getElem_cons_zero])
        refine wpAnyH_ready (rs := [3]) (by kernel_rfl) (by simp) ?_
        refine AllReadyH.cons rfl (fun K hK => ?_) (AllReadyH.nil)
        go_simp
        (go_at_call 5; refine (HQ1.out _ _ _ K1.out).mono ?_; rintro e V2 ⟨rfl, hb2⟩; have Y2 := Lib.hid (yz Y1.out hb2); have R2 := Lib.hid (R1.out.below hb2); clear hb2)
        (try dsimp only)
        refine hK.out _ _ ?_ (fun hHeld => ?_)
        · exact trivial
        clear hK K
        (try simp only [Act.put, List.setIfInBounds_toArray, List.set_cons_zero, List.set_cons_succ, List.getElem_toArray, List.getElem_cons_succ, List.getElem_cons_zero])
        refine wpAnyH_take (i := 4) (v := ?_) rfl (by kernel_rfl) (by kernel_rfl) (by kernel_rfl) (fun _ _ _ h => h) (Or.inl ⟨by rfl, ?_⟩) (by assumption) ?_
        rotate_left
        · intro w' hSw; (try dsimp only at hSw); go_simp; (try with_reducible rfl)
        (try simp only [Act.put, List.setIfInBounds_toArray, List.set_cons_zero, List.set_cons_succ, List.getElem_toArray, List.getElem_cons_succ, List.getElem_cons_zero])
        refine wpAnyH_take (i := 5) (v := ?_) rfl (by kernel_rfl) (by kernel_rfl) (by kernel_rfl) (fun _ _ _ h => h) (Or.inl ⟨by rfl, ?_⟩) (by assumption) ?_
        rotate_left
        · intro w' hSw; (try dsimp only at hSw); go_simp; (try with_reducible rfl)
        (try simp only [Act.put, List.setIfInBounds_toArray, List.set_cons_zero, List.set_cons_succ, List.getElem_toArray, List.getElem_cons_succ, List.getElem_cons_zero])
        refine wpAnyH_ready (rs := [8]) (by kernel_rfl) (by simp) ?_
        refine AllReadyH.cons rfl (fun K hK => ?_) (AllReadyH.nil)
        go_simp
        (go_at_call 5; refine (HQ2.out _ R2.out.hb).mono ?_; rintro e V3 ⟨rfl, hb3⟩; have Y3 := Lib.hid (yz Y2.out hb3); have R3 := Lib.hid (R2.out.below hb3); clear hb3)
        (try dsimp only)
        refine hK.out _ _ ?_ (fun hHeld => ?_)
        · exact trivial
        clear hK K
        (try simp only [Act.put, List.setIfInBounds_toArray, List.set_cons_zero, List.set_cons_succ, List.getElem_toArray, List.getElem_cons_succ, List.getElem_cons_zero])
        refine wpAnyH_take (i := 9) (v := ?_) rfl (by kernel_rfl) (by kernel_rfl) (by kernel_rfl) (fun _ _ _ h => h) (Or.inl ⟨by rfl, ?_⟩) (by assumption) ?_
        rotate_left
        · intro w' hSw; (try dsimp only at hSw); go_simp; (try with_reducible rfl)
        (try simp only [Act.put, List.setIfInBounds_toArray, List.set_cons_zero, List.set_cons_succ, List.getElem_toArray, List.getElem_cons_succ, List.getElem_cons_zero])
        refine wpAnyH_ready (rs := [10]) (by kernel_rfl) (by simp) ?_
        refine AllReadyH.cons rfl (fun K hK => ?_) (AllReadyH.nil)
        go_simp
        (refine (R3.out.write ((⟨#[32]⟩ : ByteArray) ++ n1 ++ (⟨#[61]⟩ : ByteArray) ++ n2) (by simp only [ByteArray.size_append, List.length_append]; (try have a1 : (⟨#[32]⟩ : ByteArray).size = 1 := rfl); (try have a7 : (⟨#[61]⟩ : ByteArray).size = 1 := rfl); omega)).mono ?_; rintro e V4 ⟨rfl, hr4⟩; have RZ := Lib.hid hr4; clear hr4)
        (try dsimp only)
        refine hK.out _ _ ?_ (fun hHeld => ?_)
        · exact trivial
        clear hK K
        (try simp only [Act.put, List.setIfInBounds_toArray, List.set_cons_zero, List.set_cons_succ, List.getElem_toArray, List.getElem_cons_succ, List.getElem_cons_zero])
        refine wpAnyH_done (by kernel_rfl) ?_ _
        rw [HPS.out, List.append_assoc, ← HT.out] at RZ
        clear Y3 R3
        go_wp2
        go_roundw
        case rel => exact ⟨k + 1, by omega, by go_num, RZ.out⟩
        case measure => simp [intOf]; omega
    · obtain rfl : k = P.length := by omega
      have tk : decide ((P.length : Int) < (P.length : Int)) = false := by simp
      have hbl := R3.out.bl
      rw [List.take_length, ← EL.out] at hbl
      have HS := Lib.hid (bld_string _ _ ll wr hbl (by rw [EL.out]; simp [HNE.out]))
      have HB := Lib.hid R3.out.hb
      clear hbl R3
      go_wp2_with fail
      refine HS.out.mono ?_; rintro e w9 ⟨rfl, hb9⟩
      have HF := Lib.hid (HB.out.trans (hb9.mono (by omega)))
      clear hb9
      go_wp2
      go_ret
      exact ⟨rfl, HF.out⟩
end Go.Proofs.YtelabakcadhffaaDoor
