/- trace.Lines of rows of steps and answers (written by gen/trlines.py). -/
import Derived.Test.YtelabakcadhffaaDoorTrLine
import Derived.Test.YtelabakcadhffaaDoorArgRows
set_option linter.unusedSimpArgs false
set_option linter.unusedVariables false
namespace Go.Proofs.YtelabakcadhffaaDoor
open Go.RowKit Go.Sort Go.Deep

/-- A step. -/
structure Sp where
  kd : Int
  nd : Int
  s2 : Int
  s3 : Int
  s4 : Int
  s5 : Int
  s6 : Int
  k1 : ByteArray
  k2 : ByteArray
  KA : Option Addr
  kn : Nat
  kc : Nat
def Sp.cs (x : Sp) : List Value := [.int .i64 x.kd, .int .i64 x.nd, .int .i64 x.s2, .int .i64 x.s3, .int .u8 x.s4, .int .i64 x.s5, .int .i64 x.s6, .string x.k1, .string x.k2, .slice x.KA x.kn x.kc]
theorem Sp.len (x : Sp) : x.cs.length = 10 := rfl
abbrev In64 (q : Int) : Prop := -9223372036854775808 ≤ q ∧ q ≤ 9223372036854775807
structure Sp.Ok (x : Sp) : Prop where
  b0 : In64 x.kd
  b1 : In64 x.nd
/-- An answer. -/
structure An where
  er : Int
  n : Int
  m : Int
  c : Int
  fd : Bool
  VA : Option Addr
  val : List Int
  vc : Nat
  PA : Option Addr
  P : List Pa
  pc : Nat
def An.cs (x : An) : List Value := [.int .i64 x.er, .int .i64 x.n, .int .i64 x.m, .int .i64 x.c, .bool x.fd, .slice x.VA x.val.length x.vc, .slice x.PA x.P.length x.pc]
theorem An.len (x : An) : x.cs.length = 7 := rfl
structure An.In (w : World) (x : An) : Prop where
  b2 : In64 x.er
  b3 : In64 x.n
  b4 : In64 x.m
  b5 : In64 x.c
  by_ : ByL w x.VA x.val
  is : isBy x.val
  vl : x.val.length ≤ 100000
  row : RowPa w x.PA x.P
  ins : ∀ y ∈ x.P, y.In w
  pl : x.P.length ≤ 100000
theorem An.In.below {w w' : World} {x : An} (h : x.In w) (k : Below w.heap.size w w') : x.In w' := { h with by_ := h.by_.below k, row := h.row.below k, ins := fun y hy => (h.ins y hy).below k }
def lineOf (q : Sp × An) : List UInt8 := lineL q.1.kd q.1.nd q.2.er q.2.n q.2.m q.2.c q.2.fd q.2.val q.2.P
def linesL (Z : List (Sp × An)) : List UInt8 := Z.flatMap fun q => lineOf q ++ [10]
theorem linesL_append (a b : List (Sp × An)) : linesL (a ++ b) = linesL a ++ linesL b := by simp [linesL]
theorem linesL_take {Z : List (Sp × An)} {k : Nat} {x : Sp × An} (h : Z[k]? = some x) : linesL (Z.take (k + 1)) = linesL (Z.take k) ++ (lineOf x ++ [10]) := by
  have hk := (List.getElem?_eq_some_iff.1 h).1
  rw [List.take_succ_eq_append_getElem hk]
  rw [List.getElem?_eq_getElem hk] at h
  injection h with h
  rw [h]
  simp [linesL]
theorem line_len {kd nd er n m c : Int} {fd : Bool} {val : List Int} {P : List Pa} (b0 : In64 kd) (b1 : In64 nd) (b2 : In64 er) (b3 : In64 n) (b4 : In64 m) (b5 : In64 c) (hv : val.length ≤ 100000) (hP : ∀ y ∈ P, y.key.size ≤ 100000 ∧ y.val.length ≤ 100000) (hl : P.length ≤ 100000) : (lineL kd nd er n m c fd val P).length ≤ 200000000000 := by
  have z0 := numS_size kd b0.2
  have z1 := numS_size nd b1.2
  have z2 := numS_size er b2.2
  have z3 := numS_size n b3.2
  have z4 := numS_size m b4.2
  have z5 := numS_size c b5.2
  have z6 : (strB (quoL val)).size ≤ 400002 := by rw [strB_size]; have := (quoL_len val).2; omega
  have y1 : (headL kd nd).length ≤ 100 := by unfold headL; rw [size_list, ByteArray.size_append, ByteArray.size_append]; have a1 : (⟨#[32]⟩ : ByteArray).size = 1 := rfl; omega
  have y2 : (errL er).length ≤ 100 := by
    unfold errL; split
    · simp
    · rw [size_list, ByteArray.size_append]; have a1 : (⟨#[32, 101, 114, 114, 111, 114, 32]⟩ : ByteArray).size = 7 := rfl; omega
  have y3 : (nL n).length ≤ 100 := by
    unfold nL; split
    · rw [size_list, ByteArray.size_append]; have a1 : (⟨#[32, 110, 61]⟩ : ByteArray).size = 3 := rfl; omega
    · simp
  have y4 : (stL m c).length ≤ 100 := by
    unfold stL; split
    · simp
    · rw [size_list, ByteArray.size_append, ByteArray.size_append, ByteArray.size_append]; have a1 : (⟨#[32, 97, 116, 61]⟩ : ByteArray).size = 4 := rfl; have a2 : (⟨#[46]⟩ : ByteArray).size = 1 := rfl; omega
  have y5 : (fdL fd val).length ≤ 400100 := by
    unfold fdL; split
    · rw [size_list, ByteArray.size_append]; have a1 : (⟨#[32, 102, 111, 117, 110, 100, 32]⟩ : ByteArray).size = 7 := rfl; omega
    · simp
  have y6 := pairsL_len (L := P) (fun y hy => pairS_size (hP y hy).1 (hP y hy).2)
  unfold lineL frontL
  simp only [List.length_append]
  omega
theorem linesL_len : ∀ {Z : List (Sp × An)}, (∀ q ∈ Z, (lineOf q).length ≤ 200000000000) → (linesL Z).length ≤ Z.length * 200000000001
  | [], _ => by simp [linesL]
  | q :: t, h => by
    have h1 := linesL_len (Z := t) (fun y hy => h y (by simp [hy]))
    have h2 := h q (by simp)
    show ((lineOf q ++ [10]) ++ linesL t).length ≤ (t.length + 1) * 200000000001
    rw [List.length_append, List.length_append, List.length_singleton]
    omega
/-- What is held while lines are made. -/
structure LS (w0 : World) (L : List UInt8) (wx : World) : Prop where
  bl : Lib.IsBuilder 45 5 w0.heap.size w0.heap.size (Lib.byteCells L) wx
  hb : Below w0.heap.size w0 wx
  lt : w0.heap.size < wx.heap.size
theorem LS.below {w0 wx wy : World} {L : List UInt8} (h : LS w0 L wx) (k : Below wx.heap.size wx wy) : LS w0 L wy := ⟨bld_below h.bl k, h.hb.trans (k.mono h.hb.size), Nat.lt_of_lt_of_le h.lt k.size⟩
theorem LS.write {w0 : World} {L : List UInt8} {wx : World} (h : LS w0 L wx) (s : ByteArray) (hs : L.length + s.size ≤ 140737488355328) :
    Calls Tryd.prog 11 #[.pointer (some ⟨w0.heap.size, 0, none⟩), .string s] wx fun e w' => e = .returned (.tuple #[.int .i64 s.size, .nilIface]) ∧ LS w0 (L ++ s.data.toList) w' ∧ Below w0.heap.size wx w' :=
  (bld_write _ _ _ s wx h.bl (by rw [Lib.byteCells_length]; exact hs) h.hb.size).mono fun e w' ⟨h1, h2, h3⟩ => ⟨h1, ⟨.inr (by rw [Lib.byteCells_append, ← Lib.strCells_eq]; exact h2), h.hb.trans h3, Nat.lt_of_lt_of_le h.lt h3.size⟩, h3⟩
theorem LS.start (w : World) : LS w [] (w.alloc (.cells #[.pointer none, .slice none 0 0] 45)) :=
  ⟨.inl ⟨Nat.le_refl _, .slice none 0 0, heap_alloc_new w _, World.ownsRow_nil _ _ _ _, by simp [Value.ownBlock]⟩, by (repeat' (first | (with_reducible exact Below.refl _ _) | (with_reducible assumption) | (with_reducible refine Below.trans ?_ (Below.mono (by with_reducible assumption) ?_)) | (with_reducible refine Below.alloc ?_ ?_ _) | (with_reducible refine Below.setCell ?_ ?_ _) | (with_reducible refine below_drewN ?_ _) | (with_reducible refine Below.drew ?_) | go_size)), by simp⟩
set_option maxHeartbeats 1000000 in
theorem tr_lines0 (SA AA : Option Addr) (n n' sc ac : Nat) (w : World) (h : n = 0 ∨ n' = 0) (hn : n ≤ 100) (hn' : n' ≤ 100) :
    Calls Tryd.prog 9 #[.slice SA n sc, .slice AA n' ac] w fun e w' => e = .returned (.string ⟨#[]⟩) ∧ Below w.heap.size w w' := by
  have HS := Lib.hid (Any.Builder_String_nil Tryd.lays169 bld_extra (w.alloc (.cells #[.pointer none, .slice none 0 0] 45)).heap.size w.heap.size (.pointer none) (w.alloc (.cells #[.pointer none, .slice none 0 0] 45)) (heap_alloc_new w _))
  have HB0 : Hid (Below w.heap.size w (w.alloc (.cells #[.pointer none, .slice none 0 0] 45))) := Lib.hid (by (repeat' (first | (with_reducible exact Below.refl _ _) | (with_reducible assumption) | (with_reducible refine Below.trans ?_ (Below.mono (by with_reducible assumption) ?_)) | (with_reducible refine Below.alloc ?_ ?_ _) | (with_reducible refine Below.setCell ?_ ?_ _) | (with_reducible refine below_drewN ?_ _) | (with_reducible refine Below.drew ?_) | go_size)))
  have hz : min (n : Int) (n' : Int) = 0 := by omega
  have hlt : ¬ (0 : Int) < min (n : Int) (n' : Int) := by omega
  have hni : (n : Int) ≤ 100 := by omega
  have hni' : (n' : Int) ≤ 100 := by omega
  rcases h with rfl | rfl
  · clear hz hlt
    go_enter Tryd.func9, Tryd.ntmps9
    go_wp2_with fail
    refine wp_loop_rounds 1 ?_
    rw [rounds_succ]
    go_wp2_with fail
    refine HS.out.mono ?_; rintro e w1 ⟨rfl, hb1⟩
    have HF := Lib.hid (HB0.out.trans (hb1.mono HB0.out.size))
    clear hb1
    go_wp2
    go_ret
    exact ⟨rfl, HF.out⟩
  · clear hz hlt
    go_enter Tryd.func9, Tryd.ntmps9
    go_wp2_with fail
    refine wp_loop_rounds 1 ?_
    rw [rounds_succ]
    go_wp2_with fail
    refine HS.out.mono ?_; rintro e w1 ⟨rfl, hb1⟩
    have HF := Lib.hid (HB0.out.trans (hb1.mono HB0.out.size))
    clear hb1
    go_wp2
    go_ret
    exact ⟨rfl, HF.out⟩
set_option maxRecDepth 100000 in
set_option maxHeartbeats 8000000 in
theorem tr_lines (SA AA : Option Addr) (S : List Sp) (A : List An) (n sc ac : Nat) (w : World) (ht : Tab w) (hS : RowG Sp.cs w SA S) (hA : RowG An.cs w AA A) (hs : S.length = n) (ha : A.length = n) (hn : n ≤ 100) (h0 : 0 < n) (hSo : ∀ x ∈ S, x.Ok) (hAo : ∀ x ∈ A, x.In w) :
    Calls Tryd.prog 9 #[.slice SA n sc, .slice AA n ac] w fun e w' => e = .returned (.string ⟨(linesL (S.zip A)).toArray⟩) ∧ Below w.heap.size w w' := by
  have R0 := Lib.hid (LS.start w)
  obtain ⟨SB, SO, rfl, lSB, hSc⟩ := hS (by omega)
  obtain ⟨AB, AO, rfl, lAB, hAc⟩ := hA (by omega)
  have HSC := Lib.hid hSc
  have HAC := Lib.hid hAc
  have HSO := Lib.hid hSo
  have HAO := Lib.hid hAo
  have HT := Lib.hid ht
  have HZL : Hid ((S.zip A).length = n) := Lib.hid (by rw [List.length_zip]; omega)
  have HQ : Hid (∀ q ∈ S.zip A, (lineOf q).length ≤ 200000000000) := Lib.hid (fun q hq => by
    have h1 := hSo q.1 (List.of_mem_zip hq).1
    have h2 := hAo q.2 (List.of_mem_zip hq).2
    exact line_len h1.b0 h1.b1 h2.b2 h2.b3 h2.b4 h2.b5 h2.vl (fun y hy => ⟨(h2.ins y hy).s1, (h2.ins y hy).s2⟩) h2.pl)
  have HSL := Lib.hid hs
  have HAL := Lib.hid ha
  have hni : (n : Int) ≤ 100 := by omega
  have hmin : min (n : Int) (n : Int) = n := by omega
  clear hS hA hSc hAc hSo hAo ht hs ha
  go_enter Tryd.func9, Tryd.ntmps9
  go_wp2_with fail
  go_loopw [12] (fun i wr => ∃ k : Nat, k ≤ n ∧ i = .int .i64 k ∧ LS w (linesL ((S.zip A).take k)) wr) (fun i _ => n - (intOf i).toNat)
  case atStart => exact ⟨0, Nat.zero_le _, rfl, by have h := R0.out; simpa [linesL] using h⟩
  case round =>
    obtain ⟨k, hk, rfl, hr⟩ := hrel
    clear R0
    by_cases hlt : k < n
    · have tk : decide ((k : Int) < (n : Int)) = true := by simpa using hlt
      have lk : (k : Int) < (n : Int) := by omega
      have wk : IntKind.i64.wrap ((k : Int) + 1) = (k : Int) + 1 := IntWalk.i64_in _ (by omega)
      have hks : k < S.length := by rw [HSL.out]; exact hlt
      have hka : k < A.length := by rw [HAL.out]; exact hlt
      have hx : S[k]? = some S[k] := List.getElem?_eq_getElem hks
      have hy : A[k]? = some A[k] := List.getElem?_eq_getElem hka
      have hxo := HSO.out _ (List.getElem_mem hks)
      have hyo := (HAO.out _ (List.getElem_mem hka)).below hr.hb
      have hz : (S.zip A)[k]? = some (S[k], A[k]) := by rw [List.getElem?_zip_eq_some]; exact ⟨hx, hy⟩
      have HZ := Lib.hid (linesL_take hz)
      have hlk : (linesL ((S.zip A).take k)).length ≤ 100 * 200000000001 := by
        refine Nat.le_trans (linesL_len (fun q hq => HQ.out q (List.mem_of_mem_take hq))) (Nat.mul_le_mul_right _ ?_)
        rw [List.length_take, HZL.out]; omega
      have hll := HQ.out _ (List.mem_of_getElem? hz)
      have p0 : wr.cell? ⟨SB, SO + k * 10, none⟩ = S[k].cs[0]? := (hr.hb.cell (p := ⟨SB, SO + (k * 10 + 0), none⟩) lSB).trans ((HSC.out (k * 10 + 0) _ ((fm_at Sp.cs 10 Sp.len hx 0 (by omega)).trans (List.getElem?_eq_getElem (by rw [Sp.len]; omega)))).trans (List.getElem?_eq_getElem (by rw [Sp.len]; omega)).symm)
      have p1 : wr.cell? ⟨SB, SO + k * 10 + 1, none⟩ = S[k].cs[1]? := (hr.hb.cell (p := ⟨SB, SO + (k * 10 + 1), none⟩) lSB).trans ((HSC.out (k * 10 + 1) _ ((fm_at Sp.cs 10 Sp.len hx 1 (by omega)).trans (List.getElem?_eq_getElem (by rw [Sp.len]; omega)))).trans (List.getElem?_eq_getElem (by rw [Sp.len]; omega)).symm)
      have p2 : wr.cell? ⟨SB, SO + k * 10 + 2, none⟩ = S[k].cs[2]? := (hr.hb.cell (p := ⟨SB, SO + (k * 10 + 2), none⟩) lSB).trans ((HSC.out (k * 10 + 2) _ ((fm_at Sp.cs 10 Sp.len hx 2 (by omega)).trans (List.getElem?_eq_getElem (by rw [Sp.len]; omega)))).trans (List.getElem?_eq_getElem (by rw [Sp.len]; omega)).symm)
      have p3 : wr.cell? ⟨SB, SO + k * 10 + 3, none⟩ = S[k].cs[3]? := (hr.hb.cell (p := ⟨SB, SO + (k * 10 + 3), none⟩) lSB).trans ((HSC.out (k * 10 + 3) _ ((fm_at Sp.cs 10 Sp.len hx 3 (by omega)).trans (List.getElem?_eq_getElem (by rw [Sp.len]; omega)))).trans (List.getElem?_eq_getElem (by rw [Sp.len]; omega)).symm)
      have p4 : wr.cell? ⟨SB, SO + k * 10 + 4, none⟩ = S[k].cs[4]? := (hr.hb.cell (p := ⟨SB, SO + (k * 10 + 4), none⟩) lSB).trans ((HSC.out (k * 10 + 4) _ ((fm_at Sp.cs 10 Sp.len hx 4 (by omega)).trans (List.getElem?_eq_getElem (by rw [Sp.len]; omega)))).trans (List.getElem?_eq_getElem (by rw [Sp.len]; omega)).symm)
      have p5 : wr.cell? ⟨SB, SO + k * 10 + 5, none⟩ = S[k].cs[5]? := (hr.hb.cell (p := ⟨SB, SO + (k * 10 + 5), none⟩) lSB).trans ((HSC.out (k * 10 + 5) _ ((fm_at Sp.cs 10 Sp.len hx 5 (by omega)).trans (List.getElem?_eq_getElem (by rw [Sp.len]; omega)))).trans (List.getElem?_eq_getElem (by rw [Sp.len]; omega)).symm)
      have p6 : wr.cell? ⟨SB, SO + k * 10 + 6, none⟩ = S[k].cs[6]? := (hr.hb.cell (p := ⟨SB, SO + (k * 10 + 6), none⟩) lSB).trans ((HSC.out (k * 10 + 6) _ ((fm_at Sp.cs 10 Sp.len hx 6 (by omega)).trans (List.getElem?_eq_getElem (by rw [Sp.len]; omega)))).trans (List.getElem?_eq_getElem (by rw [Sp.len]; omega)).symm)
      have p7 : wr.cell? ⟨SB, SO + k * 10 + 7, none⟩ = S[k].cs[7]? := (hr.hb.cell (p := ⟨SB, SO + (k * 10 + 7), none⟩) lSB).trans ((HSC.out (k * 10 + 7) _ ((fm_at Sp.cs 10 Sp.len hx 7 (by omega)).trans (List.getElem?_eq_getElem (by rw [Sp.len]; omega)))).trans (List.getElem?_eq_getElem (by rw [Sp.len]; omega)).symm)
      have p8 : wr.cell? ⟨SB, SO + k * 10 + 8, none⟩ = S[k].cs[8]? := (hr.hb.cell (p := ⟨SB, SO + (k * 10 + 8), none⟩) lSB).trans ((HSC.out (k * 10 + 8) _ ((fm_at Sp.cs 10 Sp.len hx 8 (by omega)).trans (List.getElem?_eq_getElem (by rw [Sp.len]; omega)))).trans (List.getElem?_eq_getElem (by rw [Sp.len]; omega)).symm)
      have p9 : wr.cell? ⟨SB, SO + k * 10 + 9, none⟩ = S[k].cs[9]? := (hr.hb.cell (p := ⟨SB, SO + (k * 10 + 9), none⟩) lSB).trans ((HSC.out (k * 10 + 9) _ ((fm_at Sp.cs 10 Sp.len hx 9 (by omega)).trans (List.getElem?_eq_getElem (by rw [Sp.len]; omega)))).trans (List.getElem?_eq_getElem (by rw [Sp.len]; omega)).symm)
      have r0 : wr.cell? ⟨AB, AO + k * 7, none⟩ = A[k].cs[0]? := (hr.hb.cell (p := ⟨AB, AO + (k * 7 + 0), none⟩) lAB).trans ((HAC.out (k * 7 + 0) _ ((fm_at An.cs 7 An.len hy 0 (by omega)).trans (List.getElem?_eq_getElem (by rw [An.len]; omega)))).trans (List.getElem?_eq_getElem (by rw [An.len]; omega)).symm)
      have r1 : wr.cell? ⟨AB, AO + k * 7 + 1, none⟩ = A[k].cs[1]? := (hr.hb.cell (p := ⟨AB, AO + (k * 7 + 1), none⟩) lAB).trans ((HAC.out (k * 7 + 1) _ ((fm_at An.cs 7 An.len hy 1 (by omega)).trans (List.getElem?_eq_getElem (by rw [An.len]; omega)))).trans (List.getElem?_eq_getElem (by rw [An.len]; omega)).symm)
      have r2 : wr.cell? ⟨AB, AO + k * 7 + 2, none⟩ = A[k].cs[2]? := (hr.hb.cell (p := ⟨AB, AO + (k * 7 + 2), none⟩) lAB).trans ((HAC.out (k * 7 + 2) _ ((fm_at An.cs 7 An.len hy 2 (by omega)).trans (List.getElem?_eq_getElem (by rw [An.len]; omega)))).trans (List.getElem?_eq_getElem (by rw [An.len]; omega)).symm)
      have r3 : wr.cell? ⟨AB, AO + k * 7 + 3, none⟩ = A[k].cs[3]? := (hr.hb.cell (p := ⟨AB, AO + (k * 7 + 3), none⟩) lAB).trans ((HAC.out (k * 7 + 3) _ ((fm_at An.cs 7 An.len hy 3 (by omega)).trans (List.getElem?_eq_getElem (by rw [An.len]; omega)))).trans (List.getElem?_eq_getElem (by rw [An.len]; omega)).symm)
      have r4 : wr.cell? ⟨AB, AO + k * 7 + 4, none⟩ = A[k].cs[4]? := (hr.hb.cell (p := ⟨AB, AO + (k * 7 + 4), none⟩) lAB).trans ((HAC.out (k * 7 + 4) _ ((fm_at An.cs 7 An.len hy 4 (by omega)).trans (List.getElem?_eq_getElem (by rw [An.len]; omega)))).trans (List.getElem?_eq_getElem (by rw [An.len]; omega)).symm)
      have r5 : wr.cell? ⟨AB, AO + k * 7 + 5, none⟩ = A[k].cs[5]? := (hr.hb.cell (p := ⟨AB, AO + (k * 7 + 5), none⟩) lAB).trans ((HAC.out (k * 7 + 5) _ ((fm_at An.cs 7 An.len hy 5 (by omega)).trans (List.getElem?_eq_getElem (by rw [An.len]; omega)))).trans (List.getElem?_eq_getElem (by rw [An.len]; omega)).symm)
      have r6 : wr.cell? ⟨AB, AO + k * 7 + 6, none⟩ = A[k].cs[6]? := (hr.hb.cell (p := ⟨AB, AO + (k * 7 + 6), none⟩) lAB).trans ((HAC.out (k * 7 + 6) _ ((fm_at An.cs 7 An.len hy 6 (by omega)).trans (List.getElem?_eq_getElem (by rw [An.len]; omega)))).trans (List.getElem?_eq_getElem (by rw [An.len]; omega)).symm)
      generalize S[k] = x at *
      generalize A[k] = y at *
      have HLN := Lib.hid fun (W : World) (hb : Below wr.heap.size wr W) => tr_line x.kd x.nd x.s2 x.s3 x.s4 x.s5 x.s6 x.k1 x.k2 x.KA x.kn x.kc y.er y.n y.m y.c y.fd y.VA y.val y.vc y.PA y.P y.pc W ((HT.out.below hr.hb).below hb) (hyo.by_.below hb) hyo.is hyo.vl (hyo.row.below hb) (fun q hq => (hyo.ins q hq).below hb) hyo.pl hxo.b0 hxo.b1 hyo.b2 hyo.b3 hyo.b4 hyo.b5
      have RR := Lib.hid (hr.below ((Below.refl _ _).drew))
      have HLB := Lib.hid (And.intro (Nat.lt_of_lt_of_le lSB (Nat.le_refl _)) lAB)
      obtain ⟨x0, x1, x2, x3, x4, x5, x6, x7, x8, x9, x10, x11⟩ := x
      obtain ⟨y0, y1, y2, y3, y4, y5, y6, y7, y8, y9, y10⟩ := y
      have hll : (lineL x0 x1 y0 y1 y2 y3 y4 y6 y9).length ≤ 200000000000 := hll
      have HZ : Hid (linesL ((S.zip A).take (k + 1)) = linesL ((S.zip A).take k) ++ (lineL x0 x1 y0 y1 y2 y3 y4 y6 y9 ++ [10])) := HZ
      simp only at HLN
      generalize lineL x0 x1 y0 y1 y2 y3 y4 y6 y9 = ln at *
      have hns : (⟨ln.toArray⟩ : ByteArray).size = ln.length := by simp [ByteArray.size]
      have x1' : ¬ 9223372036854775807 < ln.length + 1 := by omega
      have HAP : Hid (((⟨ln.toArray⟩ : ByteArray) ++ (⟨#[10]⟩ : ByteArray)).data.toList = ln ++ [10]) := Lib.hid (by simp)
      have HNS := Lib.hid hns
      have x2' : ¬ 9223372036854775807 < (⟨ln.toArray⟩ : ByteArray).size + 1 := by omega
      have K0 : Hid (wr.cell? ⟨SB, SO + k * 10, none⟩ = some (.int .i64 x0) ∧ wr.cell? ⟨SB, SO + k * 10 + 1, none⟩ = some (.int .i64 x1) ∧ wr.cell? ⟨SB, SO + k * 10 + 2, none⟩ = some (.int .i64 x2) ∧ wr.cell? ⟨SB, SO + k * 10 + 3, none⟩ = some (.int .i64 x3) ∧ wr.cell? ⟨SB, SO + k * 10 + 4, none⟩ = some (.int .u8 x4) ∧ wr.cell? ⟨SB, SO + k * 10 + 5, none⟩ = some (.int .i64 x5) ∧ wr.cell? ⟨SB, SO + k * 10 + 6, none⟩ = some (.int .i64 x6) ∧ wr.cell? ⟨SB, SO + k * 10 + 7, none⟩ = some (.string x7) ∧ wr.cell? ⟨SB, SO + k * 10 + 8, none⟩ = some (.string x8) ∧ wr.cell? ⟨SB, SO + k * 10 + 9, none⟩ = some (.slice x9 x10 x11) ∧ wr.cell? ⟨AB, AO + k * 7, none⟩ = some (.int .i64 y0) ∧ wr.cell? ⟨AB, AO + k * 7 + 1, none⟩ = some (.int .i64 y1) ∧ wr.cell? ⟨AB, AO + k * 7 + 2, none⟩ = some (.int .i64 y2) ∧ wr.cell? ⟨AB, AO + k * 7 + 3, none⟩ = some (.int .i64 y3) ∧ wr.cell? ⟨AB, AO + k * 7 + 4, none⟩ = some (.bool y4) ∧ wr.cell? ⟨AB, AO + k * 7 + 5, none⟩ = some (.slice y5 y6.length y7) ∧ wr.cell? ⟨AB, AO + k * 7 + 6, none⟩ = some (.slice y8 y9.length y10)) := Lib.hid ⟨p0, p1, p2, p3, p4, p5, p6, p7, p8, p9, r0, r1, r2, r3, r4, r5, r6⟩
      have KB : Hid (∀ (V W : World), Below w.heap.size V W → (V.cell? ⟨SB, SO + k * 10, none⟩ = some (.int .i64 x0) ∧ V.cell? ⟨SB, SO + k * 10 + 1, none⟩ = some (.int .i64 x1) ∧ V.cell? ⟨SB, SO + k * 10 + 2, none⟩ = some (.int .i64 x2) ∧ V.cell? ⟨SB, SO + k * 10 + 3, none⟩ = some (.int .i64 x3) ∧ V.cell? ⟨SB, SO + k * 10 + 4, none⟩ = some (.int .u8 x4) ∧ V.cell? ⟨SB, SO + k * 10 + 5, none⟩ = some (.int .i64 x5) ∧ V.cell? ⟨SB, SO + k * 10 + 6, none⟩ = some (.int .i64 x6) ∧ V.cell? ⟨SB, SO + k * 10 + 7, none⟩ = some (.string x7) ∧ V.cell? ⟨SB, SO + k * 10 + 8, none⟩ = some (.string x8) ∧ V.cell? ⟨SB, SO + k * 10 + 9, none⟩ = some (.slice x9 x10 x11) ∧ V.cell? ⟨AB, AO + k * 7, none⟩ = some (.int .i64 y0) ∧ V.cell? ⟨AB, AO + k * 7 + 1, none⟩ = some (.int .i64 y1) ∧ V.cell? ⟨AB, AO + k * 7 + 2, none⟩ = some (.int .i64 y2) ∧ V.cell? ⟨AB, AO + k * 7 + 3, none⟩ = some (.int .i64 y3) ∧ V.cell? ⟨AB, AO + k * 7 + 4, none⟩ = some (.bool y4) ∧ V.cell? ⟨AB, AO + k * 7 + 5, none⟩ = some (.slice y5 y6.length y7) ∧ V.cell? ⟨AB, AO + k * 7 + 6, none⟩ = some (.slice y8 y9.length y10)) → (W.cell? ⟨SB, SO + k * 10, none⟩ = some (.int .i64 x0) ∧ W.cell? ⟨SB, SO + k * 10 + 1, none⟩ = some (.int .i64 x1) ∧ W.cell? ⟨SB, SO + k * 10 + 2, none⟩ = some (.int .i64 x2) ∧ W.cell? ⟨SB, SO + k * 10 + 3, none⟩ = some (.int .i64 x3) ∧ W.cell? ⟨SB, SO + k * 10 + 4, none⟩ = some (.int .u8 x4) ∧ W.cell? ⟨SB, SO + k * 10 + 5, none⟩ = some (.int .i64 x5) ∧ W.cell? ⟨SB, SO + k * 10 + 6, none⟩ = some (.int .i64 x6) ∧ W.cell? ⟨SB, SO + k * 10 + 7, none⟩ = some (.string x7) ∧ W.cell? ⟨SB, SO + k * 10 + 8, none⟩ = some (.string x8) ∧ W.cell? ⟨SB, SO + k * 10 + 9, none⟩ = some (.slice x9 x10 x11) ∧ W.cell? ⟨AB, AO + k * 7, none⟩ = some (.int .i64 y0) ∧ W.cell? ⟨AB, AO + k * 7 + 1, none⟩ = some (.int .i64 y1) ∧ W.cell? ⟨AB, AO + k * 7 + 2, none⟩ = some (.int .i64 y2) ∧ W.cell? ⟨AB, AO + k * 7 + 3, none⟩ = some (.int .i64 y3) ∧ W.cell? ⟨AB, AO + k * 7 + 4, none⟩ = some (.bool y4) ∧ W.cell? ⟨AB, AO + k * 7 + 5, none⟩ = some (.slice y5 y6.length y7) ∧ W.cell? ⟨AB, AO + k * 7 + 6, none⟩ = some (.slice y8 y9.length y10))) := Lib.hid (fun V W hb h => by
        obtain ⟨h0, h1, h2, h3, h4, h5, h6, h7, h8, h9, h10, h11, h12, h13, h14, h15, h16⟩ := h
        refine ⟨(hb.cell (p := ⟨SB, SO + k * 10, none⟩) HLB.out.1).trans h0, (hb.cell (p := ⟨SB, SO + k * 10 + 1, none⟩) HLB.out.1).trans h1, (hb.cell (p := ⟨SB, SO + k * 10 + 2, none⟩) HLB.out.1).trans h2, (hb.cell (p := ⟨SB, SO + k * 10 + 3, none⟩) HLB.out.1).trans h3, (hb.cell (p := ⟨SB, SO + k * 10 + 4, none⟩) HLB.out.1).trans h4, (hb.cell (p := ⟨SB, SO + k * 10 + 5, none⟩) HLB.out.1).trans h5, (hb.cell (p := ⟨SB, SO + k * 10 + 6, none⟩) HLB.out.1).trans h6, (hb.cell (p := ⟨SB, SO + k * 10 + 7, none⟩) HLB.out.1).trans h7, (hb.cell (p := ⟨SB, SO + k * 10 + 8, none⟩) HLB.out.1).trans h8, (hb.cell (p := ⟨SB, SO + k * 10 + 9, none⟩) HLB.out.1).trans h9, (hb.cell (p := ⟨AB, AO + k * 7, none⟩) HLB.out.2).trans h10, (hb.cell (p := ⟨AB, AO + k * 7 + 1, none⟩) HLB.out.2).trans h11, (hb.cell (p := ⟨AB, AO + k * 7 + 2, none⟩) HLB.out.2).trans h12, (hb.cell (p := ⟨AB, AO + k * 7 + 3, none⟩) HLB.out.2).trans h13, (hb.cell (p := ⟨AB, AO + k * 7 + 4, none⟩) HLB.out.2).trans h14, (hb.cell (p := ⟨AB, AO + k * 7 + 5, none⟩) HLB.out.2).trans h15, (hb.cell (p := ⟨AB, AO + k * 7 + 6, none⟩) HLB.out.2).trans h16⟩)
      have HSZ := Lib.hid (show w.heap.size ≤ wr.heap.size from RR.out.hb.size)
      clear p0 p1 p2 p3 p4 p5 p6 p7 p8 p9 r0 r1 r2 r3 r4 r5 r6
      clear hx hy hxo hyo hz hr
      obtain ⟨nb, hnb⟩ : ∃ nb : ByteArray, nb = ⟨ln.toArray⟩ := ⟨_, rfl⟩
      rw [← hnb] at HLN HAP HNS x2' hns
      clear hnb
      go_wp2_with fail
      have K1 := Lib.hid (KB.out wr wr.drew ((Below.refl _ _).drew.mono HSZ.out) K0.out)
      refine wp_region_held_drew (S := (fun w' => w'.cell? ⟨SB, SO + k * 10, none⟩ = some (.int .i64 x0) ∧ w'.cell? ⟨SB, SO + k * 10 + 1, none⟩ = some (.int .i64 x1) ∧ w'.cell? ⟨SB, SO + k * 10 + 2, none⟩ = some (.int .i64 x2) ∧ w'.cell? ⟨SB, SO + k * 10 + 3, none⟩ = some (.int .i64 x3) ∧ w'.cell? ⟨SB, SO + k * 10 + 4, none⟩ = some (.int .u8 x4) ∧ w'.cell? ⟨SB, SO + k * 10 + 5, none⟩ = some (.int .i64 x5) ∧ w'.cell? ⟨SB, SO + k * 10 + 6, none⟩ = some (.int .i64 x6) ∧ w'.cell? ⟨SB, SO + k * 10 + 7, none⟩ = some (.string x7) ∧ w'.cell? ⟨SB, SO + k * 10 + 8, none⟩ = some (.string x8) ∧ w'.cell? ⟨SB, SO + k * 10 + 9, none⟩ = some (.slice x9 x10 x11) ∧ w'.cell? ⟨AB, AO + k * 7, none⟩ = some (.int .i64 y0) ∧ w'.cell? ⟨AB, AO + k * 7 + 1, none⟩ = some (.int .i64 y1) ∧ w'.cell? ⟨AB, AO + k * 7 + 2, none⟩ = some (.int .i64 y2) ∧ w'.cell? ⟨AB, AO + k * 7 + 3, none⟩ = some (.int .i64 y3) ∧ w'.cell? ⟨AB, AO + k * 7 + 4, none⟩ = some (.bool y4) ∧ w'.cell? ⟨AB, AO + k * 7 + 5, none⟩ = some (.slice y5 y6.length y7) ∧ w'.cell? ⟨AB, AO + k * 7 + 6, none⟩ = some (.slice y8 y9.length y10))) (by kernel_rfl) ?_ (fun hHeld => ?_)
      · exact K1.out
      refine wpAnyH_take (i := 0) (v := ?_) rfl (by kernel_rfl) (by kernel_rfl) (by kernel_rfl) (fun _ _ _ h => h) (Or.inl ⟨by rfl, ?_⟩) (by assumption) ?_
      rotate_left
      · intro w' hSw; (try dsimp only at hSw); go_simp; (try with_reducible rfl)
      (try simp only [Act.put, List.setIfInBounds_toArray, List.set_cons_zero, List.set_cons_succ, List.getElem_toArray, List.getElem_cons_succ, List.getElem_cons_zero])
      refine wpAnyH_take (i := 1) (v := ?_) rfl (by kernel_rfl) (by kernel_rfl) (by kernel_rfl) (fun _ _ _ h => h) (Or.inl ⟨by rfl, ?_⟩) (by assumption) ?_
      rotate_left
      · intro w' hSw; (try dsimp only at hSw); go_simp; (try with_reducible rfl)
      (try simp only [Act.put, List.setIfInBounds_toArray, List.set_cons_zero, List.set_cons_succ, List.getElem_toArray, List.getElem_cons_succ, List.getElem_cons_zero])
      refine wpAnyH_take (i := 2) (v := ?_) rfl (by kernel_rfl) (by kernel_rfl) (by kernel_rfl) (fun _ _ _ h => h) (Or.inl ⟨by rfl, ?_⟩) (by assumption) ?_
      rotate_left
      · intro w' hSw; (try dsimp only at hSw); go_simp; (try with_reducible rfl)
      (try simp only [Act.put, List.setIfInBounds_toArray, List.set_cons_zero, List.set_cons_succ, List.getElem_toArray, List.getElem_cons_succ, List.getElem_cons_zero])
      refine wpAnyH_take (i := 3) (v := ?_) rfl (by kernel_rfl) (by kernel_rfl) (by kernel_rfl) (fun _ _ _ h => h) (Or.inl ⟨by rfl, ?_⟩) (by assumption) ?_
      rotate_left
      · intro w' hSw; (try dsimp only at hSw); go_simp; (try with_reducible rfl)
      (try simp only [Act.put, List.setIfInBounds_toArray, List.set_cons_zero, List.set_cons_succ, List.getElem_toArray, List.getElem_cons_succ, List.getElem_cons_zero])
      refine wpAnyH_take (i := 4) (v := ?_) rfl (by kernel_rfl) (by kernel_rfl) (by kernel_rfl) (fun _ _ _ h => h) (Or.inl ⟨by rfl, ?_⟩) (by assumption) ?_
      rotate_left
      · intro w' hSw; (try dsimp only at hSw); go_simp; (try with_reducible rfl)
      (try simp only [Act.put, List.setIfInBounds_toArray, List.set_cons_zero, List.set_cons_succ, List.getElem_toArray, List.getElem_cons_succ, List.getElem_cons_zero])
      refine wpAnyH_take (i := 5) (v := ?_) rfl (by kernel_rfl) (by kernel_rfl) (by kernel_rfl) (fun _ _ _ h => h) (Or.inl ⟨by rfl, ?_⟩) (by assumption) ?_
      rotate_left
      · intro w' hSw; (try dsimp only at hSw); go_simp; (try with_reducible rfl)
      (try simp only [Act.put, List.setIfInBounds_toArray, List.set_cons_zero, List.set_cons_succ, List.getElem_toArray, List.getElem_cons_succ, List.getElem_cons_zero])
      refine wpAnyH_take (i := 6) (v := ?_) rfl (by kernel_rfl) (by kernel_rfl) (by kernel_rfl) (fun _ _ _ h => h) (Or.inl ⟨by rfl, ?_⟩) (by assumption) ?_
      rotate_left
      · intro w' hSw; (try dsimp only at hSw); go_simp; (try with_reducible rfl)
      (try simp only [Act.put, List.setIfInBounds_toArray, List.set_cons_zero, List.set_cons_succ, List.getElem_toArray, List.getElem_cons_succ, List.getElem_cons_zero])
      refine wpAnyH_take (i := 7) (v := ?_) rfl (by kernel_rfl) (by kernel_rfl) (by kernel_rfl) (fun _ _ _ h => h) (Or.inl ⟨by rfl, ?_⟩) (by assumption) ?_
      rotate_left
      · intro w' hSw; (try dsimp only at hSw); go_simp; (try with_reducible rfl)
      (try simp only [Act.put, List.setIfInBounds_toArray, List.set_cons_zero, List.set_cons_succ, List.getElem_toArray, List.getElem_cons_succ, List.getElem_cons_zero])
      refine wpAnyH_ready (rs := [8]) (by kernel_rfl) (by simp) ?_
      refine AllReadyH.cons rfl (fun K hK => ?_) AllReadyH.nil
      go_simp
      (go_at_call 10; refine (HLN.out _ ((Below.refl _ _).drew)).mono ?_; rintro e V1 ⟨rfl, hb1⟩; have K2 := Lib.hid (KB.out _ _ (hb1.mono HSZ.out) K1.out); have R2 := Lib.hid (RR.out.below hb1); clear hb1)
      (try dsimp only)
      refine hK.out _ _ ?_ (fun hHeld => ?_)
      · exact K2.out
      clear hK K
      (try simp only [Act.put, List.setIfInBounds_toArray, List.set_cons_zero, List.set_cons_succ, List.getElem_toArray, List.getElem_cons_succ, List.getElem_cons_zero])
      refine wpAnyH_take (i := 9) (v := ?_) rfl (by kernel_rfl) (by kernel_rfl) (by kernel_rfl) (fun _ _ _ h => h) (Or.inl ⟨by rfl, ?_⟩) (by assumption) ?_
      rotate_left
      · intro w' hSw; (try dsimp only at hSw); go_simp; (try with_reducible rfl)
      (try simp only [Act.put, List.setIfInBounds_toArray, List.set_cons_zero, List.set_cons_succ, List.getElem_toArray, List.getElem_cons_succ, List.getElem_cons_zero])
      refine wpAnyH_ready (rs := [10]) (by kernel_rfl) (by simp) ?_
      refine AllReadyH.cons rfl (fun K hK => ?_) AllReadyH.nil
      go_simp
      (refine (R2.out.write (nb ++ (⟨#[10]⟩ : ByteArray)) (by simp only [ByteArray.size_append]; have a1 : (⟨#[10]⟩ : ByteArray).size = 1 := rfl; have := HNS.out; omega)).mono ?_; rintro e V2 ⟨rfl, hr2, hb2⟩; have K3 := Lib.hid (KB.out _ _ hb2 K2.out); have R3 := Lib.hid hr2; clear hr2 hb2)
      (try dsimp only)
      refine hK.out _ _ ?_ (fun hHeld => ?_)
      · exact K3.out
      clear hK K
      (try simp only [Act.put, List.setIfInBounds_toArray, List.set_cons_zero, List.set_cons_succ, List.getElem_toArray, List.getElem_cons_succ, List.getElem_cons_zero])
      refine wpAnyH_done (by kernel_rfl) ?_ _
      rw [HAP.out, ← HZ.out] at R3
      clear hHeld K1 K2 K3 RR R2
      go_wp2
      go_roundw
      case rel => exact ⟨k + 1, by omega, by go_num, R3.out⟩
      case measure => simp [intOf]; omega
    · obtain rfl : k = n := by omega
      have tk : decide ((k : Int) < (k : Int)) = false := by simp
      have hbl := hr.bl
      rw [← HZL.out, List.take_length] at hbl
      have HS := Lib.hid (bld_string _ _ (linesL (S.zip A)) wr hbl (fun h => by
        have hz0 : 0 < (S.zip A).length := by rw [HZL.out]; omega
        have h2 := linesL_take (Z := S.zip A) (k := 0) (List.getElem?_eq_getElem hz0)
        have h3 : linesL (S.zip A) = linesL ((S.zip A).take 1) ++ linesL ((S.zip A).drop 1) := by rw [← linesL_append, List.take_append_drop]
        rw [h3, h2] at h
        simp at h))
      have HB := Lib.hid hr.hb
      clear hbl hr
      go_wp2_with fail
      refine HS.out.mono ?_; rintro e w9 ⟨rfl, hb9⟩
      have HF := Lib.hid (HB.out.trans hb9)
      clear hb9
      go_wp2
      go_ret
      exact ⟨rfl, HF.out⟩
end Go.Proofs.YtelabakcadhffaaDoor
