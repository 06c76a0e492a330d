/- lease.Leases with any number of leases: Floor. -/
import Derived.Test.YtacchkokbibeaaaLsAt
set_option linter.unusedSimpArgs false
set_option linter.unusedVariables false
namespace Go.Proofs.Ytacchkokbibeaaa
open Go.RowKit

/-- The least of a stamp and those of leases, as Floor goes. -/
def flo : List Le → Int × Int → Int × Int
  | [], p => p
  | x :: r, p => flo r (if cmp2 x.m x.c p.1 p.2 < 0 then (x.m, x.c) else p)
theorem flo_snoc (l : List Le) (x : Le) (p : Int × Int) : flo (l ++ [x]) p = if cmp2 x.m x.c (flo l p).1 (flo l p).2 < 0 then (x.m, x.c) else flo l p := by
  induction l generalizing p with
  | nil => rfl
  | cons a t ih => exact ih _
theorem flo_take {L : List Le} {k : Nat} {x : Le} (h : L[k]? = some x) (p : Int × Int) : flo (L.take (k + 1)) p = if cmp2 x.m x.c (flo (L.take k) p).1 (flo (L.take k) p).2 < 0 then (x.m, x.c) else flo (L.take k) p := by
  rw [← flo_snoc]
  congr 1
  have hk := (List.getElem?_eq_some_iff.1 h).1
  rw [List.take_succ_eq_append_getElem hk]
  congr 2
  rw [List.getElem?_eq_getElem hk] at h
  injection h
def FloRel (L : List Le) (p : Int × Int) (sb : Nat) (k : Nat) (wr : World) : Prop := ∃ m c, flo (L.take k) p = (m, c) ∧ Ints2 wr sb m c
set_option maxRecDepth 100000 in
set_option maxHeartbeats 4000000 in
theorem ls_floor (b : Nat) (v : Value) (L : List Le) (nx p q : Int) (w : World) (h : Ls w b v L nx) (hl : L.length ≤ 1000) :
    Calls Try.prog 21 #[.pointer (some ⟨b, 0, none⟩), .agg #[.int .i64 p, .int .i64 q]] w fun e w' => e = .returned (.agg #[.int .i64 (flo L (p, q)).1, .int .i64 (flo L (p, q)).2]) ∧ Below w.heap.size w w' := by
  have HB0 : Below w.heap.size w ((w.alloc (.cells #[.int .i64 p, .int .i64 q] 30)).alloc (.cells #[.int .i64 0, .int .i64 0] 30)) := by (repeat' (first | (with_reducible exact Below.refl _ _) | (with_reducible assumption) | (with_reducible refine Below.trans ?_ (Below.mono (by with_reducible assumption) ?_)) | (with_reducible refine Below.alloc ?_ ?_ _) | (with_reducible refine Below.setCell ?_ ?_ _) | (with_reducible refine below_drewN ?_ _) | (with_reducible refine Below.drew ?_) | go_size))
  have J0 := (Ints2.new w p q 30).alloc (.cells #[.int .i64 0, .int .i64 0] 30)
  have J1 := Ints2.new1 w (.cells #[.int .i64 p, .int .i64 q] 30) 0 0 30
  obtain ⟨A, cp, rfl⟩ := h.shape
  have HH := Lib.hid h
  have c0 := (h.below HB0).c0
  have c0' := h.c0
  have hN : (L.length : Int) ≤ 1000 := by omega
  generalize hn : L.length = n at *
  have HN := Lib.hid hn
  have hsh := Lib.hid fun (k : Nat) (x : Le) (hk : L[k]? = some x) (w' : World) (hb : Below w.heap.size w w') => at_shape (HH.out.below hb) hk
  have lb := h.lt
  have lb1 : b < w.heap.size + 1 := by omega
  have lb2 : b < w.heap.size + 1 + 1 := by omega
  have hfin : flo (L.take n) (p, q) = flo L (p, q) := by rw [← HN.out, List.take_length]
  have HF := Lib.hid hfin
  have HJ0 := Lib.hid J0
  have HJ1 := Lib.hid J1
  clear h hn J0 J1 hfin hl
  go_enter Try.func21, Try.ntmps21
  go_wp2
  go_loopw [15] (fun i wr => ∃ k : Nat, k ≤ n ∧ i = .int .i64 k ∧ FloRel L (p, q) w.heap.size k wr ∧ Ints2 wr (w.heap.size + 1) 0 0 ∧ Below w.heap.size w wr) (fun i _ => n - (intOf i).toNat)
  case atStart => exact ⟨0, Nat.zero_le _, rfl, ⟨p, q, rfl, HJ0.out⟩, HJ1.out, HB0⟩
  case round =>
    obtain ⟨k, hk, rfl, ⟨m, c, hf, K0⟩, K1, HB⟩ := hrel
    clear c0 c0' HB0 HJ0 HJ1
    by_cases hlt : k < n
    · obtain ⟨x, hx⟩ : ∃ x, L[k]? = some x := ⟨L[k]'(by rw [HN.out]; exact hlt), List.getElem?_eq_getElem _⟩
      obtain ⟨g, cp', hv, hcp, _, r0, r1, r2, r3⟩ := hsh.out k x hx wr HB
      have hft := flo_take hx (p, q)
      rw [hf] at hft
      simp only at hft
      injection hv with hv1 hv2 hv3
      subst hv1
      subst hv3
      have HFT := Lib.hid hft
      have HK0 := Lib.hid K0
      have HK1 := Lib.hid K1
      have lt0 := K0.lt
      obtain ⟨x0, x1, e0, e1, _⟩ := K0
      clear hx hft hf hv2 K1
      obtain ⟨xi, xm, xc, xu⟩ := x
      simp only at r0 r1 r2 r3
      have HFT' : Hid (flo (L.take (k + 1)) (p, q) = if cmp2 xm xc m c < 0 then (xm, xc) else (m, c)) := HFT
      clear HFT
      go_wp2_with fail
      refine (hlc_compare xm xc m c _).mono ?_; rintro e w5 ⟨rfl, hb5⟩
      have Z5 := Below.trans (((Below.refl wr.heap.size wr).alloc (Nat.le_refl _) (.cells #[.int .i64 xi, .int .i64 xm, .int .i64 xc, .int .i64 xu] 65))) (hb5.mono (by simp))
      have y1 : w5.cell? ⟨wr.heap.size, 1, none⟩ = some (.int .i64 xm) := (hb5.cell (p := ⟨wr.heap.size, 1, none⟩) (by simp)).trans (by simp [go_sem])
      have y2 : w5.cell? ⟨wr.heap.size, 2, none⟩ = some (.int .i64 xc) := (hb5.cell (p := ⟨wr.heap.size, 2, none⟩) (by simp)).trans (by simp [go_sem])
      have K0 := HK0.out.below Z5 lt0
      have K1 := HK1.out.below Z5 HK1.out.lt
      have HB5 := HB.trans (Z5.mono HB.size)
      by_cases hc : cmp2 xm xc m c < 0
      · have t1 : decide (cmp2 xm xc m c < 0) = true := decide_eq_true hc
        have HR : Hid (FloRel L (p, q) w.heap.size (k + 1) ((w5.setCell ⟨w.heap.size, 0, none⟩ (.int .i64 xm)).setCell ⟨w.heap.size, 1, none⟩ (.int .i64 xc))) := ⟨xm, xc, by rw [HFT'.out, if_pos hc], (K0.set0 xm).set1 xc⟩
        have HK1' := Lib.hid ((K1.other (p := ⟨w.heap.size, 0, none⟩) (by simp) (.int .i64 xm)).other (p := ⟨w.heap.size, 1, none⟩) (by simp) (.int .i64 xc))
        obtain ⟨u0, u1, f0, f1, _⟩ := K0
        have HBx := Lib.hid ((HB5.setCell (p := ⟨w.heap.size, 0, none⟩) (by simp) (.int .i64 xm)).setCell (p := ⟨w.heap.size, 1, none⟩) (by simp) (.int .i64 xc))
        generalize cmp2 xm xc m c = Q at *
        clear hb5 Z5 x0 x1 e0 e1 K1 r0 r1 r2 r3 hc
        go_wp2
        go_roundw
        case rel => exact ⟨k + 1, by omega, by go_num, HR.out, HK1'.out, HBx.out⟩
        case measure => simp [intOf]; omega
      · have t1 : decide (cmp2 xm xc m c < 0) = false := decide_eq_false hc
        have HR : Hid (FloRel L (p, q) w.heap.size (k + 1) w5) := ⟨m, c, by rw [HFT'.out, if_neg hc], K0⟩
        have HK1' := Lib.hid K1
        generalize cmp2 xm xc m c = Q at *
        clear hb5 Z5 x0 x1 e0 e1 K1 r0 r1 r2 r3 hc y1 y2 K0
        go_wp2
        go_roundw
        case rel => exact ⟨k + 1, by omega, by go_num, HR.out, HK1'.out, HB5⟩
        case measure => simp [intOf]; omega
    · obtain rfl : k = n := by omega
      rw [HF.out] at hf
      have hQ : (flo L (p, q)).1 = m ∧ (flo L (p, q)).2 = c := by rw [hf]; exact ⟨rfl, rfl⟩
      have HQ := Lib.hid hQ
      have R0 := (K1.set0 m).c0
      have R1 := ((K1.set0 m).set1 c).c1
      obtain ⟨x0, x1, e0, e1, lt0⟩ := K0
      obtain ⟨u0, u1, f0, f1, lt1⟩ := K1
      have HB' := HB
      clear hf hQ
      go_wp2
      refine bodyPost_ret (v := .agg #[.int .i64 m, .int .i64 c]) (by simp [results, Try.results21, go_sem, R0, R1]) rfl ⟨?_, ?_⟩
      · rw [HQ.out.1, HQ.out.2]
      · go_light
        (repeat' (first | (with_reducible exact Below.refl _ _) | (with_reducible assumption) | (with_reducible refine Below.trans ?_ (Below.mono (by with_reducible assumption) ?_)) | (with_reducible refine Below.alloc ?_ ?_ _) | (with_reducible refine Below.setCell ?_ ?_ _) | (with_reducible refine below_drewN ?_ _) | (with_reducible refine Below.drew ?_) | go_size))
end Go.Proofs.Ytacchkokbibeaaa
