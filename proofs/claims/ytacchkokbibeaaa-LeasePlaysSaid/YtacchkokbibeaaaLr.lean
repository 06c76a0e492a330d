/- The reference's Leases: what lies in memory (written by gen/lr.py). -/
import Derived.Test.YtacchkokbibeaaaLsExp2
import Derived.Test.YtacchkokbibeaaaRef10Cmp
set_option linter.unusedSimpArgs false
set_option linter.unusedVariables false
namespace Go.Proofs.Ytacchkokbibeaaa
open Go.RowKit

theorem lr_info : (Try.prog.info? 67).map (fun i => (i.zero, i.size, i.bytes)) = some (some (.agg #[.int .i64 0, .int .i64 0, .int .i64 0, .int .i64 0]), 4, 32) := by kernel_rfl
/-- The reference's Leases: its block, its row, what it holds, its next number. -/
structure Lr (w : World) (b : Nat) (v : Value) (L : List Le) (nx : Int) : Prop where
  c0 : w.cell? ⟨b, 0, none⟩ = some v
  c1 : w.cell? ⟨b, 1, none⟩ = some (.int .i64 nx)
  f0 : w.frozen? ⟨b, 0, none⟩ = false
  f1 : w.frozen? ⟨b, 1, none⟩ = false
  lt : b < w.heap.size
  row : w.ownsRow 0 67 4 v L.length (flat L)
  ne : v.ownBlock ≠ some b
theorem Lr.but {S : Nat → Prop} {w w' : World} {b : Nat} {v : Value} {L : List Le} {nx : Int} (h : Lr w b v L nx) (k : But S w w') (hs : ∀ i, Foot b v i → ¬ S i) : Lr w' b v L nx :=
  ⟨(k.cell b 0 h.lt (hs b (.inl rfl))).trans h.c0, (k.cell b 1 h.lt (hs b (.inl rfl))).trans h.c1, (k.frozen b 0 h.lt (hs b (.inl rfl))).trans h.f0, (k.frozen b 1 h.lt (hs b (.inl rfl))).trans h.f1, Nat.lt_of_lt_of_le h.lt k.size, k.row h.row (fun i hi => hs i (.inr hi)), h.ne⟩
theorem Lr.below {w w' : World} {b : Nat} {v : Value} {L : List Le} {nx : Int} (h : Lr w b v L nx) (k : Below w.heap.size w w') : Lr w' b v L nx := h.but (S := fun _ => False) (But.of_below k) (fun _ _ hf => hf.elim)
theorem Lr.alloc {w : World} {b : Nat} {v : Value} {L : List Le} {nx : Int} (h : Lr w b v L nx) (o : Obj) : Lr (w.alloc o) b v L nx := h.below ((Below.refl _ _).alloc (Nat.le_refl _) _)
theorem lr_new (w : World) : Lr (w.alloc (.cells #[.slice none 0 0, .int .i64 0] 28)) w.heap.size (.slice none 0 0) [] 0 := by
  constructor <;> first | exact World.ownsRow_nil _ _ _ _ | simp [Value.ownBlock]
theorem Lr.shape {w : World} {b : Nat} {v : Value} {L : List Le} {nx : Int} (h : Lr w b v L nx) : ∃ A c, v = .slice A L.length c := by
  rcases h.row.2 with ⟨e, h0⟩ | ⟨g, cap, cur, e, _⟩
  · exact ⟨none, 0, by rw [e, h0]⟩
  · exact ⟨_, _, e⟩
theorem Lr.cells {w : World} {b : Nat} {v : Value} {L : List Le} {nx : Int} (h : Lr w b v L nx) {g c : Nat} (hv : v = .slice (some ⟨g, 0, none⟩) L.length c) {k : Nat} {x : Le} (hk : L[k]? = some x) :
    w.cell? ⟨g, k * 4, none⟩ = some (.int .i64 x.id) ∧ w.cell? ⟨g, k * 4 + 1, none⟩ = some (.int .i64 x.m) ∧ w.cell? ⟨g, k * 4 + 2, none⟩ = some (.int .i64 x.c) ∧ w.cell? ⟨g, k * 4 + 3, none⟩ = some (.int .i64 x.u) := by
  have hr := h.row
  rw [hv] at hr
  have h0 := flat_at hk 0 (by omega)
  have h1 := flat_at hk 1 (by omega)
  have h2 := flat_at hk 2 (by omega)
  have h3 := flat_at hk 3 (by omega)
  exact ⟨row_cell hr h0, row_cell hr h1, row_cell hr h2, row_cell hr h3⟩
theorem lr_nil_len {w : World} {b : Nat} {v : Value} {L : List Le} {nx : Int} (h : Lr w b v L nx) : (∃ g c, v = .slice (some ⟨g, 0, none⟩) L.length c ∧ L.length ≤ c) ∨ (v = .slice none 0 0 ∧ L = []) := by
  rcases h.row.2 with ⟨e, h0⟩ | ⟨g, cap, cur, e, _, _, hc, _⟩
  · exact .inr ⟨e, List.length_eq_zero_iff.1 h0⟩
  · exact .inl ⟨g, cap, e, hc⟩
theorem lr_at_shape {w : World} {b : Nat} {v : Value} {L : List Le} {nx : Int} (h : Lr w b v L nx) {k : Nat} {x : Le} (hk : L[k]? = some x) : ∃ g c, v = .slice (some ⟨g, 0, none⟩) L.length c ∧ L.length ≤ c ∧ k < L.length ∧ w.cell? ⟨g, k * 4, none⟩ = some (.int .i64 x.id) ∧ w.cell? ⟨g, k * 4 + 1, none⟩ = some (.int .i64 x.m) ∧ w.cell? ⟨g, k * 4 + 2, none⟩ = some (.int .i64 x.c) ∧ w.cell? ⟨g, k * 4 + 3, none⟩ = some (.int .i64 x.u) := by
  have hlt := (List.getElem?_eq_some_iff.1 hk).1
  rcases lr_nil_len h with ⟨g, c, rfl, hc⟩ | ⟨rfl, rfl⟩
  · exact ⟨g, c, rfl, hc, hlt, h.cells rfl hk⟩
  · simp at hlt
theorem lr_len (b : Nat) (v : Value) (L : List Le) (nx : Int) (w : World) (h : Lr w b v L nx) : Calls Try.prog 20 #[.pointer (some ⟨b, 0, none⟩)] w fun e w' => e = .returned (.int .i64 L.length) ∧ w = w' := by
  obtain ⟨A, c, rfl⟩ := h.shape
  have c0 := h.c0
  clear h
  generalize L.length = n at *
  go_enter Try.func20, Try.ntmps20
  go_wp2
  go_ret
  exact ⟨rfl, rfl⟩
/-- Open's errors. -/
theorem lr_open_bad (b : Nat) (m c u : Int) (w : World) (hs : isStampB m c = false ∨ (isStampB m c = true ∧ u < 0)) :
    Calls Try.prog 10 #[.pointer (some ⟨b, 0, none⟩), .agg #[.int .i64 m, .int .i64 c], .int .i64 u] w fun e w' => e = .returned (.tuple #[.int .i64 0, .int .i64 1]) ∧ Below w.heap.size w w' := by
  have HB0 : Below w.heap.size w (w.alloc (.cells #[.int .i64 m, .int .i64 c] 30)) := by (repeat' (first | (with_reducible exact Below.refl _ _) | (with_reducible assumption) | (with_reducible refine Below.trans ?_ (Below.mono (by with_reducible assumption) ?_)) | (with_reducible refine Below.alloc ?_ ?_ _) | (with_reducible refine Below.setCell ?_ ?_ _) | (with_reducible refine below_drewN ?_ _) | (with_reducible refine Below.drew ?_) | go_size))
  rcases hs with hs | ⟨hs, hu⟩
  · go_enter Try.func10, Try.ntmps10
    go_wp2_with fail
    refine (ref10_is m c _).mono ?_; rw [hs]; rintro e w1 ⟨rfl, hb1⟩
    have HB1 : Below w.heap.size w w1 := HB0.trans (hb1.mono HB0.size)
    clear hb1
    go_wp2
    go_ret2
    exact ⟨rfl, HB1⟩
  · have t1 : decide (u < 0) = true := by simpa using hu
    clear hu
    go_enter Try.func10, Try.ntmps10
    go_wp2_with fail
    refine (ref10_is m c _).mono ?_; rw [hs]; rintro e w1 ⟨rfl, hb1⟩
    have HB1 : Below w.heap.size w w1 := HB0.trans (hb1.mono HB0.size)
    clear hb1
    go_wp2
    go_ret2
    exact ⟨rfl, HB1⟩
theorem lr_open_full (b : Nat) (v : Value) (L : List Le) (nx m c u : Int) (w : World) (h : Lr w b v L nx) (hs : isStampB m c = true) (hu : 0 ≤ u) (hl : 64 ≤ L.length) :
    Calls Try.prog 10 #[.pointer (some ⟨b, 0, none⟩), .agg #[.int .i64 m, .int .i64 c], .int .i64 u] w fun e w' => e = .returned (.tuple #[.int .i64 0, .int .i64 6]) ∧ Below w.heap.size w w' := by
  obtain ⟨A, cp, rfl⟩ := h.shape
  have HB0 : Below w.heap.size w (w.alloc (.cells #[.int .i64 m, .int .i64 c] 30)) := by (repeat' (first | (with_reducible exact Below.refl _ _) | (with_reducible assumption) | (with_reducible refine Below.trans ?_ (Below.mono (by with_reducible assumption) ?_)) | (with_reducible refine Below.alloc ?_ ?_ _) | (with_reducible refine Below.setCell ?_ ?_ _) | (with_reducible refine below_drewN ?_ _) | (with_reducible refine Below.drew ?_) | go_size))
  have t1 : decide (u < 0) = false := by simp only [decide_eq_false_iff_not]; omega
  have t2 : decide ((64 : Int) ≤ (L.length : Int)) = true := by simp only [decide_eq_true_eq]; omega
  have c0 := h.c0
  have lb := h.lt
  generalize L.length = n at *
  clear h hu hl
  go_enter Try.func10, Try.ntmps10
  go_wp2_with fail
  refine (ref10_is m c _).mono ?_; rw [hs]; rintro e w1 ⟨rfl, hb1⟩
  have HB1 : Below w.heap.size w w1 := HB0.trans (hb1.mono HB0.size)
  have b0 := (HB1.cell (p := ⟨b, 0, none⟩) lb).trans c0
  clear hb1 c0
  go_wp2
  go_ret2
  exact ⟨rfl, HB1⟩
/-- Where find finds: the place, or -1. -/
def whereR (k : Nat) : Bool → Int
  | true => k
  | false => -1
set_option maxHeartbeats 4000000 in
theorem lr_find (b : Nat) (v : Value) (L : List Le) (nx id : Int) (k : Nat) (bb : Bool) (w : World) (h : Lr w b v L nx) (hl : L.length ≤ 1000) (ha : FindAns L id k bb) (hr : Rise L) :
    Calls Try.prog 28 #[.pointer (some ⟨b, 0, none⟩), .int .i64 id] w fun e w' => e = .returned (.int .i64 (whereR k bb)) ∧ w = w' := by
  have HH := Lib.hid h
  have c0 := h.c0
  have hno : ∀ (j : Nat) (x : Le), L[j]? = some x → (bb = true → j < k) → x.id ≠ id := by
    intro j x hx hj
    cases bb with
    | true => have := ha.1.lo j x (hj rfl) hx; omega
    | false => exact find_none ha hr x (List.mem_of_getElem? hx)
  have hyes : bb = true → ∃ x, L[k]? = some x ∧ x.id = id := ha.2.1
  have HNO := Lib.hid hno
  have HY := Lib.hid hyes
  have hkl : bb = true → k < L.length := fun e => by obtain ⟨x, hx, _⟩ := hyes e; exact (List.getElem?_eq_some_iff.1 hx).1
  have HKL := Lib.hid hkl
  obtain ⟨A, c, rfl⟩ := h.shape
  have hl' : (L.length : Int) ≤ 1000 := by omega
  have hsh := Lib.hid fun (j : Nat) (x : Le) (hj : L[j]? = some x) => lr_at_shape HH.out hj
  generalize hn : L.length = n at *
  have HN := Lib.hid hn
  clear h ha hno hyes hkl hn
  go_enter Try.func28, Try.ntmps28
  go_wp2
  go_loopw [5] (fun i wr => ∃ j : Nat, j ≤ n ∧ i = .int .i64 j ∧ Hid (bb = true → j ≤ k) ∧ w = wr) (fun i _ => n - (intOf i).toNat)
  case atStart => exact ⟨0, Nat.zero_le _, rfl, Lib.hid (fun _ => Nat.zero_le _), rfl⟩
  case round =>
    obtain ⟨j, hj, rfl, HJ, rfl⟩ := hrel
    by_cases hlt : j < n
    · obtain ⟨x, hx⟩ : ∃ x, L[j]? = some x := ⟨L[j]'(by rw [HN.out]; exact hlt), List.getElem?_eq_getElem _⟩
      obtain ⟨g, cp', hv, hcp, _, r0, r1, r2, r3⟩ := hsh.out j x hx
      injection hv with hv1 hv2 hv3
      subst hv1
      subst hv3
      by_cases he : x.id = id
      · have hbk : bb = true ∧ j = k := by
          cases hbb : bb with
          | false => exact absurd he (HNO.out j x hx (fun h => by rw [hbb] at h; cases h))
          | true =>
            refine ⟨rfl, ?_⟩
            by_cases hjk : j < k
            · exact absurd he (HNO.out j x hx (fun _ => hjk))
            · have := HJ.out hbb; omega
        have HBK := Lib.hid hbk
        have t1 : (x.id == id) = true := by simpa using he
        obtain ⟨xi, xm, xc, xu⟩ := x
        have r0 : w.cell? ⟨g, j * 4, none⟩ = some (.int .i64 xi) := r0
        have t1 : (xi == id) = true := t1
        clear r1 r2 r3 hx he hbk hv2
        go_wp2
        go_ret
        refine ⟨?_, rfl⟩
        obtain ⟨rfl, rfl⟩ := HBK.out
        rfl
      · have hbk : bb = true → j + 1 ≤ k := fun hbb => by
          have h1 := HJ.out hbb
          by_cases hjk : j = k
          · obtain ⟨y, hy, hyi⟩ := HY.out hbb
            rw [← hjk, hx] at hy
            injection hy with e
            exact absurd (by rw [e]; exact hyi) he
          · omega
        have HBK := Lib.hid hbk
        have t1 : (x.id == id) = false := by simpa using he
        have wj : IntKind.i64.wrap ((j : Int) + 1) = (j : Int) + 1 := IntWalk.i64_in _ (by omega)
        obtain ⟨xi, xm, xc, xu⟩ := x
        have r0 : w.cell? ⟨g, j * 4, none⟩ = some (.int .i64 xi) := r0
        have t1 : (xi == id) = false := t1
        clear r1 r2 r3 hx he hbk hv2
        go_wp2
        go_roundw
        case rel => exact ⟨j + 1, by omega, by go_num, HBK, trivial⟩
        case measure => simp [intOf]; omega
    · obtain rfl : j = n := by omega
      have hbf : bb = false := by
        cases hbb : bb with
        | false => rfl
        | true => have h1 := HJ.out hbb; have h2 := HKL.out hbb; omega
      subst hbf
      go_wp2
      go_ret
      exact ⟨rfl, rfl⟩
end Go.Proofs.Ytacchkokbibeaaa
