/- agree.Most of any intervals (written by gen/most.py). -/
import Derived.Test.YtdkcdaknifikeaaTwo
import Derived.Test.YtdkcdaknifikeaaAgMath
import Derived.Test.YtdkcdaknifikeaaSortL
import Derived.BigGuard
import Derived.BigGuardPart
import Derived.BigCall
set_option linter.unusedSimpArgs false
set_option linter.unusedVariables false
namespace Go.Proofs.Ytdkcdaknifikeaa
open Go.RowKit

def ivs (z : Nat → Int) (n : Nat) : List (Int × Int) := (List.range n).map fun j => (z (j * 2), z (j * 2 + 1))
theorem ivs_succ (z : Nat → Int) (n : Nat) : ivs z (n + 1) = ivs z n ++ [(z (n * 2), z (n * 2 + 1))] := by simp [ivs, List.range_succ]
theorem ivs_len (z : Nat → Int) (n : Nat) : (ivs z n).length = n := by simp [ivs]
theorem lows_le (l : List (Int × Int)) : (Ag.lows l).length ≤ l.length ∧ (Ag.highs l).length = (Ag.lows l).length := by
  simp [Ag.lows, Ag.highs]
  exact List.length_filter_le _ _
theorem lows_yes (l : List (Int × Int)) (a b : Int) (h : a ≤ b) : Ag.lows (l ++ [(a, b)]) = Ag.lows l ++ [a] ∧ Ag.highs (l ++ [(a, b)]) = Ag.highs l ++ [b] := by
  simp [Ag.lows, Ag.highs, List.filter_append, Ag.okB, h, List.filter_cons]
theorem lows_no (l : List (Int × Int)) (a b : Int) (h : b < a) : Ag.lows (l ++ [(a, b)]) = Ag.lows l ∧ Ag.highs (l ++ [(a, b)]) = Ag.highs l := by
  have h' : ¬ a ≤ b := by omega
  simp [Ag.lows, Ag.highs, List.filter_append, Ag.okB, h', List.filter_cons]
theorem sort_own (base : Nat) (v : Value) (xs : List Int) (W : World) (h : W.ownsRow base 3 1 v xs.length (xs.map (Value.int .i64))) (hl : xs.length < 4611686018427387904) :
    Calls Try.prog 15 #[v] W fun e W' => e = .returned (.tuple #[]) ∧ W.grownBy W' v.ownBlock ∧ W'.ownsRow base 3 1 v xs.length ((xs.mergeSort Ag.leB).map (Value.int .i64)) := by
  rcases h.2 with ⟨rfl, h0⟩ | ⟨g, cap, cur, rfl, hbase, hb, h1, h2, h3, h4⟩
  · have hx : xs = [] := List.length_eq_zero_iff.1 h0
    subst hx
    refine (Any.slices_Sort_int_none Try.lays189 none 0 W).mono ?_
    rintro e W' ⟨rfl, rfl⟩
    exact ⟨rfl, ⟨rfl, rfl, rfl, Nat.le_refl _, fun _ _ _ => rfl⟩, by simpa using h⟩
  · refine (Any.slices_Sort_int Try.lays189 g 0 cap xs W (holds_of_blockI hb (by simpa using h4)) ((Array.getElem?_eq_some_iff.1 hb).1) hl).mono ?_
    rintro e W' ⟨rfl, nn, os, rfl⟩
    exact ⟨rfl, grownBy_sortedI _, ownsRow_sortedI (by simp) hbase hb h1 h2 h3⟩
/-- A row's cells, one by one. -/
def RowAt (W : World) (p : Option Addr) (l : List Int) : Prop := 0 < l.length → ∃ B, p = some ⟨B, 0, none⟩ ∧ B < W.heap.size ∧ ∀ j (h : j < l.length), W.cell? ⟨B, j, none⟩ = some (.int .i64 l[j])
theorem own_row {W : World} {base : Nat} {e : TypeId} {v : Value} {l : List Int} (h : W.ownsRow base e 1 v l.length (l.map (Value.int .i64))) : ∃ p c, v = .slice p l.length c ∧ RowAt W p l := by
  have hc0 := fun g hg => h.cells (g := g) hg
  rcases h.2 with ⟨rfl, h0⟩ | ⟨g, cap, cur, rfl, hb', hh, _⟩
  · exact ⟨none, 0, by rw [h0], fun hn => absurd hn (by omega)⟩
  · refine ⟨_, _, rfl, fun hn => ⟨g, rfl, (h.lt g rfl).2, fun j hj => ?_⟩⟩
    have := hc0 g rfl j (.int .i64 l[j]) (by simp [hj])
    rwa [at_add, Nat.zero_add] at this
/-- A row's cells, off a block. -/
def RowOff (W : World) (p : Option Addr) (l : List Int) (bx : Nat) : Prop := 0 < l.length → ∃ B, p = some ⟨B, 0, none⟩ ∧ B < W.heap.size ∧ B ≠ bx ∧ ∀ j (h : j < l.length), W.cell? ⟨B, j, none⟩ = some (.int .i64 l[j])
theorem RowAt.off {W : World} {p : Option Addr} {l : List Int} (h : RowAt W p l) (o : Obj) : RowOff (W.alloc o) p l W.heap.size := by
  intro h0
  obtain ⟨B, rfl, hB, hc⟩ := h h0
  exact ⟨B, rfl, by simp; omega, by omega, fun j hj => (World.cell?_alloc_past o B j hB).trans (hc j hj)⟩
theorem RowOff.only {W W' : World} {p : Option Addr} {l : List Int} {bx : Nat} (h : RowOff W p l bx) (k : Only bx W W') : RowOff W' p l bx := by
  intro h0
  obtain ⟨B, rfl, hB, hn, hc⟩ := h h0
  exact ⟨B, rfl, Nat.lt_of_lt_of_le hB k.size, hn, fun j hj => (k.cell B j hB hn).trans (hc j hj)⟩
/-- Where the highs behind k lows begin. -/
def endK (A B : List Int) : Nat → Nat
  | 0 => 0
  | k + 1 => Ag.eB B (A.getD k 0)
theorem endK_le {A B : List Int} (hA : A.Pairwise (fun a b => a ≤ b)) (k : Nat) (hk : k < A.length) : endK A B k ≤ Ag.eB B A[k] := by
  cases k with
  | zero => exact Nat.zero_le _
  | succ k =>
    refine Ag.eB_mono B ?_
    rw [List.getD_eq_getElem?_getD, List.getElem?_eq_getElem (by omega)]
    exact List.pairwise_iff_getElem.1 hA k (k + 1) (by omega) hk (by omega)
/-- Behind k rounds of the second loop. -/
def Lp2 (A B : List Int) (w W3 wr : World) (bx k : Nat) (m o t : Value) : Prop := ∃ a b mm : Int, m = .int .i64 mm ∧ o = .int .i64 ((k : Int) - (endK A B k : Int)) ∧ t = .int .i64 (endK A B k : Int) ∧ Ag.Best A B k a b mm ∧ Ints2 wr bx a b ∧ Ints2 wr w.heap.size 0 0 ∧ Only bx W3 wr
/-- Behind k rounds of the first loop. -/
def Lp1 (z : Nat → Int) (w wr : World) (k : Nat) (v u : Value) : Prop := Two (w.heap.size + 1) wr v u (Ag.lows (ivs z k)) (Ag.highs (ivs z k)) ∧ Below w.heap.size w wr ∧ Ints2 wr w.heap.size 0 0
/-- What most of some intervals have in common is told. -/
def SomeMost (l : List (Int × Int)) (w : World) (e : Ending) (w' : World) : Prop := ∃ a b, ∃ m : Nat, e = .returned (.tuple #[.agg #[.int .i64 a, .int .i64 b], .int .i64 m]) ∧ Ag.MostIs l a b m ∧ Below w.heap.size w w'
set_option maxRecDepth 100000 in
set_option maxHeartbeats 4000000 in
theorem most_any (z : Nat → Int) (A : Option Addr) (n c : Nat) (w : World) (hn : n ≤ 100000) (hz : FlatAt w A 2 n z) :
    Calls Try.prog 10 #[.slice A n c] w (SomeMost (ivs z n) w) := by
  obtain ⟨i0, hi0, hz0, hz1, hz2⟩ := info_parts int_info
  have HZ := Lib.hid hz
  have hL0 : Lp1 z w (w.alloc (.cells #[.int .i64 0, .int .i64 0] 25)) 0 (.slice none 0 0) (.slice none 0 0) := ⟨Two.start _ _, by (repeat' (first | (with_reducible exact Below.refl _ _) | (with_reducible assumption) | (with_reducible refine Below.trans ?_ (Below.mono (by with_reducible assumption) ?_)) | (with_reducible refine Below.alloc ?_ ?_ _) | (with_reducible refine Below.setCell ?_ ?_ _) | (with_reducible refine below_drewN ?_ _) | (with_reducible refine Below.drew ?_) | go_size)), Ints2.new w 0 0 25⟩
  have HL0 := Lib.hid hL0
  clear hz hL0
  go_enter Try.func10, Try.ntmps10
  go_wp2
  go_loopw [4, 5, 16] (fun v u i wr => ∃ k : Nat, k ≤ n ∧ i = .int .i64 k ∧ Lp1 z w wr k v u) (fun _ _ i _ => n - (intOf i).toNat)
  case atStart => exact ⟨0, Nat.zero_le _, rfl, HL0.out⟩
  case round =>
    obtain ⟨k, hk, rfl, hT, HB, hO⟩ := hrel
    clear HL0
    have zr : w.heap.size < wr.heap.size := hO.lt
    by_cases hlt : k < n
    · obtain ⟨B, O, rfl, hB, hcells⟩ := HZ.out (by omega)
      have x0 : wr.cell? ⟨B, O + k * 2, none⟩ = some (.int .i64 (z (k * 2))) := (HB.cell (p := ⟨B, O + k * 2, none⟩) hB).trans (hcells (k * 2) (by omega)).1
      have x1 : wr.cell? ⟨B, O + k * 2 + 1, none⟩ = some (.int .i64 (z (k * 2 + 1))) := (HB.cell (p := ⟨B, O + (k * 2 + 1), none⟩) hB).trans (hcells (k * 2 + 1) (by omega)).1
      have hv := ivs_succ z k
      have hll := lows_le (ivs z k)
      rw [ivs_len] at hll
      have hy := lows_yes (ivs z k) (z (k * 2)) (z (k * 2 + 1))
      have hno := lows_no (ivs z k) (z (k * 2)) (z (k * 2 + 1))
      rw [← hv] at hy hno
      have HY := Lib.hid hy
      have HN := Lib.hid hno
      have lB : B < wr.heap.size := by omega
      have nB : B ≠ wr.heap.size := by omega
      have lk : (k : Int) < (n : Int) := by omega
      clear hcells hv hy hno
      generalize Ag.lows (ivs z k) = xs at *
      generalize Ag.highs (ivs z k) = ys at *
      generalize z (k * 2) = lo at *
      generalize z (k * 2 + 1) = hi at *
      have ST : St wr.heap.size w (wr.alloc (.cells #[.int .i64 lo, .int .i64 hi] 25)) u4 u5 xs ys lo hi := ⟨hT.alloc _, Ints2.new wr lo hi _, HB.alloc HB.size _, by simp; omega, fun e => by have := (hT.a.lt _ e).2; omega, fun e => by have := (hT.b.lt _ e).2; omega, hO.alloc _⟩
      have hls : xs.length ≤ k ∧ ys.length ≤ k := by omega
      clear hll
      have HST := Lib.hid ST
      by_cases hc : lo ≤ hi
      · clear hT HB hO
        go_wp2_with fail
        generalize wr.alloc (.cells #[.int .i64 lo, .int .i64 hi] 25) = wb at *
        generalize hbx : wr.heap.size = bx at *
        have S0 := ST.drew
        clear ST HST x0 x1
        refine wp_region_held_drew (S := fun w' => w'.cell? ⟨bx, 0, none⟩ = some (.int .i64 lo) ∧ w'.cell? ⟨bx, 1, none⟩ = some (.int .i64 hi)) (by kernel_rfl) ?_ (fun hHeld => ?_)
        · exact S0.held
        generalize hW0 : wb.drew = W0 at *
        clear hW0
        refine wpAnyH_take (i := 0) (v := ?_) rfl (by kernel_rfl) (by kernel_rfl) (by kernel_rfl) (fun _ _ _ h => h) (Or.inl ⟨by rfl, ?_⟩) (by assumption) ?_
        rotate_left
        · intro w' hSw; (try dsimp only at hSw); go_simp; (try with_reducible rfl)
        (try simp only [Act.put, List.setIfInBounds_toArray, List.set_cons_zero, List.set_cons_succ, List.getElem_toArray, List.getElem_cons_succ, List.getElem_cons_zero])
        refine wpAnyH_take (i := 1) (v := ?_) rfl (by kernel_rfl) (by kernel_rfl) (by kernel_rfl) (fun _ _ _ h => h) (Or.inl ⟨by rfl, ?_⟩) (by assumption) ?_
        rotate_left
        · intro w' hSw; (try dsimp only at hSw); go_simp; (try with_reducible rfl)
        (try simp only [Act.put, List.setIfInBounds_toArray, List.set_cons_zero, List.set_cons_succ, List.getElem_toArray, List.getElem_cons_succ, List.getElem_cons_zero])
        refine wpAnyH_take (i := 2) (v := ?_) rfl (by kernel_rfl) (by kernel_rfl) (by kernel_rfl) (fun _ _ _ h => h) (Or.inl ⟨by rfl, ?_⟩) (by assumption) ?_
        rotate_left
        · intro w' hSw; (try dsimp only at hSw); go_simp; (try with_reducible rfl)
        (try simp only [Act.put, List.setIfInBounds_toArray, List.set_cons_zero, List.set_cons_succ, List.getElem_toArray, List.getElem_cons_succ, List.getElem_cons_zero])
        refine wpAnyH_take (i := 5) (v := ?_) rfl (by kernel_rfl) (by kernel_rfl) (by kernel_rfl) (fun _ _ _ h => h) (Or.inl ⟨by rfl, ?_⟩) (by assumption) ?_
        rotate_left
        · intro w' hSw; (try dsimp only at hSw); go_simp; (try with_reducible rfl)
        (try simp only [Act.put, List.setIfInBounds_toArray, List.set_cons_zero, List.set_cons_succ, List.getElem_toArray, List.getElem_cons_succ, List.getElem_cons_zero])
        refine wpAnyH_take (i := 6) (v := ?_) rfl (by kernel_rfl) (by kernel_rfl) (by kernel_rfl) (fun _ _ _ h => h) (Or.inl ⟨by rfl, ?_⟩) (by assumption) ?_
        rotate_left
        · intro w' hSw; (try dsimp only at hSw); go_simp; (try with_reducible rfl)
        (try simp only [Act.put, List.setIfInBounds_toArray, List.set_cons_zero, List.set_cons_succ, List.getElem_toArray, List.getElem_cons_succ, List.getElem_cons_zero])
        refine wpAnyH_take (i := 7) (v := ?_) rfl (by kernel_rfl) (by kernel_rfl) (by kernel_rfl) (fun _ _ _ h => h) (Or.inl ⟨by rfl, ?_⟩) (by assumption) ?_
        rotate_left
        · intro w' hSw; (try dsimp only at hSw); go_simp; (try with_reducible rfl)
        (try simp only [Act.put, List.setIfInBounds_toArray, List.set_cons_zero, List.set_cons_succ, List.getElem_toArray, List.getElem_cons_succ, List.getElem_cons_zero])
        refine wpAnyH_ready (rs := [3, 8]) (by kernel_rfl) (by simp) ?_
        refine AllReadyH.cons rfl (fun K hK => ?_) (AllReadyH.cons rfl (fun K hK => ?_) (AllReadyH.nil))
        · go_simp
          (try dsimp only)
          refine hK.out _ _ ?_ (fun hHeld => ?_)
          · exact (S0.alloc (.cells #[.int .i64 lo] 3)).held
          clear hK K
          (try simp only [Act.put, List.setIfInBounds_toArray, List.set_cons_zero, List.set_cons_succ, List.getElem_toArray, List.getElem_cons_succ, List.getElem_cons_zero])
          have S1 := S0.alloc (.cells #[.int .i64 lo] 3)
          have Pa1 := Pend.new S0.two lo 3
          generalize hW1 : W0.alloc (.cells #[.int .i64 lo] 3) = W1 at *
          clear hW1
          refine wpAnyH_ready (rs := [4, 8]) (by kernel_rfl) (by simp) ?_
          refine AllReadyH.cons rfl (fun K hK => ?_) (AllReadyH.cons rfl (fun K hK => ?_) (AllReadyH.nil))
          · rw [if_pos (by rfl)]
            refine wp_append_lies _ _ _ _ (by rfl) (w.heap.size + 1) 3 i0 _ 1 8 Try.underlying35 hi0 hz0 hz1 hz2 rfl (by decide) _ _ _ (by rfl) S1.two.a ⟨W0.heap.size, 0, none⟩ 1 1 [.int .i64 lo] (by rfl) (by rfl) Pa1.news (by simp [Value.oneCell']) (by omega) (by unfold maxLen; omega) (by omega) S1.lt _ rfl ?_
            intro g2 cap2 W2 own2 hg2 hat2 hlt2
            have S2 := S1.appA own2 hg2 hat2
            (try dsimp only)
            refine hK.out _ _ ?_ (fun hHeld => ?_)
            · exact S2.held
            clear hK K
            (try simp only [Act.put, List.setIfInBounds_toArray, List.set_cons_zero, List.set_cons_succ, List.getElem_toArray, List.getElem_cons_succ, List.getElem_cons_zero])
            clear own2 hg2 hat2 hlt2
            refine wpAnyH_ready (rs := [8]) (by kernel_rfl) (by simp) ?_
            refine AllReadyH.cons rfl (fun K hK => ?_) (AllReadyH.nil)
            · go_simp
              (try dsimp only)
              refine hK.out _ _ ?_ (fun hHeld => ?_)
              · exact (S2.alloc (.cells #[.int .i64 hi] 3)).held
              clear hK K
              (try simp only [Act.put, List.setIfInBounds_toArray, List.set_cons_zero, List.set_cons_succ, List.getElem_toArray, List.getElem_cons_succ, List.getElem_cons_zero])
              have S3 := S2.alloc (.cells #[.int .i64 hi] 3)
              have Pb3 := Pend.new S2.two hi 3
              generalize hW3 : W2.alloc (.cells #[.int .i64 hi] 3) = W3 at *
              clear hW3
              refine wpAnyH_ready (rs := [9]) (by kernel_rfl) (by simp) ?_
              refine AllReadyH.cons rfl (fun K hK => ?_) (AllReadyH.nil)
              · rw [if_pos (by rfl)]
                refine wp_append_lies _ _ _ _ (by rfl) (w.heap.size + 1) 3 i0 _ 1 8 Try.underlying35 hi0 hz0 hz1 hz2 rfl (by decide) _ _ _ (by rfl) S3.two.b ⟨W2.heap.size, 0, none⟩ 1 1 [.int .i64 hi] (by rfl) (by rfl) Pb3.news (by simp [Value.oneCell']) (by omega) (by unfold maxLen; omega) (by omega) S3.lt _ rfl ?_
                intro g4 cap4 W4 own4 hg4 hat4 hlt4
                have S4 := S3.appB own4 hg4 hat4
                (try dsimp only)
                refine hK.out _ _ ?_ (fun hHeld => ?_)
                · exact S4.held
                clear hK K
                (try simp only [Act.put, List.setIfInBounds_toArray, List.set_cons_zero, List.set_cons_succ, List.getElem_toArray, List.getElem_cons_succ, List.getElem_cons_zero])
                clear own4 hg4 hat4 hlt4
                refine wpAnyH_take (i := 10) (v := ?_) rfl (by kernel_rfl) (by kernel_rfl) (by kernel_rfl) (fun _ _ _ h => h) (Or.inl ⟨by rfl, ?_⟩) (by assumption) ?_
                rotate_left
                · intro w' hSw; (try dsimp only at hSw); go_simp; (try with_reducible rfl)
                (try simp only [Act.put, List.setIfInBounds_toArray, List.set_cons_zero, List.set_cons_succ, List.getElem_toArray, List.getElem_cons_succ, List.getElem_cons_zero])
                refine wpAnyH_take (i := 11) (v := ?_) rfl (by kernel_rfl) (by kernel_rfl) (by kernel_rfl) (fun _ _ _ h => h) (Or.inl ⟨by rfl, ?_⟩) (by assumption) ?_
                rotate_left
                · intro w' hSw; (try dsimp only at hSw); go_simp; (try with_reducible rfl)
                (try simp only [Act.put, List.setIfInBounds_toArray, List.set_cons_zero, List.set_cons_succ, List.getElem_toArray, List.getElem_cons_succ, List.getElem_cons_zero])
                refine wpAnyH_done (by kernel_rfl) ?_ _
                have hE0 := S4.two
                rw [← (HY.out hc).1, ← (HY.out hc).2] at hE0
                have HE := Lib.hid (show Lp1 z w W4 (k + 1) _ _ from ⟨hE0, S4.hb, S4.out⟩)
                clear hE0
                clear S4
                (try clear hHeld)
                go_wp2
                go_roundw
                case rel => exact ⟨k + 1, by omega, by go_num, HE.out⟩
                case measure => simp [intOf]; omega
          · go_simp
            (try dsimp only)
            refine hK.out _ _ ?_ (fun hHeld => ?_)
            · exact (S1.alloc (.cells #[.int .i64 hi] 3)).held
            clear hK K
            (try simp only [Act.put, List.setIfInBounds_toArray, List.set_cons_zero, List.set_cons_succ, List.getElem_toArray, List.getElem_cons_succ, List.getElem_cons_zero])
            have S2 := S1.alloc (.cells #[.int .i64 hi] 3)
            have Pb2 := Pend.new S1.two hi 3
            have Pa2 := Pa1.alloc (.cells #[.int .i64 hi] 3)
            generalize hW2 : W1.alloc (.cells #[.int .i64 hi] 3) = W2 at *
            clear hW2
            refine wpAnyH_ready (rs := [4]) (by kernel_rfl) (by simp) ?_
            refine AllReadyH.cons rfl (fun K hK => ?_) (AllReadyH.nil)
            · rw [if_pos (by rfl)]
              refine wp_append_lies _ _ _ _ (by rfl) (w.heap.size + 1) 3 i0 _ 1 8 Try.underlying35 hi0 hz0 hz1 hz2 rfl (by decide) _ _ _ (by rfl) S2.two.a ⟨W0.heap.size, 0, none⟩ 1 1 [.int .i64 lo] (by rfl) (by rfl) Pa2.news (by simp [Value.oneCell']) (by omega) (by unfold maxLen; omega) (by omega) S2.lt _ rfl ?_
              intro g3 cap3 W3 own3 hg3 hat3 hlt3
              have S3 := S2.appA own3 hg3 hat3
              have Pb3 := Pb2.appA (n := xs.length + 1) (cap := cap3) hg3 hat3
              (try dsimp only)
              refine hK.out _ _ ?_ (fun hHeld => ?_)
              · exact S3.held
              clear hK K
              (try simp only [Act.put, List.setIfInBounds_toArray, List.set_cons_zero, List.set_cons_succ, List.getElem_toArray, List.getElem_cons_succ, List.getElem_cons_zero])
              clear own3 hg3 hat3 hlt3
              refine wpAnyH_ready (rs := [9]) (by kernel_rfl) (by simp) ?_
              refine AllReadyH.cons rfl (fun K hK => ?_) (AllReadyH.nil)
              · rw [if_pos (by rfl)]
                refine wp_append_lies _ _ _ _ (by rfl) (w.heap.size + 1) 3 i0 _ 1 8 Try.underlying35 hi0 hz0 hz1 hz2 rfl (by decide) _ _ _ (by rfl) S3.two.b ⟨W1.heap.size, 0, none⟩ 1 1 [.int .i64 hi] (by rfl) (by rfl) Pb3.news (by simp [Value.oneCell']) (by omega) (by unfold maxLen; omega) (by omega) S3.lt _ rfl ?_
                intro g4 cap4 W4 own4 hg4 hat4 hlt4
                have S4 := S3.appB own4 hg4 hat4
                (try dsimp only)
                refine hK.out _ _ ?_ (fun hHeld => ?_)
                · exact S4.held
                clear hK K
                (try simp only [Act.put, List.setIfInBounds_toArray, List.set_cons_zero, List.set_cons_succ, List.getElem_toArray, List.getElem_cons_succ, List.getElem_cons_zero])
                clear own4 hg4 hat4 hlt4
                refine wpAnyH_take (i := 10) (v := ?_) rfl (by kernel_rfl) (by kernel_rfl) (by kernel_rfl) (fun _ _ _ h => h) (Or.inl ⟨by rfl, ?_⟩) (by assumption) ?_
                rotate_left
                · intro w' hSw; (try dsimp only at hSw); go_simp; (try with_reducible rfl)
                (try simp only [Act.put, List.setIfInBounds_toArray, List.set_cons_zero, List.set_cons_succ, List.getElem_toArray, List.getElem_cons_succ, List.getElem_cons_zero])
                refine wpAnyH_take (i := 11) (v := ?_) rfl (by kernel_rfl) (by kernel_rfl) (by kernel_rfl) (fun _ _ _ h => h) (Or.inl ⟨by rfl, ?_⟩) (by assumption) ?_
                rotate_left
                · intro w' hSw; (try dsimp only at hSw); go_simp; (try with_reducible rfl)
                (try simp only [Act.put, List.setIfInBounds_toArray, List.set_cons_zero, List.set_cons_succ, List.getElem_toArray, List.getElem_cons_succ, List.getElem_cons_zero])
                refine wpAnyH_done (by kernel_rfl) ?_ _
                have hE0 := S4.two
                rw [← (HY.out hc).1, ← (HY.out hc).2] at hE0
                have HE := Lib.hid (show Lp1 z w W4 (k + 1) _ _ from ⟨hE0, S4.hb, S4.out⟩)
                clear hE0
                clear S4
                (try clear hHeld)
                go_wp2
                go_roundw
                case rel => exact ⟨k + 1, by omega, by go_num, HE.out⟩
                case measure => simp [intOf]; omega
        · go_simp
          (try dsimp only)
          refine hK.out _ _ ?_ (fun hHeld => ?_)
          · exact (S0.alloc (.cells #[.int .i64 hi] 3)).held
          clear hK K
          (try simp only [Act.put, List.setIfInBounds_toArray, List.set_cons_zero, List.set_cons_succ, List.getElem_toArray, List.getElem_cons_succ, List.getElem_cons_zero])
          have S1 := S0.alloc (.cells #[.int .i64 hi] 3)
          have Pb1 := Pend.new S0.two hi 3
          generalize hW1 : W0.alloc (.cells #[.int .i64 hi] 3) = W1 at *
          clear hW1
          refine wpAnyH_ready (rs := [3]) (by kernel_rfl) (by simp) ?_
          refine AllReadyH.cons rfl (fun K hK => ?_) (AllReadyH.nil)
          · go_simp
            (try dsimp only)
            refine hK.out _ _ ?_ (fun hHeld => ?_)
            · exact (S1.alloc (.cells #[.int .i64 lo] 3)).held
            clear hK K
            (try simp only [Act.put, List.setIfInBounds_toArray, List.set_cons_zero, List.set_cons_succ, List.getElem_toArray, List.getElem_cons_succ, List.getElem_cons_zero])
            have S2 := S1.alloc (.cells #[.int .i64 lo] 3)
            have Pa2 := Pend.new S1.two lo 3
            have Pb2 := Pb1.alloc (.cells #[.int .i64 lo] 3)
            generalize hW2 : W1.alloc (.cells #[.int .i64 lo] 3) = W2 at *
            clear hW2
            refine wpAnyH_ready (rs := [4]) (by kernel_rfl) (by simp) ?_
            refine AllReadyH.cons rfl (fun K hK => ?_) (AllReadyH.nil)
            · rw [if_pos (by rfl)]
              refine wp_append_lies _ _ _ _ (by rfl) (w.heap.size + 1) 3 i0 _ 1 8 Try.underlying35 hi0 hz0 hz1 hz2 rfl (by decide) _ _ _ (by rfl) S2.two.a ⟨W1.heap.size, 0, none⟩ 1 1 [.int .i64 lo] (by rfl) (by rfl) Pa2.news (by simp [Value.oneCell']) (by omega) (by unfold maxLen; omega) (by omega) S2.lt _ rfl ?_
              intro g3 cap3 W3 own3 hg3 hat3 hlt3
              have S3 := S2.appA own3 hg3 hat3
              have Pb3 := Pb2.appA (n := xs.length + 1) (cap := cap3) hg3 hat3
              (try dsimp only)
              refine hK.out _ _ ?_ (fun hHeld => ?_)
              · exact S3.held
              clear hK K
              (try simp only [Act.put, List.setIfInBounds_toArray, List.set_cons_zero, List.set_cons_succ, List.getElem_toArray, List.getElem_cons_succ, List.getElem_cons_zero])
              clear own3 hg3 hat3 hlt3
              refine wpAnyH_ready (rs := [9]) (by kernel_rfl) (by simp) ?_
              refine AllReadyH.cons rfl (fun K hK => ?_) (AllReadyH.nil)
              · rw [if_pos (by rfl)]
                refine wp_append_lies _ _ _ _ (by rfl) (w.heap.size + 1) 3 i0 _ 1 8 Try.underlying35 hi0 hz0 hz1 hz2 rfl (by decide) _ _ _ (by rfl) S3.two.b ⟨W0.heap.size, 0, none⟩ 1 1 [.int .i64 hi] (by rfl) (by rfl) Pb3.news (by simp [Value.oneCell']) (by omega) (by unfold maxLen; omega) (by omega) S3.lt _ rfl ?_
                intro g4 cap4 W4 own4 hg4 hat4 hlt4
                have S4 := S3.appB own4 hg4 hat4
                (try dsimp only)
                refine hK.out _ _ ?_ (fun hHeld => ?_)
                · exact S4.held
                clear hK K
                (try simp only [Act.put, List.setIfInBounds_toArray, List.set_cons_zero, List.set_cons_succ, List.getElem_toArray, List.getElem_cons_succ, List.getElem_cons_zero])
                clear own4 hg4 hat4 hlt4
                refine wpAnyH_take (i := 10) (v := ?_) rfl (by kernel_rfl) (by kernel_rfl) (by kernel_rfl) (fun _ _ _ h => h) (Or.inl ⟨by rfl, ?_⟩) (by assumption) ?_
                rotate_left
                · intro w' hSw; (try dsimp only at hSw); go_simp; (try with_reducible rfl)
                (try simp only [Act.put, List.setIfInBounds_toArray, List.set_cons_zero, List.set_cons_succ, List.getElem_toArray, List.getElem_cons_succ, List.getElem_cons_zero])
                refine wpAnyH_take (i := 11) (v := ?_) rfl (by kernel_rfl) (by kernel_rfl) (by kernel_rfl) (fun _ _ _ h => h) (Or.inl ⟨by rfl, ?_⟩) (by assumption) ?_
                rotate_left
                · intro w' hSw; (try dsimp only at hSw); go_simp; (try with_reducible rfl)
                (try simp only [Act.put, List.setIfInBounds_toArray, List.set_cons_zero, List.set_cons_succ, List.getElem_toArray, List.getElem_cons_succ, List.getElem_cons_zero])
                refine wpAnyH_done (by kernel_rfl) ?_ _
                have hE0 := S4.two
                rw [← (HY.out hc).1, ← (HY.out hc).2] at hE0
                have HE := Lib.hid (show Lp1 z w W4 (k + 1) _ _ from ⟨hE0, S4.hb, S4.out⟩)
                clear hE0
                clear S4
                (try clear hHeld)
                go_wp2
                go_roundw
                case rel => exact ⟨k + 1, by omega, by go_num, HE.out⟩
                case measure => simp [intOf]; omega
      · have hc' : hi < lo := by omega
        have hE0 := ST.two
        rw [← (HN.out hc').1, ← (HN.out hc').2] at hE0
        have HE := Lib.hid (show Lp1 z w _ (k + 1) _ _ from ⟨hE0, ST.hb, ST.out⟩)
        clear hE0 ST HST hT HB hO hc
        go_wp2
        go_roundw
        case rel => exact ⟨k + 1, by omega, by go_num, HE.out⟩
        case measure => simp [intOf]; omega
    · obtain rfl : k = n := by omega
      have hll := lows_le (ivs z k)
      rw [ivs_len] at hll
      have hsA := hT.a
      have HT := Lib.hid hT
      have HO := Lib.hid hO
      have HBB := Lib.hid HB
      clear hT hO HB hlt hk
      go_wp2_with fail
      refine (sort_own _ _ _ _ hsA (by omega)).mono ?_; rintro e W1 ⟨rfl, hg1, ha1⟩
      have hb1 := HT.out.b.kept hg1 (by
        cases hu : u5.ownBlock with
        | none => exact .inl rfl
        | some q => exact .inr fun e => HT.out.ne q e.symm hu)
      have ho1 := HO.out.grown hg1 (fun e => by have := (HT.out.a.lt _ e.symm).1; omega)
      have HB1 := HBB.out.grown hg1 HBB.out.size (fun q hq => by have := (HT.out.a.lt q hq).1; omega)
      clear hsA hg1
      go_wp2_with fail
      refine (sort_own _ _ _ _ hb1 (by omega)).mono ?_; rintro e W2 ⟨rfl, hg2, hb2⟩
      have ha2 := ha1.kept hg2 (by
        cases hu : u4.ownBlock with
        | none => exact .inl rfl
        | some q => exact .inr fun e => HT.out.ne q hu e.symm)
      have ho2 := ho1.grown hg2 (fun e => by have := (hb1.lt _ e.symm).1; omega)
      have HB2 := HB1.grown hg2 HB1.size (fun q hq => by have := (hb1.lt q hq).1; omega)
      clear hb1 ha1 hg2 ho1 HB1 HO HBB HT
      have hA : Ag.As (ivs z k) = (Ag.lows (ivs z k)).mergeSort Ag.leB := rfl
      have hBs : Ag.Bs (ivs z k) = (Ag.highs (ivs z k)).mergeSort Ag.leB := rfl
      have hls := Ag.lens (ivs z k)
      rw [← hA] at ha2
      rw [← hBs] at hb2
      have hl2 : (Ag.lows (ivs z k)).length = (Ag.As (ivs z k)).length := by rw [hA]; simp
      have hl3 : (Ag.highs (ivs z k)).length = (Ag.Bs (ivs z k)).length := by rw [hBs]; simp
      rw [hl2] at ha2 hll
      rw [hl3] at hb2 hll
      obtain ⟨pA, cA, rfl, hpA⟩ := own_row ha2
      obtain ⟨pB, cB, rfl, hpB⟩ := own_row hb2
      have HPA := Lib.hid (hpA.off (.cells #[.int .i64 0, .int .i64 0] 25))
      have HPB := Lib.hid (hpB.off (.cells #[.int .i64 0, .int .i64 0] 25))
      have hle := hll.2
      have hNk : (Ag.As (ivs z k)).length ≤ 100000 := by omega
      have HLE := Lib.hid (And.intro hle hNk)
      have hO3 := Lib.hid (ho2.alloc (.cells #[.int .i64 0, .int .i64 0] 25))
      have hX3 := Lib.hid (Ints2.new W2 0 0 25)
      have HB3 := Lib.hid (HB2.alloc HB2.size (.cells #[.int .i64 0, .int .i64 0] 25))
      have hz2' := HB2.size
      have ho2l := ho2.lt
      clear hA hBs hls hl2 hl3 ha2 hb2 hll hpA hpB HB2 ho2 hle
      have HBM := fun a b m => Ag.Best.most (l := ivs z k) (a := a) (b := b) (m := m)
      have HM := Lib.hid HBM
      have HSB := Lib.hid (Ag.sorted_Bs (ivs z k))
      have HSA := Lib.hid (Ag.sorted_As (ivs z k))
      have HEL := Lib.hid (Ag.eB_lt (ivs z k))
      clear HBM
      generalize Ag.As (ivs z k) = LA at *
      generalize Ag.Bs (ivs z k) = LB at *
      go_wp2
      generalize hW3 : W2.alloc (.cells #[.int .i64 0, .int .i64 0] 25) = W3 at *
      generalize hbx : W2.heap.size = bx at *
      clear hW3
      go_loopw [9, 10, 11, 42] (fun m o t i wr => ∃ k : Nat, k ≤ LA.length ∧ i = .int .i64 k ∧ Lp2 LA LB w W3 wr bx k m o t) (fun _ _ _ i _ => LA.length - (intOf i).toNat)
      case atStart => exact ⟨0, Nat.zero_le _, rfl, 0, 0, 0, rfl, rfl, rfl, Ag.Best.start _ _, hX3.out, hO3.out, Only.refl _ _⟩
      case round =>
        obtain ⟨j, hj, rfl, a, b, m, rfl, rfl, rfl, hbest, hX, hO, hOn⟩ := hrel
        clear hX3 hO3
        have hzw := hOn.size
        by_cases hlt : j < LA.length
        · obtain ⟨gA, rfl, hgA, nA, cA⟩ := HPA.out.only hOn (by omega)
          obtain ⟨gB, rfl, hgB, nB, cB⟩ := HPB.out.only hOn (by have := HLE.out; omega)
          have hE := HEL.out j hlt
          have hmore := hbest.more hlt hE
          have hstay := hbest.stay hlt
          have hcnt := Ag.count_lt_sorted LB HSB.out LA[j]
          have hele := endK_le (B := LB) HSA.out j hlt
          have hend : endK LA LB (j + 1) = Ag.eB LB LA[j] := by
            show Ag.eB LB (LA.getD j 0) = _
            rw [List.getD_eq_getElem?_getD, List.getElem?_eq_getElem hlt]
            rfl
          have xA := cA j hlt
          have xE := cB _ hE
          have hNB : (LB.length : Int) ≤ 100000 := by have := HLE.out; omega
          have hNA : (LA.length : Int) ≤ 100000 := by have := HLE.out; omega
          clear cA
          obtain ⟨hi, hhi⟩ : ∃ hi, LB[Ag.eB LB LA[j]] = hi := ⟨_, rfl⟩
          rw [hhi] at hmore xE
          have hno : ¬ hi < LA[j] := by rw [← hhi, hcnt]; omega
          clear hhi
          obtain ⟨lw, hlw⟩ : ∃ lw, LA[j] = lw := ⟨_, rfl⟩
          simp only [hlw] at hmore hcnt xA hele hend hE hstay xE hno
          obtain ⟨E, hEE⟩ : ∃ E, Ag.eB LB lw = E := ⟨_, rfl⟩
          simp only [hEE] at hmore hcnt hele hend hE hstay xE
          obtain ⟨en, hen⟩ : ∃ en, endK LA LB j = en := ⟨_, rfl⟩
          rw [hen] at hele ⊢
          have lj : (j : Int) < (LA.length : Int) := by omega
          have HCB := Lib.hid cB
          have HCNT := Lib.hid hcnt
          have HMO := Lib.hid hmore
          have HST := Lib.hid hstay
          have HEND := Lib.hid hend
          have hnn := hbest.nn
          have HBE := Lib.hid hbest
          have HX := Lib.hid hX
          have HO := Lib.hid hO
          obtain ⟨y0, y1, f0, f1, lx⟩ := hX
          clear cB hcnt hmore hstay hend hlw hEE hen hbest hO
          go_wp2
          go_loop [10, 11] (fun o t => ∃ s : Nat, en ≤ s ∧ s ≤ E ∧ o = .int .i64 ((j : Int) - (s : Int)) ∧ t = .int .i64 s) (fun _ t => E - (intOf t).toNat)
          case atStart => exact ⟨en, Nat.le_refl _, hele, rfl, rfl⟩
          case round =>
            obtain ⟨s, hs1, hs2, rfl, rfl⟩ := hrel
            by_cases hst : s < E
            · have hsl : s < LB.length := by omega
              have xs := HCB.out s hsl
              have hb := (HCNT.out s hsl).2 hst
              generalize LB[s] = y at *
              have hsl' : (s : Int) < (LB.length : Int) := by omega
              have hss : (s : Int) ≤ 100000 := by omega
              clear xE hno
              go_wp2
              go_round
              case rel => exact ⟨s + 1, by omega, by omega, by go_num, by go_num⟩
              case measure => simp [intOf]; omega
            · obtain rfl : s = E := by omega
              have hsl' : (s : Int) < (LB.length : Int) := by omega
              have hss : (s : Int) ≤ 100000 := by omega
              have hge : lw ≤ hi := by omega
              by_cases hm : m < (j : Int) - s + 1
              · clear hno
                go_wp2
                go_region
                all_goals
                  go_wp2
                  go_roundw
                  case rel => exact ⟨j + 1, by omega, by go_num, lw, hi, (j : Int) + 1 - s, by go_num, by rw [HEND.out]; go_num, by rw [HEND.out], HMO.out (by omega), by have hXX := HX.out; (repeat' (first | (with_reducible assumption) | (with_reducible apply Ints2.set0) | (with_reducible apply Ints2.set1) | (with_reducible refine Ints2.other ?_ ?_ _) | (with_reducible refine Ints2.alloc ?_ _) | (with_reducible refine Ints2.drewN ?_ _) | (with_reducible refine Ints2.drew ?_) | (with_reducible exact Ints2.new _ _ _ _) | go_size)), by have hOO := HO.out; (repeat' (first | (with_reducible assumption) | (with_reducible apply Ints2.set0) | (with_reducible apply Ints2.set1) | (with_reducible refine Ints2.other ?_ ?_ _) | (with_reducible refine Ints2.alloc ?_ _) | (with_reducible refine Ints2.drewN ?_ _) | (with_reducible refine Ints2.drew ?_) | (with_reducible exact Ints2.new _ _ _ _) | go_size)), by (repeat' (first | (with_reducible exact Only.refl _ _) | (with_reducible assumption) | (with_reducible refine Only.alloc ?_ _) | (with_reducible refine Only.setB ?_ _) | (refine Only.setCell ?_ (Or.inr ?_) _) | (with_reducible refine Only.drewN ?_ _) | (with_reducible refine Only.drew ?_) | (with_reducible refine Only.trans ?_ (by with_reducible assumption)) | (with_reducible refine Only.trans ?_ (Only.of_below (by with_reducible assumption))) | go_size))⟩
                  case measure => simp [intOf]; omega
              · clear hno
                go_wp2
                go_roundw
                case rel => exact ⟨j + 1, by omega, by go_num, a, b, m, rfl, by rw [HEND.out]; go_num, by rw [HEND.out], HST.out (by omega), HX.out, HO.out, hOn⟩
                case measure => simp [intOf]; omega
        · obtain rfl : j = LA.length := by omega
          have hmost := HM.out a b m hbest
          have hnn := hbest.nn
          have R0 := (hO.set0 a).c0
          have R1 := ((hO.set0 a).set1 b).c1
          have hBf : Below w.heap.size w wr := HB3.out.trans (hOn.below (by omega) HB3.out.size)
          have HMOST := Lib.hid hmost
          obtain ⟨x0, x1, g0, g1, lt⟩ := hX
          obtain ⟨y0, y1, f0, f1, lt'⟩ := hO
          clear hbest hmost hOn
          go_wp2
          refine bodyPost_ret (v := .tuple #[.agg #[.int .i64 a, .int .i64 b], .int .i64 m]) (by simp [results, Try.results10, go_sem, R0, R1]) rfl ⟨a, b, m.toNat, by rw [Int.toNat_of_nonneg hnn], HMOST.out, ?_⟩
          go_light
          (repeat' (first | (with_reducible exact Below.refl _ _) | (with_reducible assumption) | (with_reducible refine Below.trans ?_ (Below.mono (by with_reducible assumption) ?_)) | (with_reducible refine Below.alloc ?_ ?_ _) | (with_reducible refine Below.setCell ?_ ?_ _) | (with_reducible refine below_drewN ?_ _) | (with_reducible refine Below.drew ?_) | go_size))
end Go.Proofs.Ytdkcdaknifikeaa
