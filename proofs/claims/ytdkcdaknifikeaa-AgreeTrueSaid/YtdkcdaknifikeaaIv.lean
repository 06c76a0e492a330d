/- Rows of intervals that the call owns. -/
import Derived.Test.YtdkcdaknifikeaaKnown7
import Derived.Test.YtdkcdaknifikeaaLow40
set_option linter.unusedSimpArgs false
set_option linter.unusedVariables false
namespace Go.Proofs.Ytdkcdaknifikeaa
open Go.RowKit

theorem iv_info : (Try.prog.info? 25).map (fun i => (i.zero, i.size, i.bytes)) = some (some (.agg #[.int .i64 0, .int .i64 0]), 2, 16) := by kernel_rfl
def zl (l : List (Int × Int)) (j : Nat) : Int := if j % 2 = 0 then (l.getD (j / 2) (0, 0)).1 else (l.getD (j / 2) (0, 0)).2
theorem zl_ivs (z : Nat → Int) (n j : Nat) (h : j < n * 2) : zl (ivs z n) j = z j := by
  have h2 : j / 2 < n := by omega
  unfold zl
  rw [List.getD_eq_getElem?_getD, List.getElem?_eq_getElem (by rw [ivs_len]; exact h2)]
  simp only [ivs, List.getElem_map, List.getElem_range, Option.getD_some]
  split
  · congr 1; omega
  · congr 1; omega
theorem cellsOf_congr {z y : Nat → Int} {k : Nat} (h : ∀ j, j < k → z j = y j) : cellsOf z k = cellsOf y k := by
  unfold cellsOf
  apply List.map_congr_left
  intro j hj
  rw [h j (by simpa using hj)]
theorem cells_ivs (z : Nat → Int) (n : Nat) : cellsOf z (n * 2) = cellsOf (zl (ivs z n)) (n * 2) := cellsOf_congr fun j hj => (zl_ivs z n j hj).symm
theorem ivs_zl (l : List (Int × Int)) : ivs (zl l) l.length = l := by
  apply List.ext_getElem (ivs_len _ _)
  intro j h1 h2
  have e0 : j * 2 % 2 = 0 := by omega
  have e1 : j * 2 / 2 = j := by omega
  have e2 : (j * 2 + 1) % 2 = 1 := by omega
  have e3 : (j * 2 + 1) / 2 = j := by omega
  simp [ivs, zl, e0, e1, e2, e3, List.getD_eq_getElem?_getD, h2]
theorem zl_snoc (l : List (Int × Int)) (i : Int × Int) : cellsOf (zl (l ++ [i])) ((l.length + 1) * 2) = cellsOf (zl l) (l.length * 2) ++ [.int .i64 i.1, .int .i64 i.2] := by
  rw [show (l.length + 1) * 2 = l.length * 2 + 1 + 1 from by omega]
  unfold cellsOf
  rw [List.range_succ, List.range_succ]
  simp only [List.map_append, List.map_cons, List.map_nil, List.append_assoc, List.cons_append, List.nil_append]
  have e2 : (l.length * 2 + 1) % 2 = 1 := by omega
  have e3 : (l.length * 2 + 1) / 2 = l.length := by omega
  congr 1
  · apply List.map_congr_left
    intro j hj
    have hj : j < l.length * 2 := by simpa using hj
    have h2 : j / 2 < l.length := by omega
    simp [zl, List.getD_eq_getElem?_getD, List.getElem?_append_left h2]
  · simp [zl, e2, e3, List.getD_eq_getElem?_getD]
/-- Ints that an int tells. -/
def Tells (l : List (Int × Int)) : Prop := ∀ i ∈ l, (-9223372036854775808 ≤ i.1 ∧ i.1 ≤ 9223372036854775807) ∧ (-9223372036854775808 ≤ i.2 ∧ i.2 ≤ 9223372036854775807)
theorem Tells.at_ {l : List (Int × Int)} (h : Tells l) (j : Nat) (hj : j < l.length * 2) : -9223372036854775808 ≤ zl l j ∧ zl l j ≤ 9223372036854775807 := by
  have h2 : j / 2 < l.length := by omega
  have := h _ (List.getElem_mem h2)
  unfold zl
  rw [List.getD_eq_getElem?_getD, List.getElem?_eq_getElem h2, Option.getD_some]
  split
  · exact this.1
  · exact this.2
/-- A row of intervals that the call owns. -/
def POwn (base : Nat) (W : World) (v : Value) (l : List (Int × Int)) : Prop := W.ownsRow base 25 2 v l.length (cellsOf (zl l) (l.length * 2))
theorem POwn.flat {base : Nat} {W : World} {v : Value} {l : List (Int × Int)} (h : POwn base W v l) (hb : Tells l) : ∃ A c, v = .slice A l.length c ∧ FlatAt W A 2 l.length (zl l) := by
  have hc0 := fun g hg => World.ownsRow.cells h (g := g) hg
  rcases h.2 with ⟨rfl, h0⟩ | ⟨g, cap, cur, rfl, hb', hh, _⟩
  · exact ⟨none, 0, by rw [h0], fun hn => absurd hn (by omega)⟩
  · refine ⟨_, _, rfl, fun hn => ⟨g, 0, rfl, (World.ownsRow.lt h g rfl).2, fun j hj => ⟨?_, hb.at_ j hj⟩⟩⟩
    have := hc0 g rfl j _ (cellsOf_at (zl l) (l.length * 2) j hj)
    rwa [at_add] at this
theorem FlatAt.tells {W : World} {A : Option Addr} {n : Nat} {z : Nat → Int} (h : FlatAt W A 2 n z) : Tells (ivs z n) := by
  intro i hi
  obtain ⟨j, hj, rfl⟩ := List.mem_map.1 hi
  have hj : j < n := by simpa using hj
  obtain ⟨B, O, _, _, hc⟩ := h (by omega)
  exact ⟨(hc (j * 2) (by omega)).2, (hc (j * 2 + 1) (by omega)).2⟩
theorem most_list {l : List (Int × Int)} {A : Option Addr} {c : Nat} {W : World} (hz : FlatAt W A 2 l.length (zl l)) (hn : l.length ≤ 100000) : Calls Try.prog 10 #[.slice A l.length c] W (SomeMost l W) := by
  have := most_any (zl l) A l.length c W hn hz
  rwa [ivs_zl] at this
theorem maj_list {l : List (Int × Int)} {A : Option Addr} {c : Nat} {W : World} (hz : FlatAt W A 2 l.length (zl l)) (hn : l.length ≤ 100000) : Calls Try.prog 12 #[.slice A l.length c] W (SomeMaj l W) := by
  have := maj_any (zl l) A l.length c W hn hz
  rwa [ivs_zl] at this
theorem POwn.snoc {base : Nat} {W' : World} {v' : Value} {l : List (Int × Int)} {i : Int × Int} (h : W'.ownsRow base 25 2 v' (l.length + 1) (cellsOf (zl l) (l.length * 2) ++ [.int .i64 i.1, .int .i64 i.2])) : POwn base W' v' (l ++ [i]) := by
  unfold POwn
  rw [List.length_append, List.length_singleton, zl_snoc]
  exact h
theorem POwn.nil (base : Nat) (W : World) : POwn base W (.slice none 0 0) [] := World.ownsRow_nil _ _ _ _
theorem POwn.drew {base : Nat} {W : World} {v : Value} {l : List (Int × Int)} (h : POwn base W v l) : POwn base W.drew v l := h
theorem POwn.alloc {base : Nat} {W : World} {v : Value} {l : List (Int × Int)} (h : POwn base W v l) (o : Obj) : POwn base (W.alloc o) v l := World.ownsRow.alloc h o
theorem POwn.kept {base : Nat} {W W' : World} {v : Value} {l : List (Int × Int)} (h : POwn base W v l) (hb : Below W.heap.size W W') : POwn base W' v l := by
  refine ⟨h.1, ?_⟩
  rcases h.2 with hn | ⟨g, cap, cur, rfl, hb2, hgg, rest⟩
  · exact .inl hn
  · refine .inr ⟨g, cap, cur, rfl, hb2, ?_, rest⟩
    rw [hb.block g (Array.getElem?_eq_some_iff.1 hgg).1]
    exact hgg
set_option maxHeartbeats 1000000 in
theorem own7_some (z : Nat → Int) (ad : Addr) (n c : Nat) (w : World) (hz : FlatAt w (some ad) 2 n z) (hn : n ≤ 100000) :
    Calls Try.prog 9 #[.slice (some ad) n c] w fun e w' => ∃ v, e = .returned v ∧ POwn w.heap.size w' v (ivs z n) ∧ Below w.heap.size w w' := by
  obtain ⟨i0, hi, hz0, hz1, hz2⟩ := info_parts iv_info
  have HW0 : Below w.heap.size w (w.alloc (.cells #[] 25)) := by (repeat' (first | (with_reducible exact Below.refl _ _) | (with_reducible assumption) | (with_reducible refine Below.trans ?_ (Below.mono (by with_reducible assumption) ?_)) | (with_reducible refine Below.alloc ?_ ?_ _) | (with_reducible refine Below.setCell ?_ ?_ _) | (with_reducible refine below_drewN ?_ _) | (with_reducible refine Below.drew ?_) | go_size))
  have hsrc := (hz.below HW0).cells
  have hce := Lib.hid (cells_ivs z n)
  clear hz
  go_enter Try.func9, Try.ntmps9
  go_wp2_with (at_builtin; refine wpList_append_own _ rfl (.tmp 3) (.tmp 4) _ rfl w.heap.size 25 i0 _ 2 16 Try.underlying22 hi hz0 hz1 hz2 rfl (by decide) (.slice (some ⟨w.heap.size, 0, none⟩) 0 0) 0 [] rfl (World.ownsRow_made w #[] 0 (Nat.le_refl _) (Nat.zero_le _) rfl) ad n c (cellsOf z (n * 2)) rfl (cellsOf_len _ _) hsrc (cellsOf_one _ _) (by unfold maxLen; omega) (by omega) (by simp) ?_; intro v1 w1 hown1 hg1 hat1)
  have hown : w1.ownsRow w.heap.size 25 2 v1 n (cellsOf z (n * 2)) := by simpa using hown1
  have HB1 : Below w.heap.size w w1 := HW0.grown hg1 (by simp) (fun k hk => by simp [Value.ownBlock] at hk; omega)
  have hP : POwn w.heap.size w1 v1 (ivs z n) := by unfold POwn; rw [ivs_len, ← hce.out]; exact hown
  clear hown hown1 hg1 hat1 hsrc HW0
  have HP := Lib.hid hP
  clear hP
  go_ret
  exact ⟨v1, rfl, HP.out, HB1⟩
theorem own7_nil (w : World) :
    Calls Try.prog 9 #[.slice none 0 0] w fun e w' => ∃ v, e = .returned v ∧ POwn w.heap.size w' v [] ∧ Below w.heap.size w w' := by
  go_enter Try.func9, Try.ntmps9
  go_wp2
  go_ret
  exact ⟨_, rfl, World.ownsRow_made w #[] 0 (Nat.le_refl _) (Nat.zero_le _) rfl, by (repeat' (first | (with_reducible exact Below.refl _ _) | (with_reducible assumption) | (with_reducible refine Below.trans ?_ (Below.mono (by with_reducible assumption) ?_)) | (with_reducible refine Below.alloc ?_ ?_ _) | (with_reducible refine Below.setCell ?_ ?_ _) | (with_reducible refine below_drewN ?_ _) | (with_reducible refine Below.drew ?_) | go_size))⟩
/-- own, of any slice that may be an argument. -/
theorem own7_any (z : Nat → Int) (A : Option Addr) (n c : Nat) (w : World) (hA : A = none → n = 0 ∧ c = 0) (hz : FlatAt w A 2 n z) (hn : n ≤ 100000) :
    Calls Try.prog 9 #[.slice A n c] w fun e w' => ∃ v, e = .returned v ∧ POwn w.heap.size w' v (ivs z n) ∧ Below w.heap.size w w' := by
  cases A with
  | none => obtain ⟨rfl, rfl⟩ := hA rfl; exact own7_nil w
  | some ad => exact own7_some z ad n c w hz hn
end Go.Proofs.Ytdkcdaknifikeaa
