/- agree.Majority of any intervals; what is known of stage 7. -/
import Derived.Test.YtdkcdaknifikeaaMost
set_option linter.unusedSimpArgs false
set_option linter.unusedVariables false
namespace Go.Proofs.Ytdkcdaknifikeaa
open Go.RowKit

/-- What is told of a majority. -/
def majV (n : Nat) (m : Nat) (a : Int) : Int := if 2 * m ≤ n then 0 else a
def majE (n : Nat) (m : Nat) : Int := if 2 * m ≤ n then 7 else 0
def SomeMaj (l : List (Int × Int)) (w : World) (e : Ending) (w' : World) : Prop := ∃ a b, ∃ m : Nat, e = .returned (.tuple #[.agg #[.int .i64 (majV l.length m a), .int .i64 (majV l.length m b)], .int .i64 (majE l.length m)]) ∧ Ag.MostIs l a b m ∧ Below w.heap.size w w'
theorem most_le {l : List (Int × Int)} {a b : Int} {m : Nat} (h : Ag.MostIs l a b m) : m ≤ l.length := by
  rcases Nat.eq_zero_or_pos m with h0 | h0
  · omega
  · rw [← h.at_ h0]; exact List.countP_le_length
set_option maxHeartbeats 1000000 in
theorem maj_any (z : Nat → Int) (A : Option Addr) (n c : Nat) (w : World) (hn : n ≤ 100000) (hz : FlatAt w A 2 n z) :
    Calls Try.prog 12 #[.slice A n c] w (SomeMaj (ivs z n) w) := by
  have HB0 : Below w.heap.size w (w.alloc (.cells #[.int .i64 0, .int .i64 0] 25)) := by (repeat' (first | (with_reducible exact Below.refl _ _) | (with_reducible assumption) | (with_reducible refine Below.trans ?_ (Below.mono (by with_reducible assumption) ?_)) | (with_reducible refine Below.alloc ?_ ?_ _) | (with_reducible refine Below.setCell ?_ ?_ _) | (with_reducible refine below_drewN ?_ _) | (with_reducible refine Below.drew ?_) | go_size))
  have C := Lib.hid (most_any z A n c _ hn (hz.below HB0))
  have J0 := Lib.hid (Ints2.new w 0 0 25)
  clear hz
  go_enter Try.func12, Try.ntmps12
  go_wp2_with fail
  refine C.out.mono ?_; rintro e w1 ⟨a, b, m, rfl, hm, hb1⟩
  have hml := most_le hm
  rw [ivs_len] at hml
  have J1 := ((J0.out.below hb1 (by simp)).alloc (.cells #[.int .i64 a, .int .i64 b] 25))
  have HB1 : Below w.heap.size w w1 := HB0.trans (hb1.mono HB0.size)
  have HM := Lib.hid hm
  clear hb1 hm C J0
  have zz1 := HB1.size
  have hm2 : (m : Int) ≤ 100000 := by omega
  by_cases hc : 2 * m ≤ n
  · have hc' : (m : Int) * 2 ≤ (n : Int) := by omega
    have e1 : majE n m = 7 := by unfold majE; rw [if_pos hc]
    have e2 : ∀ x, majV n m x = 0 := fun x => by unfold majV; rw [if_pos hc]
    have R0 := (J1.set0 0).c0
    have R1 := ((J1.set0 0).set1 0).c1
    obtain ⟨y0, y1, f0, f1, lt'⟩ := J1
    clear hc
    have E1 := Lib.hid e1
    have E2 := Lib.hid e2
    clear e1 e2
    go_wp2
    refine bodyPost_ret (v := .tuple #[.agg #[.int .i64 0, .int .i64 0], .int .i64 7]) (by simp [results, Try.results12, go_sem, R0, R1]) rfl ⟨a, b, m, by rw [ivs_len, E1.out, E2.out, E2.out], HM.out, ?_⟩
    go_light
    (repeat' (first | (with_reducible exact Below.refl _ _) | (with_reducible assumption) | (with_reducible refine Below.trans ?_ (Below.mono (by with_reducible assumption) ?_)) | (with_reducible refine Below.alloc ?_ ?_ _) | (with_reducible refine Below.setCell ?_ ?_ _) | (with_reducible refine below_drewN ?_ _) | (with_reducible refine Below.drew ?_) | go_size))
  · have hc' : (n : Int) < (m : Int) * 2 := by omega
    have e1 : majE n m = 0 := by unfold majE; rw [if_neg hc]
    have e2 : ∀ x, majV n m x = x := fun x => by unfold majV; rw [if_neg hc]
    have R0 := (J1.set0 a).c0
    have R1 := ((J1.set0 a).set1 b).c1
    obtain ⟨y0, y1, f0, f1, lt'⟩ := J1
    clear hc
    have E1 := Lib.hid e1
    have E2 := Lib.hid e2
    clear e1 e2
    go_wp2
    refine bodyPost_ret (v := .tuple #[.agg #[.int .i64 a, .int .i64 b], .int .i64 0]) (by simp [results, Try.results12, go_sem, R0, R1]) rfl ⟨a, b, m, by rw [ivs_len, E1.out, E2.out, E2.out], HM.out, ?_⟩
    go_light
    (repeat' (first | (with_reducible exact Below.refl _ _) | (with_reducible assumption) | (with_reducible refine Below.trans ?_ (Below.mono (by with_reducible assumption) ?_)) | (with_reducible refine Below.alloc ?_ ?_ _) | (with_reducible refine Below.setCell ?_ ?_ _) | (with_reducible refine below_drewN ?_ _) | (with_reducible refine Below.drew ?_) | go_size))
def k6 (j : Nat) : Int := [1, 5, 4, 8, 7, 9].getD j 0
def k4 (j : Nat) : Int := [1, 2, 3, 4].getD j 0
theorem k6_is : Ag.MostIs (ivs k6 3) 4 5 2 := by
  have e : ivs k6 3 = [(1, 5), (4, 8), (7, 9)] := by decide
  have hle : ∀ x, Ag.cnt [(1, 5), (4, 8), (7, 9)] x ≤ 2 := fun x => by
    simp only [Ag.cnt, List.countP_cons, List.countP_nil, Ag.inB, Bool.and_eq_true, decide_eq_true_eq]
    split <;> split <;> split <;> omega
  rw [e]
  refine ⟨hle, fun h => absurd h (by omega), fun _ => by decide, fun x hx _ => ?_, fun _ => ⟨(1, 5), by simp, by decide, rfl⟩, ?_⟩
  · simp only [Ag.cnt, List.countP_cons, List.countP_nil, Ag.inB, Bool.and_eq_true, decide_eq_true_eq]
    split <;> split <;> split <;> omega
  · intro i hi _ hx
    simp at hi
    rcases hi with rfl | rfl | rfl <;> simp_all [Ag.inB]
theorem k4_is : Ag.MostIs (ivs k4 2) 1 2 1 := by
  have e : ivs k4 2 = [(1, 2), (3, 4)] := by decide
  have hle : ∀ x, Ag.cnt [(1, 2), (3, 4)] x ≤ 1 := fun x => by
    simp only [Ag.cnt, List.countP_cons, List.countP_nil, Ag.inB, Bool.and_eq_true, decide_eq_true_eq]
    split <;> split <;> omega
  rw [e]
  refine ⟨hle, fun h => absurd h (by omega), fun _ => by decide, fun x hx _ => ?_, fun _ => ⟨(1, 2), by simp, by decide, rfl⟩, ?_⟩
  · simp only [Ag.cnt, List.countP_cons, List.countP_nil, Ag.inB, Bool.and_eq_true, decide_eq_true_eq]
    split <;> split <;> omega
  · intro i hi _ hx
    simp at hi
    rcases hi with rfl | rfl <;> simp_all [Ag.inB]
theorem flat_new (w : World) (cs : List Int) (t : TypeId) (n : Nat) (h : cs.length = n * 2) (hb : ∀ x ∈ cs, -9223372036854775808 ≤ x ∧ x ≤ 9223372036854775807) : FlatAt (w.alloc (.cells (cs.map (Value.int .i64)).toArray t)) (some ⟨w.heap.size, 0, none⟩) 2 n (fun j => cs.getD j 0) := by
  intro h0
  refine ⟨w.heap.size, 0, rfl, by simp, fun j hj => ⟨?_, ?_⟩⟩
  · rw [World.cell?_alloc_new]
    have hj' : j < cs.length := by omega
    simp [hj', List.getD_eq_getElem?_getD]
  · have hj' : j < cs.length := by omega
    simp only [List.getD_eq_getElem?_getD, List.getElem?_eq_getElem hj', Option.getD_some]
    exact hb _ (List.getElem_mem _)
theorem flat6 (w : World) : FlatAt (w.alloc (.cells #[.int .i64 1, .int .i64 5, .int .i64 4, .int .i64 8, .int .i64 7, .int .i64 9] 25)) (some ⟨w.heap.size, 0, none⟩) 2 3 k6 := flat_new w [1, 5, 4, 8, 7, 9] 25 3 rfl (by simp)
theorem flat4 (w : World) : FlatAt (w.alloc (.cells #[.int .i64 1, .int .i64 2, .int .i64 3, .int .i64 4] 25)) (some ⟨w.heap.size, 0, none⟩) 2 2 k4 := flat_new w [1, 2, 3, 4] 25 2 rfl (by simp)
theorem maj_k4 : majE (ivs k4 2).length 1 = 7 ∧ ∀ x, majV (ivs k4 2).length 1 x = 0 := ⟨by decide, fun x => by unfold majV; rw [if_pos (by decide)]⟩
end Go.Proofs.Ytdkcdaknifikeaa
