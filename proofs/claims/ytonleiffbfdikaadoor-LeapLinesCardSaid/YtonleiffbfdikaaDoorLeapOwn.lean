/- own of stage 3: a copy of a table's leaps; leap.Print of what is no table. -/
import Derived.Test.YtonleiffbfdikaaDoorLeapOf
import Derived.Test.YtonleiffbfdikaaDoorRowSet
import Derived.Deep.AppendLies
import Derived.Deep.RegionLaw
import Derived.OwnWalk
set_option linter.unusedSimpArgs false
set_option linter.unusedVariables false
namespace Go.Proofs.YtonleiffbfdikaaDoor
open Go.RowKit

/-- A table's copy in a row of its own. -/
def Own3 (w w' : World) (n : Nat) (z : Nat → Int) (x : Int) (e : Ending) : Prop := ∃ g cap, e = .returned (.agg #[.slice (some ⟨g, 0, none⟩) n cap, .int .i64 x]) ∧ w.heap.size ≤ g ∧ w'.ownsRow w.heap.size 33 2 (.slice (some ⟨g, 0, none⟩) n cap) n (cellsOf z (n * 2))
set_option maxRecDepth 100000 in
set_option maxHeartbeats 4000000 in
theorem own_yes (ad : Addr) (n c : Nat) (x : Int) (z : Nat → Int) (w : World) (hz : FlatAt w (some ad) 2 n z) (hn : n ≤ 300) (h0 : 0 < n) :
    Calls Tryd.prog 21 #[.agg #[.slice (some ad) n c, .int .i64 x]] w fun e w' => Own3 w w' n z x e ∧ Below w.heap.size w w' := by
  obtain ⟨i0, hi, hz0, hz1, hz2⟩ := info_parts leap_info
  have HBX : Below w.heap.size w ((w.alloc (.cells #[.slice (some ad) n c, .int .i64 x] 24)).alloc (.cells #[.slice none 0 0, .int .i64 0] 24)) := by (repeat' (first | (with_reducible exact Below.refl _ _) | (with_reducible assumption) | (with_reducible refine Below.trans ?_ (Below.mono (by with_reducible assumption) ?_)) | (with_reducible refine Below.alloc ?_ ?_ _) | (with_reducible refine Below.setCell ?_ ?_ _) | (with_reducible refine below_drewN ?_ _) | (with_reducible refine Below.drew ?_) | go_size))
  have X0 : Tb ((w.alloc (.cells #[.slice (some ad) n c, .int .i64 x] 24)).alloc (.cells #[.slice none 0 0, .int .i64 0] 24)) w.heap.size (.slice (some ad) n c) x := ⟨by simp [go_sem], by simp [go_sem], by simp [go_sem], by simp [go_sem], by simp [World.size_alloc]; try omega⟩
  have Y0 : Tb ((w.alloc (.cells #[.slice (some ad) n c, .int .i64 x] 24)).alloc (.cells #[.slice none 0 0, .int .i64 0] 24)) (w.heap.size + 1) (.slice none 0 0) 0 := ⟨by simp [go_sem], by simp [go_sem], by simp [go_sem], by simp [go_sem], by simp [World.size_alloc]; try omega⟩
  have hz' := hz.below HBX
  have hs2 : ((w.alloc (.cells #[.slice (some ad) n c, .int .i64 x] 24)).alloc (.cells #[.slice none 0 0, .int .i64 0] 24)).heap.size = w.heap.size + 2 := by simp [World.size_alloc]
  clear hz
  go_enter Tryd.func21, Tryd.ntmps21
  go_wp2_with fail
  generalize ((w.alloc (.cells #[.slice (some ad) n c, .int .i64 x] 24)).alloc (.cells #[.slice none 0 0, .int .i64 0] 24)) = w2 at *
  have hsz2 : w.heap.size + 1 < w2.heap.size := by omega
  have hsz1 : w.heap.size < w2.heap.size := by omega
  have HBA : Below w2.heap.size w2 (w2.alloc (.cells #[] 33)) := by (repeat' (first | (with_reducible exact Below.refl _ _) | (with_reducible assumption) | (with_reducible refine Below.trans ?_ (Below.mono (by with_reducible assumption) ?_)) | (with_reducible refine Below.alloc ?_ ?_ _) | (with_reducible refine Below.setCell ?_ ?_ _) | (with_reducible refine below_drewN ?_ _) | (with_reducible refine Below.drew ?_) | go_size))
  have hsrc := (hz'.below HBA).cells
  have hmade := World.ownsRow_made (base := w.heap.size) (e := 33) (size := 2) w2 #[] 0 (by omega) (Nat.zero_le _) rfl
  have hmadeD : (w2.alloc (.cells #[] 33)).drew.ownsRow w.heap.size 33 2 (.slice (some ⟨w2.heap.size, 0, none⟩) 0 0) 0 [] := hmade
  have hsrcD : ∀ j u, (cellsOf z (n * 2))[j]? = some u → (w2.alloc (.cells #[] 33)).drew.cell? (ad.add j) = some u := hsrc
  have HBD : Below w2.heap.size w2 (w2.alloc (.cells #[] 33)).drew := ⟨HBA.os, HBA.tape, HBA.output, HBA.size, HBA.block⟩
  clear hmade hsrc HBA
  have XX := Lib.hid X0
  have YY := Lib.hid Y0
  have HZB := Lib.hid hz'.bd
  obtain ⟨x0, x1, xf0, xf1, xl⟩ := X0
  obtain ⟨y0, y1, yf0, yf1, yl⟩ := Y0
  clear hz' hs2
  go_region_law
    ((refine step_append_lies _ (by rfl) _ _ _ (by rfl) w.heap.size 33 i0 _ 2 16 Tryd.underlying22 hi hz0 hz1 hz2 rfl (by decide) (.slice (some ⟨w2.heap.size, 0, none⟩) 0 0) 0 [] (by rfl) hmadeD
        ad n c (cellsOf z (n * 2)) (by rfl) (cellsOf_len _ _) hsrcD (cellsOf_one _ _) (by omega) (by unfold maxLen; omega) (by omega) (by simp; try omega) (w2.heap.size + 1) (by simp) ?_; intro g cap w3 hown hgrow hat hlt; have hb23 : Below w2.heap.size w2 w3 := (HBD.grown hgrow (by simp) (fun k hk => (by simp [Value.ownBlock] at hk; omega))); have X3 := XX.out.below hb23; have Y3 := YY.out.below hb23; obtain ⟨p0, p1, pf0, pf1, pl⟩ := X3; obtain ⟨q0, q1, qf0, qf1, ql⟩ := Y3))
  all_goals
    have hg : w2.heap.size ≤ g := by
      rcases hat with h | h
      · simp [Value.ownBlock] at h; omega
      · omega
    have R := ((⟨q0, q1, qf0, qf1, ql⟩ : Tb w3 (w.heap.size + 1) (.slice none 0 0) 0).set0 (.slice (some ⟨g, 0, none⟩) n cap)).set1 x
    have R0 := R.c0
    have R1 := R.c1
    have hown' : w3.ownsRow w.heap.size 33 2 (.slice (some ⟨g, 0, none⟩) n cap) n (cellsOf z (n * 2)) := by simpa using hown
    have ZB := Lib.hid (((HBX.trans (hb23.mono HBX.size)).setCell (p := ⟨w.heap.size + 1, 0, none⟩) (by show w.heap.size ≤ w.heap.size + 1; omega) (.slice (some ⟨g, 0, none⟩) n cap)).setCell (p := ⟨w.heap.size + 1, 1, none⟩) (by show w.heap.size ≤ w.heap.size + 1; omega) (.int .i64 x))
    have ZR : Hid (((w3.setCell ⟨w.heap.size + 1, 0, none⟩ (.slice (some ⟨g, 0, none⟩) n cap)).setCell ⟨w.heap.size + 1, 1, none⟩ (.int .i64 x)).ownsRow w.heap.size 33 2 (.slice (some ⟨g, 0, none⟩) n cap) n (cellsOf z (n * 2))) :=
      (But.of_only (S := fun k => k = w.heap.size + 1) (((Only.refl _ w3).setB _).setB _) rfl).row hown' (fun k hk e => by simp [Value.ownBlock] at hk; omega)
    have HG : Hid (w.heap.size ≤ g) := by show w.heap.size ≤ g; omega
    clear hown hown' hgrow hat hlt R hb23 hsrcD hmadeD HBD HBX XX YY
    go_wp2_with fail
    refine bodyPost_ret (v := .agg #[.slice (some ⟨g, 0, none⟩) n cap, .int .i64 x]) (by simp [results, Tryd.results21, go_sem, R0, R1]) rfl ⟨⟨g, cap, rfl, HG.out, ZR.out⟩, ZB.out⟩
set_option maxHeartbeats 1000000 in
theorem leap_print_no (A : Option Addr) (n c : Nat) (x : Int) (z : Nat → Int) (w : World) (hz : FlatAt w A 2 n z) (hn : n ≤ maxLen) (ht : ¬ IsTab z n x) :
    Calls Tryd.prog 20 #[.agg #[.slice A n c, .int .i64 x]] w fun e w' => e = .returned (.tuple #[.string ⟨#[]⟩, .int .i64 1]) ∧ Below w.heap.size w w' := by
  have HB0 : Below w.heap.size w (w.alloc (.cells #[.slice A n c, .int .i64 x] 24)) := by (repeat' (first | (with_reducible exact Below.refl _ _) | (with_reducible assumption) | (with_reducible refine Below.trans ?_ (Below.mono (by with_reducible assumption) ?_)) | (with_reducible refine Below.alloc ?_ ?_ _) | (with_reducible refine Below.setCell ?_ ?_ _) | (with_reducible refine below_drewN ?_ _) | (with_reducible refine Below.drew ?_) | go_size))
  have HI := Lib.hid (leap_is_no A n c x z _ (hz.below HB0) hn ht)
  clear hz hn ht
  go_enter Tryd.func20, Tryd.ntmps20
  go_wp2_with fail
  refine HI.out.mono ?_; rintro e w1 ⟨rfl, hb1⟩
  have HB1 := HB0.trans (hb1.mono HB0.size)
  clear hb1
  go_wp2
  go_ret2
  exact ⟨rfl, HB1⟩
end Go.Proofs.YtonleiffbfdikaaDoor
