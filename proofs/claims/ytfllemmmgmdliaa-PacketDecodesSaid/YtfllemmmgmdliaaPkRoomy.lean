/- Bytes with room behind them: roomy, stands. -/
import Derived.Test.YtfllemmmgmdliaaPkOk
import Derived.Test.YtfllemmmgmdliaaPkZeros
set_option linter.unusedSimpArgs false
set_option linter.unusedVariables false
namespace Go.Proofs.Ytfllemmmgmdliaa
open Go.ChangeShapes Go.WideShapes Go.ChangeAt Go.RowKit Go.Joins

theorem BytesAt.cells {w : World} {ad : Addr} {n : Nat} {f : Nat → Int} (h : BytesAt w (some ad) n f) : ∀ j u, (bytesC f n)[j]? = some u → w.cell? (ad.add j) = some u := by
  intro j u hu
  have hj : j < n := by
    rcases Nat.lt_or_ge j n with q | q
    · exact q
    · rw [List.getElem?_eq_none (by rw [bytesC_len]; exact q)] at hu; cases hu
  rw [bytesC_at f n j hj] at hu
  injection hu with hu
  subst hu
  obtain ⟨B, O, he, _, hc⟩ := h (by omega)
  injection he with he
  subst he
  rw [show (Addr.mk B O none).add j = ⟨B, O + j, none⟩ from add_plain _ _ _]
  exact hc j hj
theorem bytesC_one (f : Nat → Int) (n : Nat) : ∀ u ∈ bytesC f n, u.oneCell' = true := by
  intro u hu
  simp [bytesC] at hu
  obtain ⟨j, _, rfl⟩ := hu
  rfl
/-- The bytes, and 171 behind them. -/
def rmF (f : Nat → Int) (n j : Nat) : Int := if j < n then f j else 171
theorem rm_cells (f : Nat → Int) (n : Nat) : bytesC (rmF f n) (n + 2) = bytesC f n ++ [.int .u8 171] ++ [.int .u8 171] := by
  rw [bytesC_succ, bytesC_succ, bytesC_congr (f' := f) (fun j hj => by unfold rmF; rw [if_pos hj])]
  have e1 : rmF f n n = 171 := by unfold rmF; rw [if_neg (by omega)]
  have e2 : rmF f n (n + 1) = 171 := by unfold rmF; rw [if_neg (by omega)]
  rw [e1, e2]
theorem own_cap {w : World} {base : Nat} {e : TypeId} {size g n cap : Nat} {xs : List Value} (h : w.ownsRow base e size (.slice (some ⟨g, 0, none⟩) n cap) n xs) : n ≤ cap := by
  rcases h.2 with ⟨h, _⟩ | ⟨g', cap', cur, h, _, _, h1, _⟩
  · cases h
  · injection h with _ _ h3
    omega
set_option maxHeartbeats 2000000 in
theorem roomy_some (ad : Addr) (n c : Nat) (f : Nat → Int) (w : World) (hB : BytesAt w (some ad) n f) (hn : n ≤ 1000) :
    Calls Try.prog 12 #[.slice (some ad) n c] w fun e w' => ∃ g cap, e = .returned (.slice (some ⟨g, 0, none⟩) (n + 1) cap) ∧ n + 1 ≤ cap ∧ w.heap.size ≤ g ∧ BytesAt w' (some ⟨g, 0, none⟩) (n + 1) (rmF f n) ∧ Below w.heap.size w w' := by
  obtain ⟨i0, hi, hz0, hz1, hz2⟩ := info_parts u8_info
  have HW0 : Below w.heap.size w (w.alloc (.cells #[] 5)) := by (repeat' (first | (with_reducible exact Below.refl _ _) | (with_reducible assumption) | (with_reducible refine Below.trans ?_ (Below.mono (by with_reducible assumption) ?_)) | (with_reducible refine Below.alloc ?_ ?_ _) | (with_reducible refine Below.setCell ?_ ?_ _) | (with_reducible refine below_drewN ?_ _) | (with_reducible refine Below.drew ?_) | go_size))
  have hsrc := (hB.below HW0).cells
  have hni : (n : Int) ≤ 1000 := by omega
  clear hB
  go_enter Try.func12, Try.ntmps12
  go_wp2_with (first | (at_builtin; refine wpList_append_own _ rfl (.tmp 3) (.tmp 4) _ rfl w.heap.size 5 i0 _ 1 1 Try.underlying25 hi hz0 hz1 hz2 rfl (by decide) (.slice (some ⟨w.heap.size, 0, none⟩) 0 0) 0 [] rfl (World.ownsRow_made w #[] 0 (Nat.le_refl _) (Nat.zero_le _) rfl) ad n c (bytesC f n) rfl (by rw [bytesC_len]; omega) hsrc (bytesC_one _ _) (by unfold maxLen; omega) (by omega) (by simp) ?_; intro v1 w1 hown0 hg1 hat1; have hown1 : w1.ownsRow w.heap.size 5 1 v1 n (bytesC f n) := by simpa using hown0) | (at_builtin; refine wpList_append_lies _ rfl (.tmp 5) (.tmp 6) _ rfl w.heap.size 5 i0 _ 1 1 Try.underlying25 hi hz0 hz1 hz2 rfl (by decide) v1 n _ rfl (World.ownsRow.alloc hown1 _) ⟨w1.heap.size, 0, none⟩ 1 1 [.int .u8 171] rfl rfl (World.news_of_block (cs := #[.int .u8 171]) (t := 5) (fr := (0, 0)) (heap_alloc_new w1 _)) (by simp [Value.oneCell']) (by omega) (by unfold maxLen; omega) (by omega) (by have := HW0.size; have := hg1.size; simp at *; omega) _ rfl ?_; intro g2 cap2 w2 hown2 hg2 hat2 hlt2) | (at_builtin; refine wpList_append_lies _ rfl (.tmp 7) (.tmp 8) _ rfl w.heap.size 5 i0 _ 1 1 Try.underlying25 hi hz0 hz1 hz2 rfl (by decide) (.slice (some ⟨g2, 0, none⟩) (n + 1) cap2) (n + 1) _ rfl (World.ownsRow.alloc hown2 _) ⟨w2.heap.size, 0, none⟩ 1 1 [.int .u8 171] rfl rfl (World.news_of_block (cs := #[.int .u8 171]) (t := 5) (fr := (0, 0)) (heap_alloc_new w2 _)) (by simp [Value.oneCell']) (by omega) (by unfold maxLen; omega) (by omega) (by have := HW0.size; have := hg1.size; have := hg2.size; simp at *; omega) _ rfl ?_; intro g3 cap3 w3 hown3 hg3 hat3 hlt3; have hci : (n : Int) + 1 ≤ (cap3 : Int) := by have := own_cap hown3; omega))
  have hown : w3.ownsRow w.heap.size 5 1 (.slice (some ⟨g3, 0, none⟩) (n + 2) cap3) (n + 2) (bytesC (rmF f n) (n + 2)) := by rw [rm_cells]; exact hown3
  have HB : Below w.heap.size w w3 := by
    have h1 := HW0.grown hg1 (by simp) (fun k hk => by simp [Value.ownBlock] at hk; omega)
    have h2 := (h1.alloc h1.size (.cells #[.int .u8 171] 5)).grown hg2 (by have := h1.size; simp; omega) (fun k hk => (World.ownsRow.lt hown1 k hk).1)
    exact (h2.alloc h2.size (.cells #[.int .u8 171] 5)).grown hg3 (by have := h2.size; simp; omega) (fun k hk => (World.ownsRow.lt hown2 k hk).1)
  have hR : BytesAt w3 (some ⟨g3, 0, none⟩) (n + 1) (rmF f n) := by
    obtain ⟨A, c', he, hb⟩ := BOwn.bytes (show BOwn w.heap.size w3 _ (n + 2) (rmF f n) from hown)
    injection he with he1 _ _
    subst he1
    intro _
    obtain ⟨B, O, e, h1, h2⟩ := hb (by omega)
    exact ⟨B, O, e, h1, fun j hj => h2 j (by omega)⟩
  have hcap : n + 2 ≤ cap3 := own_cap hown3
  have hg : w.heap.size ≤ g3 := (World.ownsRow.lt hown g3 rfl).1
  have HH := Lib.hid (And.intro hR (And.intro HB hg))
  clear hown hown0 hown1 hown2 hown3 hg1 hg2 hg3 hat1 hat2 hat3 hR HB hsrc
  (try go_wp2)
  go_ret
  exact ⟨g3, cap3, rfl, by omega, HH.out.2.2, HH.out.1, HH.out.2.1⟩
end Go.Proofs.Ytfllemmmgmdliaa
