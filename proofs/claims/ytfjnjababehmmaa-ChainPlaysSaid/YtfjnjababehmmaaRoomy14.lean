/- Stage 14: roomy, spoil: bytes with room behind them, written over. -/
import Derived.Test.YtfjnjababehmmaaOctLow
import Derived.Test.YtfjnjababehmmaaRowSet
set_option linter.unusedSimpArgs false
set_option linter.unusedVariables false
namespace Go.Proofs.Ytfjnjababehmmaa
open Go.RowKit

/-- The row that roomy hands out: two bytes behind those that came in. -/
def Roomy (p : List Int) (w w' : World) (e : Ending) : Prop := ∃ g cap, e = .returned (.slice (some ⟨g, 0, none⟩) (p.length + 1) cap) ∧ p.length + 2 ≤ cap ∧ cap ≤ maxLen ∧ w'.ownsRow w.heap.size 5 1 (.slice (some ⟨g, 0, none⟩) (p.length + 2) cap) (p.length + 2) (bC (p ++ [171, 171]))
theorem own_max {w : World} {base : Nat} {e : TypeId} {size g n cap : Nat} {xs : List Value} (h : w.ownsRow base e size (.slice (some ⟨g, 0, none⟩) n cap) n xs) : n ≤ cap ∧ cap ≤ maxLen := by
  rcases h.2 with ⟨h, _⟩ | ⟨g', cap', cur, h, _, _, h1, h2, _⟩
  · cases h
  · injection h with _ _ h3
    omega
theorem own_first {w : World} {base : Nat} {g n m cap : Nat} {l r : List Int} (h : w.ownsRow base 5 1 (.slice (some ⟨g, 0, none⟩) m cap) m (bC (l ++ r))) (hn : l.length = n) : w.ownsRow base 5 1 (.slice (some ⟨g, 0, none⟩) n cap) n (bC l) := by
  subst hn
  refine ⟨by rw [bC_len]; omega, ?_⟩
  rcases h.2 with ⟨e, _⟩ | ⟨g', cap', cur, e, hb, hh, h1, h2, h3, h4⟩
  · cases e
  · injection e with e1 e2 e3
    injection e1 with e1
    injection e1 with e1
    subst e1 e3
    have hl := h.1
    rw [bC_len, List.length_append] at hl
    refine .inr ⟨g, cap, cur, rfl, hb, hh, by omega, h2, h3, ?_⟩
    have e5 : cur.toList.take (l.length * 1) = (cur.toList.take (m * 1)).take (l.length * 1) := by rw [List.take_take, Nat.min_eq_left (by omega)]
    rw [e5, h4, bC_append, Nat.mul_one]
    have : l.length = (bC l).length := (bC_len l).symm
    rw [this, List.take_left]
set_option maxRecDepth 100000 in
set_option maxHeartbeats 4000000 in
theorem roomy14 (A : Option Addr) (p : List Int) (c : Nat) (w : World) (hp : ByL w A p) (hn : A = none → p.length = 0) (hl : p.length ≤ 100000) :
    Calls Try.prog 14 #[.slice A p.length c] w fun e w' => Roomy p w w' e ∧ Below w.heap.size w w' := by
  obtain ⟨i0, hi0, hz0, hz1, hz2⟩ := info_parts u8_info
  have HW0 : Below w.heap.size w (w.alloc (.cells #[] 5)) := by (repeat' (first | (with_reducible exact Below.refl _ _) | (with_reducible assumption) | (with_reducible refine Below.trans ?_ (Below.mono (by with_reducible assumption) ?_)) | (with_reducible refine Below.alloc ?_ ?_ _) | (with_reducible refine Below.setCell ?_ ?_ _) | (with_reducible refine below_drewN ?_ _) | (with_reducible refine Below.drew ?_) | go_size))
  have hmade := World.ownsRow_made (base := w.heap.size) (e := 5) (size := 1) w #[] 0 (Nat.le_refl _) (Nat.zero_le _) rfl
  have hni : (p.length : Int) ≤ 100000 := by omega
  have HP := Lib.hid (hp.below HW0)
  clear hp
  by_cases hp0 : 0 < p.length
  · obtain ⟨ad, rfl⟩ : ∃ ad, A = some ad := by
      cases A with
      | none => have := hn rfl; omega
      | some ad => exact ⟨ad, rfl⟩
    have hsrc := HP.out.cells
    clear hn
    go_enter Try.func14, Try.ntmps14
    go_wp2_with (first | (at_builtin; refine wpList_append_lies _ rfl (.tmp 3) (.tmp 4) _ rfl w.heap.size 5 i0 _ 1 1 Try.underlying26 hi0 hz0 hz1 hz2 rfl (by decide) (.slice (some ⟨w.heap.size, 0, none⟩) 0 0) 0 [] rfl hmade ad p.length c (bC p) rfl (by rw [bC_len]; omega) hsrc (bC_one _) hp0 (by unfold maxLen; omega) (by omega) (by simp) _ rfl ?_; intro g1 cap1 w1 hown0 hg1 hat1 hlt1; have hown1 : w1.ownsRow w.heap.size 5 1 (.slice (some ⟨g1, 0, none⟩) p.length cap1) p.length (bC p) := (by simpa using hown0); have hz1s := hg1.size; clear hown0) | (at_builtin; refine wpList_append_lies _ rfl (.tmp 5) (.tmp 6) _ rfl w.heap.size 5 i0 _ 1 1 Try.underlying26 hi0 hz0 hz1 hz2 rfl (by decide) (.slice (some ⟨g1, 0, none⟩) p.length cap1) p.length _ rfl (World.ownsRow.alloc hown1 _) ⟨w1.heap.size, 0, none⟩ 1 1 [.int .u8 171] rfl rfl (World.news_of_block (cs := #[.int .u8 171]) (t := 5) (fr := (0, 0)) (heap_alloc_new w1 _)) (by simp [Value.oneCell']) (by omega) (by unfold maxLen; omega) (by omega) (by simp at hz1s ⊢; omega) _ rfl ?_; intro g2 cap2 w2 hown2 hg2 hat2 hlt2; have hz2s := hg2.size) | (at_builtin; refine wpList_append_lies _ rfl (.tmp 7) (.tmp 8) _ rfl w.heap.size 5 i0 _ 1 1 Try.underlying26 hi0 hz0 hz1 hz2 rfl (by decide) (.slice (some ⟨g2, 0, none⟩) (p.length + 1) cap2) (p.length + 1) _ rfl (World.ownsRow.alloc hown2 _) ⟨w2.heap.size, 0, none⟩ 1 1 [.int .u8 171] rfl rfl (World.news_of_block (cs := #[.int .u8 171]) (t := 5) (fr := (0, 0)) (heap_alloc_new w2 _)) (by simp [Value.oneCell']) (by omega) (by unfold maxLen; omega) (by omega) (by simp at hz1s hz2s ⊢; omega) _ rfl ?_; intro g3 cap3 w3 hown3 hg3 hat3 hlt3; have hci : (p.length : Int) + 1 ≤ (cap3 : Int) := by have := (own_max hown3).1; omega))
    have hown : w3.ownsRow w.heap.size 5 1 (.slice (some ⟨g3, 0, none⟩) (p.length + 2) cap3) (p.length + 2) (bC (p ++ [171, 171])) := by
      have e : bC (p ++ [171, 171]) = bC p ++ [.int .u8 171] ++ [.int .u8 171] := by rw [bC_append, List.append_assoc]; rfl
      rw [e]
      exact hown3
    have HB : Below w.heap.size w w3 := by
      have h1 := HW0.grown hg1 (by simp) (fun k hk => by simp [Value.ownBlock] at hk; omega)
      have h2 := (h1.alloc h1.size (.cells #[.int .u8 171] 5)).grown hg2 (by have := h1.size; simp; omega) (fun k hk => (World.ownsRow.lt hown1 k hk).1)
      exact (h2.alloc h2.size (.cells #[.int .u8 171] 5)).grown hg3 (by have := h2.size; simp; omega) (fun k hk => (World.ownsRow.lt hown2 k hk).1)
    have hm := own_max hown
    have HH := Lib.hid (And.intro hown HB)
    clear hown hown1 hown2 hown3 hg1 hg2 hg3 hat1 hat2 hat3 HB hsrc hmade
    (try go_wp2)
    go_ret
    exact ⟨⟨g3, cap3, rfl, hm.1, hm.2, HH.out.1⟩, HH.out.2⟩
  · have hp1 : p = [] := List.length_eq_zero_iff.1 (by omega)
    subst hp1
    have hld := empty_loads.1
    have hst := empty_loads.2
    have fin : ∀ (g2 cap2 : Nat) (w2 : World) (g3 cap3 : Nat) (w3 : World), (w.alloc (.cells #[] 5)).heap.size ≤ (w.alloc (.cells #[] 5)).heap.size → True := fun _ _ _ _ _ _ _ => trivial
    clear fin HP
    have step : ∀ (A : Option Addr), (A = none ∨ ∃ ad, A = some ad) := fun A => by cases A <;> simp
    rcases step A with rfl | ⟨ad, rfl⟩
    all_goals
      clear hn step
      go_enter Try.func14, Try.ntmps14
      go_wp2_with (first | (at_builtin; refine wpList_append_lies _ rfl (.tmp 5) (.tmp 6) _ rfl w.heap.size 5 i0 _ 1 1 Try.underlying26 hi0 hz0 hz1 hz2 rfl (by decide) (.slice (some ⟨w.heap.size, 0, none⟩) 0 0) 0 [] rfl (World.ownsRow.alloc hmade _) ⟨w.heap.size + 1, 0, none⟩ 1 1 [.int .u8 171] rfl rfl (by have q := World.news_of_block (cs := #[.int .u8 171]) (t := 5) (fr := (0, 0)) (heap_alloc_new (w.alloc (.cells #[] 5)) (.cells #[.int .u8 171] 5)); simpa using q) (by simp [Value.oneCell']) (by omega) (by unfold maxLen; omega) (by omega) (by simp; omega) _ rfl ?_; intro g2 cap2 w2 hown2 hg2 hat2 hlt2; have hz2s := hg2.size) | (at_builtin; refine wpList_append_lies _ rfl (.tmp 7) (.tmp 8) _ rfl w.heap.size 5 i0 _ 1 1 Try.underlying26 hi0 hz0 hz1 hz2 rfl (by decide) (.slice (some ⟨g2, 0, none⟩) (0 + 1) cap2) (0 + 1) _ rfl (World.ownsRow.alloc hown2 _) ⟨w2.heap.size, 0, none⟩ 1 1 [.int .u8 171] rfl rfl (World.news_of_block (cs := #[.int .u8 171]) (t := 5) (fr := (0, 0)) (heap_alloc_new w2 _)) (by simp [Value.oneCell']) (by omega) (by unfold maxLen; omega) (by omega) (by simp at hz2s ⊢; omega) _ rfl ?_; intro g3 cap3 w3 hown3 hg3 hat3 hlt3; have hci : (1 : Int) ≤ (cap3 : Int) := by have := (own_max hown3).1; omega))
      have hown : w3.ownsRow w.heap.size 5 1 (.slice (some ⟨g3, 0, none⟩) 2 cap3) 2 (bC [171, 171]) := hown3
      have HB : Below w.heap.size w w3 := by
        have h2 := (HW0.alloc HW0.size (.cells #[.int .u8 171] 5)).grown hg2 (by have := HW0.size; simp; omega) (fun k hk => by simp [Value.ownBlock] at hk; omega)
        exact (h2.alloc h2.size (.cells #[.int .u8 171] 5)).grown hg3 (by have := h2.size; simp; omega) (fun k hk => (World.ownsRow.lt hown2 k hk).1)
      have hm := own_max hown
      have HH := Lib.hid (And.intro hown HB)
      clear hown hown2 hown3 hg2 hg3 hat2 hat3 HB hmade
      (try go_wp2)
      go_ret
      exact ⟨⟨g3, cap3, rfl, hm.1, hm.2, HH.out.1⟩, HH.out.2⟩
set_option maxRecDepth 100000 in
set_option maxHeartbeats 4000000 in
theorem spoil14 (g n cap base : Nat) (xs : List Value) (w : World) (h : w.ownsRow base 5 1 (.slice (some ⟨g, 0, none⟩) n cap) n xs) (hb : base ≤ w.heap.size) (hn : n ≤ 100000) :
    Calls Try.prog 20 #[.slice (some ⟨g, 0, none⟩) n cap] w fun e w' => e = .returned (.tuple #[]) ∧ But (fun i => i = g) w w' := by
  obtain ⟨i0, hi0, hz0, hz1, hz2⟩ := info_parts u8_info
  have hni : (n : Int) ≤ 100000 := by omega
  go_enter Try.func20, Try.ntmps20
  go_wp2_with (at_builtin; refine wpList_append_lies _ rfl (.tmp 4) (.tmp 5) _ rfl base 5 i0 _ 1 1 Try.underlying26 hi0 hz0 hz1 hz2 rfl (by decide) (.slice (some ⟨g, 0, none⟩) n cap) n xs rfl (World.ownsRow.alloc h _) ⟨w.heap.size, 0, none⟩ 1 1 [.int .u8 99] rfl rfl (World.news_of_block (cs := #[.int .u8 99]) (t := 5) (fr := (0, 0)) (heap_alloc_new w _)) (by simp [Value.oneCell']) (by omega) (by unfold maxLen; omega) (by omega) (by simp; omega) _ rfl ?_; intro g2 cap2 w2 hown2 hg2 hat2 hlt2)
  obtain ⟨cur, hh, hcs, hnc, hcm, _⟩ := row_block hown2
  have HB : Hid (But (fun i => i = g) w w2) := Lib.hid ((But.of_below (S := fun i => i = g) ((Below.refl w.heap.size w).alloc (Nat.le_refl _) (.cells #[.int .u8 99] 5))).trans (But.of_grown (S := fun i => i = g) hg2 (fun k hk => by simp [Value.ownBlock] at hk; exact hk.symm)) (fun _ _ hf => hf))
  have HAT : Hid (g2 < w.heap.size → g2 = g) := Lib.hid (fun hl => by
    rcases hat2 with q | q
    · simpa [Value.ownBlock] using q.symm
    · simp at q; omega)
  have H0 : Hid (∃ cur, w2.heap[g2]? = some (.cells cur 5 (0, 0)) ∧ cur.size = cap2 * 1) := Lib.hid ⟨cur, hh, hcs⟩
  clear hown2 hg2 hat2 hh hcs h
  go_loopw [3] (fun i wr => ∃ k : Nat, k ≤ n + 1 ∧ i = .int .i64 k ∧ But (fun i => i = g) w wr ∧ ∃ cur, wr.heap[g2]? = some (.cells cur 5 (0, 0)) ∧ cur.size = cap2 * 1) (fun i _ => n + 1 - (intOf i).toNat)
  case atStart => exact ⟨0, Nat.zero_le _, rfl, HB.out, H0.out⟩
  case round =>
    obtain ⟨k, hk, rfl, hB, cur', hh, hcs⟩ := hrel
    clear H0 HB
    by_cases hlt : k < n + 1
    · obtain ⟨h1, h2⟩ := row_there (w := wr) hh hcs (j := k) (by omega)
      obtain ⟨v, hv⟩ := Option.isSome_iff_exists.1 h1
      have lk : (k : Int) < (n : Int) + 1 := by omega
      have HH2 : Hid (But (fun i => i = g) w (wr.setCell ⟨g2, k, none⟩ (.int .u8 98)) ∧ ∃ cur, (wr.setCell ⟨g2, k, none⟩ (.int .u8 98)).heap[g2]? = some (.cells cur 5 (0, 0)) ∧ cur.size = cap2 * 1) := Lib.hid ⟨hB.setCell (fun hl => HAT.out hl) _, _, heap_setCell1 hh _, by simpa using hcs⟩
      clear hB hh hcs h1
      go_wp2
      go_roundw
      case rel => exact ⟨k + 1, by omega, by go_num, HH2.out⟩
      case measure => simp [intOf]; omega
    · obtain rfl : k = n + 1 := by omega
      have HB2 := Lib.hid hB
      clear hB hh hcs
      go_wp2
      exact bodyPost_end (by simp [results, Try.results20, go_sem]) rfl ⟨rfl, HB2.out⟩
end Go.Proofs.Ytfjnjababehmmaa
