/- The reference's Quote of any bytes (written by gen/trquor.py). -/
import Derived.Test.YtelabakcadhffaaDoorTrQuo
set_option linter.unusedSimpArgs false
set_option linter.unusedVariables false
namespace Go.Proofs.YtelabakcadhffaaDoor
open Go.RowKit

set_option maxRecDepth 100000 in
set_option maxHeartbeats 4000000 in
theorem ref_quote (A : Option Addr) (p : List Int) (c : Nat) (w : World) (hp : ByL w A p) (hb : isBy p) (hl : p.length ≤ 100000) :
    Calls Tryd.prog 6 #[.slice A p.length c] w fun e w' => e = .returned (.string (strB (quoL p))) ∧ Below w.heap.size w w' := by
  obtain ⟨i0, hi0, hz0, hz1, hz2⟩ := info_parts u8_info
  have RV : Hid ((w.alloc (.cells #[.int .u8 34] 5)).ownsRow w.heap.size 5 1 (.slice (some ⟨w.heap.size, 0, none⟩) 1 1) 1 (bC (34 :: quoM (p.take 0)))) := Lib.hid ⟨by simp [quoM, bC], .inr ⟨w.heap.size, 1, #[.int .u8 34], rfl, Nat.le_refl _, heap_alloc_new w _, Nat.le_refl _, by unfold maxLen; omega, rfl, by simp [quoM, bC]⟩⟩
  have HB7 : Hid (Below w.heap.size w (w.alloc (.cells #[.int .u8 34] 5))) := Lib.hid (by (repeat' (first | (with_reducible exact Below.refl _ _) | (with_reducible assumption) | (with_reducible refine Below.trans ?_ (Below.mono (by with_reducible assumption) ?_)) | (with_reducible refine Below.alloc ?_ ?_ _) | (with_reducible refine Below.setCell ?_ ?_ _) | (with_reducible refine below_drewN ?_ _) | (with_reducible refine Below.drew ?_) | go_size)))
  have HP := Lib.hid hp
  have HBY := Lib.hid hb
  have hli : (p.length : Int) ≤ 100000 := by omega
  clear hp hb
  go_enter Tryd.func6, Tryd.ntmps6
  go_wp2_with fail
  go_loopw [3, 4] (fun s i wr => ∃ (k : Nat) (A3 : Option Addr) (k3 : Nat), k ≤ p.length ∧ i = .int .i64 k ∧ s = .slice A3 (1 + (quoM (p.take k)).length) k3 ∧ wr.ownsRow w.heap.size 5 1 (.slice A3 (1 + (quoM (p.take k)).length) k3) (1 + (quoM (p.take k)).length) (bC (34 :: quoM (p.take k))) ∧ Below w.heap.size w wr) (fun _ i _ => p.length - (intOf i).toNat)
  case atStart => exact ⟨0, _, _, Nat.zero_le _, rfl, rfl, by simpa [quoM] using RV.out, HB7.out⟩
  case round =>
    obtain ⟨k, A3, k3, hk, rfl, rfl, hrow, hB⟩ := hrel
    have HROW := Lib.hid hrow
    have HB := Lib.hid hB
    clear hrow RV HB7
    by_cases hlt : k < p.length
    · obtain ⟨B, O, rfl, lB, hcell⟩ := HP.out (by omega)
      have q0 := (hB.cell (p := ⟨B, O + k, none⟩) lB).trans (hcell k _ (bC_at p k hlt))
      have hx : p[k]? = some p[k] := List.getElem?_eq_getElem hlt
      have hxb := HBY.out p[k] (List.getElem_mem hlt)
      have HQT := Lib.hid (quoM_take hx)
      have hql : (quoM (p.take k)).length ≤ 400000 := by have := (quoM_len (p.take k)).2; rw [List.length_take] at this; omega
      have tk : decide ((k : Int) < (p.length : Int)) = true := by simpa using hlt
      have lk : (k : Int) < (p.length : Int) := by omega
      have wk : IntKind.i64.wrap ((k : Int) + 1) = (k : Int) + 1 := IntWalk.i64_in _ (by omega)
      generalize p[k] = x at *
      generalize hMl : (quoM (p.take k)).length = ml at *
      clear hcell hB hx hlt
      cases hq : quoX x with
      | true =>
        have hcs : (x = 34) ∨ (x ≠ 34 ∧ x = 92) ∨ (x ≠ 34 ∧ x ≠ 92 ∧ x < 32) ∨ (x ≠ 34 ∧ x ≠ 92 ∧ 32 ≤ x ∧ 126 < x) := by simp [quoX] at hq; omega
        obtain ⟨a1, he1, ha1⟩ := hex_at (n := x / 16) (by omega) (by omega)
        obtain ⟨a2, he2, ha2⟩ := hex_at (n := x % 16) (by omega) (by omega)
        have hqb : quoB x = [92, 120, (a1 : Int), (a2 : Int)] := by unfold quoB; rw [hq, if_pos rfl, he1, he2]
        rw [hqb] at HQT
        have hand := and15b x hxb.1 hxb.2
        have i1 : 0 ≤ x / 16 := by omega
        have i2 : x / 16 < 16 := by omega
        have i3 : 0 ≤ x % 16 := by omega
        have i4 : x % 16 < 16 := by omega
        have RW1 : Hid ((wr.alloc (.cells #[.int .u8 92, .int .u8 120, .int .u8 a1, .int .u8 a2] 5)).drew.ownsRow w.heap.size 5 1 (.slice A3 (1 + ml) k3) (1 + ml) (bC (34 :: quoM (p.take k)))) := Lib.hid (HROW.out.alloc _)
        have hs1 : ∀ j u, (bC [92, 120, (a1 : Int), (a2 : Int)])[j]? = some u → (wr.alloc (.cells #[.int .u8 92, .int .u8 120, .int .u8 a1, .int .u8 a2] 5)).drew.cell? ((⟨wr.heap.size, 0, none⟩ : Addr).add j) = some u := World.news_of_block (cs := #[.int .u8 92, .int .u8 120, .int .u8 a1, .int .u8 a2]) (t := 5) (fr := (0, 0)) (heap_alloc_new wr (.cells #[.int .u8 92, .int .u8 120, .int .u8 a1, .int .u8 a2] 5))
        have HBA : Hid (Below w.heap.size w (wr.alloc (.cells #[.int .u8 92, .int .u8 120, .int .u8 a1, .int .u8 a2] 5)).drew) := Lib.hid (HB.out.alloc HB.out.size _).drew
        clear hq hqb he1 he2
        rcases hcs with h1 | h1 | h1 | h1
        · skip
          have t1 : (x == 34) = true := by simpa using h1
          clear h1 hxb
          go_wp2_with fail
          go_region_law
            (rw [if_pos (by rfl)]; refine wp_append_own _ _ _ _ (by rfl) w.heap.size 5 i0 _ 1 1 Tryd.underlying22 hi0 hz0 hz1 hz2 rfl (by decide) (.slice A3 (1 + ml) k3) (1 + ml) (bC (34 :: quoM (p.take k))) rfl RW1.out ⟨wr.heap.size, 0, none⟩ 4 4 (bC [92, 120, (a1 : Int), (a2 : Int)]) rfl (by rw [bC_len]; rfl) hs1 (bC_one _) (by unfold maxLen; omega) (by omega) HBA.out.size ?_; intro v8 V8 hv8 hg8 _; have HB8 : Hid (Below w.heap.size w V8) := Lib.hid (HBA.out.grown hg8 HBA.out.size (fun k hk => (World.ownsRow.lt RW1.out k hk).1)); have hl8 : (quoM (p.take (k + 1))).length = ml + 4 := (by rw [HQT.out, List.length_append, hMl]; rfl); have RV8 : Hid (V8.ownsRow w.heap.size 5 1 v8 (1 + (quoM (p.take (k + 1))).length) (bC (34 :: quoM (p.take (k + 1))))) := Lib.hid (by rw [hl8, HQT.out, ← Nat.add_assoc, show (34 :: (quoM (p.take k) ++ [92, 120, (a1 : Int), (a2 : Int)])) = (34 :: quoM (p.take k)) ++ [92, 120, (a1 : Int), (a2 : Int)] from rfl, bC_append]; exact hv8); have HL8 := Lib.hid hl8; obtain ⟨A8, k8, rfl⟩ := row_shape8 hv8; clear hv8 hg8 hl8)
          all_goals go_wp2
          all_goals go_roundw
          all_goals (try (case rel => exact ⟨k + 1, A8, k8, by omega, by go_num, by rw [HL8.out, ← Nat.add_assoc], by have h := RV8.out; rwa [HL8.out, ← Nat.add_assoc] at h ⊢, HB8.out⟩))
          all_goals (try (simp [intOf]; omega))
        · skip
          have t1 : (x == 34) = false := by simpa using h1.1
          have t2 : (x == 92) = true := by simpa using h1.2
          clear h1 hxb
          go_wp2_with fail
          go_region_law
            (rw [if_pos (by rfl)]; refine wp_append_own _ _ _ _ (by rfl) w.heap.size 5 i0 _ 1 1 Tryd.underlying22 hi0 hz0 hz1 hz2 rfl (by decide) (.slice A3 (1 + ml) k3) (1 + ml) (bC (34 :: quoM (p.take k))) rfl RW1.out ⟨wr.heap.size, 0, none⟩ 4 4 (bC [92, 120, (a1 : Int), (a2 : Int)]) rfl (by rw [bC_len]; rfl) hs1 (bC_one _) (by unfold maxLen; omega) (by omega) HBA.out.size ?_; intro v8 V8 hv8 hg8 _; have HB8 : Hid (Below w.heap.size w V8) := Lib.hid (HBA.out.grown hg8 HBA.out.size (fun k hk => (World.ownsRow.lt RW1.out k hk).1)); have hl8 : (quoM (p.take (k + 1))).length = ml + 4 := (by rw [HQT.out, List.length_append, hMl]; rfl); have RV8 : Hid (V8.ownsRow w.heap.size 5 1 v8 (1 + (quoM (p.take (k + 1))).length) (bC (34 :: quoM (p.take (k + 1))))) := Lib.hid (by rw [hl8, HQT.out, ← Nat.add_assoc, show (34 :: (quoM (p.take k) ++ [92, 120, (a1 : Int), (a2 : Int)])) = (34 :: quoM (p.take k)) ++ [92, 120, (a1 : Int), (a2 : Int)] from rfl, bC_append]; exact hv8); have HL8 := Lib.hid hl8; obtain ⟨A8, k8, rfl⟩ := row_shape8 hv8; clear hv8 hg8 hl8)
          all_goals go_wp2
          all_goals go_roundw
          all_goals (try (case rel => exact ⟨k + 1, A8, k8, by omega, by go_num, by rw [HL8.out, ← Nat.add_assoc], by have h := RV8.out; rwa [HL8.out, ← Nat.add_assoc] at h ⊢, HB8.out⟩))
          all_goals (try (simp [intOf]; omega))
        · skip
          have t1 : (x == 34) = false := by simpa using h1.1
          have t2 : (x == 92) = false := by simpa using h1.2.1
          have t3 : decide (x < 32) = true := by simpa using h1.2.2
          clear h1 hxb
          go_wp2_with fail
          go_region_law
            (rw [if_pos (by rfl)]; refine wp_append_own _ _ _ _ (by rfl) w.heap.size 5 i0 _ 1 1 Tryd.underlying22 hi0 hz0 hz1 hz2 rfl (by decide) (.slice A3 (1 + ml) k3) (1 + ml) (bC (34 :: quoM (p.take k))) rfl RW1.out ⟨wr.heap.size, 0, none⟩ 4 4 (bC [92, 120, (a1 : Int), (a2 : Int)]) rfl (by rw [bC_len]; rfl) hs1 (bC_one _) (by unfold maxLen; omega) (by omega) HBA.out.size ?_; intro v8 V8 hv8 hg8 _; have HB8 : Hid (Below w.heap.size w V8) := Lib.hid (HBA.out.grown hg8 HBA.out.size (fun k hk => (World.ownsRow.lt RW1.out k hk).1)); have hl8 : (quoM (p.take (k + 1))).length = ml + 4 := (by rw [HQT.out, List.length_append, hMl]; rfl); have RV8 : Hid (V8.ownsRow w.heap.size 5 1 v8 (1 + (quoM (p.take (k + 1))).length) (bC (34 :: quoM (p.take (k + 1))))) := Lib.hid (by rw [hl8, HQT.out, ← Nat.add_assoc, show (34 :: (quoM (p.take k) ++ [92, 120, (a1 : Int), (a2 : Int)])) = (34 :: quoM (p.take k)) ++ [92, 120, (a1 : Int), (a2 : Int)] from rfl, bC_append]; exact hv8); have HL8 := Lib.hid hl8; obtain ⟨A8, k8, rfl⟩ := row_shape8 hv8; clear hv8 hg8 hl8)
          all_goals go_wp2
          all_goals go_roundw
          all_goals (try (case rel => exact ⟨k + 1, A8, k8, by omega, by go_num, by rw [HL8.out, ← Nat.add_assoc], by have h := RV8.out; rwa [HL8.out, ← Nat.add_assoc] at h ⊢, HB8.out⟩))
          all_goals (try (simp [intOf]; omega))
        · skip
          have t1 : (x == 34) = false := by simpa using h1.1
          have t2 : (x == 92) = false := by simpa using h1.2.1
          have t3 : decide (x < 32) = false := by simp only [decide_eq_false_iff_not]; omega
          have t4 : decide (126 < x) = true := by simpa using h1.2.2.2
          clear h1 hxb
          go_wp2_with fail
          go_region_law
            (rw [if_pos (by rfl)]; refine wp_append_own _ _ _ _ (by rfl) w.heap.size 5 i0 _ 1 1 Tryd.underlying22 hi0 hz0 hz1 hz2 rfl (by decide) (.slice A3 (1 + ml) k3) (1 + ml) (bC (34 :: quoM (p.take k))) rfl RW1.out ⟨wr.heap.size, 0, none⟩ 4 4 (bC [92, 120, (a1 : Int), (a2 : Int)]) rfl (by rw [bC_len]; rfl) hs1 (bC_one _) (by unfold maxLen; omega) (by omega) HBA.out.size ?_; intro v8 V8 hv8 hg8 _; have HB8 : Hid (Below w.heap.size w V8) := Lib.hid (HBA.out.grown hg8 HBA.out.size (fun k hk => (World.ownsRow.lt RW1.out k hk).1)); have hl8 : (quoM (p.take (k + 1))).length = ml + 4 := (by rw [HQT.out, List.length_append, hMl]; rfl); have RV8 : Hid (V8.ownsRow w.heap.size 5 1 v8 (1 + (quoM (p.take (k + 1))).length) (bC (34 :: quoM (p.take (k + 1))))) := Lib.hid (by rw [hl8, HQT.out, ← Nat.add_assoc, show (34 :: (quoM (p.take k) ++ [92, 120, (a1 : Int), (a2 : Int)])) = (34 :: quoM (p.take k)) ++ [92, 120, (a1 : Int), (a2 : Int)] from rfl, bC_append]; exact hv8); have HL8 := Lib.hid hl8; obtain ⟨A8, k8, rfl⟩ := row_shape8 hv8; clear hv8 hg8 hl8)
          all_goals go_wp2
          all_goals go_roundw
          all_goals (try (case rel => exact ⟨k + 1, A8, k8, by omega, by go_num, by rw [HL8.out, ← Nat.add_assoc], by have h := RV8.out; rwa [HL8.out, ← Nat.add_assoc] at h ⊢, HB8.out⟩))
          all_goals (try (simp [intOf]; omega))
      | false =>
        have hqq := quoX_false hq
        have hqb : quoB x = [x] := by unfold quoB; rw [hq]; rfl
        rw [hqb] at HQT
        have t1 : decide (x < 32) = false := by simp only [decide_eq_false_iff_not]; omega
        have t2 : decide (126 < x) = false := by simp only [decide_eq_false_iff_not]; omega
        have t3 : (x == 34) = false := by simpa using hqq.1
        have t4 : (x == 92) = false := by simpa using hqq.2.1
        have RW1 : Hid ((wr.alloc (.cells #[.int .u8 x] 5)).ownsRow w.heap.size 5 1 (.slice A3 (1 + ml) k3) (1 + ml) (bC (34 :: quoM (p.take k)))) := Lib.hid (HROW.out.alloc _)
        have hs1 : ∀ j u, (bC [x])[j]? = some u → (wr.alloc (.cells #[.int .u8 x] 5)).cell? ((⟨wr.heap.size, 0, none⟩ : Addr).add j) = some u := World.news_of_block (cs := #[.int .u8 x]) (t := 5) (fr := (0, 0)) (heap_alloc_new wr (.cells #[.int .u8 x] 5))
        have HBA : Hid (Below w.heap.size w (wr.alloc (.cells #[.int .u8 x] 5))) := Lib.hid (HB.out.alloc HB.out.size _)
        clear hq hqq hqb hxb
        go_wp2_with (at_builtin; refine wpList_append_own _ rfl (.tmp 40) (.tmp 42) 22 rfl w.heap.size 5 i0 _ 1 1 Tryd.underlying22 hi0 hz0 hz1 hz2 rfl (by decide) (.slice A3 (1 + ml) k3) (1 + ml) (bC (34 :: quoM (p.take k))) rfl RW1.out ⟨wr.heap.size, 0, none⟩ 1 1 (bC [x]) rfl (by rw [bC_len]; rfl) hs1 (bC_one _) (by unfold maxLen; omega) (by omega) HBA.out.size ?_; intro v8 V8 hv8 hg8 _; have HB8 : Hid (Below w.heap.size w V8) := Lib.hid (HBA.out.grown hg8 HBA.out.size (fun k hk => (World.ownsRow.lt RW1.out k hk).1)); have hl8 : (quoM (p.take (k + 1))).length = ml + 1 := (by rw [HQT.out, List.length_append, hMl]; rfl); have RV8 : Hid (V8.ownsRow w.heap.size 5 1 v8 (1 + (quoM (p.take (k + 1))).length) (bC (34 :: quoM (p.take (k + 1))))) := Lib.hid (by rw [hl8, HQT.out, ← Nat.add_assoc, show (34 :: (quoM (p.take k) ++ [x])) = (34 :: quoM (p.take k)) ++ [x] from rfl, bC_append]; exact hv8); have HL8 := Lib.hid hl8; obtain ⟨A8, k8, rfl⟩ := row_shape8 hv8; clear hv8 hg8 hs1 RW1 hl8)
        go_roundw
        case rel => exact ⟨k + 1, A8, k8, by omega, by go_num, by rw [HL8.out, ← Nat.add_assoc], by have h := RV8.out; rwa [HL8.out, ← Nat.add_assoc] at h ⊢, HB8.out⟩
        case measure => simp [intOf]; omega
    · obtain rfl : k = p.length := by omega
      have RW1 : Hid ((wr.alloc (.cells #[.int .u8 34] 5)).ownsRow w.heap.size 5 1 (.slice A3 (1 + (quoM (p.take p.length)).length) k3) (1 + (quoM (p.take p.length)).length) (bC (34 :: quoM (p.take p.length)))) := Lib.hid (HROW.out.alloc _)
      rw [List.take_length] at RW1
      have hs1 : ∀ j u, (bC [34])[j]? = some u → (wr.alloc (.cells #[.int .u8 34] 5)).cell? ((⟨wr.heap.size, 0, none⟩ : Addr).add j) = some u := World.news_of_block (cs := #[.int .u8 34]) (t := 5) (fr := (0, 0)) (heap_alloc_new wr (.cells #[.int .u8 34] 5))
      have HBA : Hid (Below w.heap.size w (wr.alloc (.cells #[.int .u8 34] 5))) := Lib.hid (HB.out.alloc HB.out.size _)
      have hql : (quoM p).length ≤ 400000 := by have := (quoM_len p).2; omega
      have HBL := Lib.hid (quoL_by HBY.out)
      rw [List.take_length]
      go_wp2_with (at_builtin; refine wpList_append_own _ rfl (.tmp 44) (.tmp 45) 22 rfl w.heap.size 5 i0 _ 1 1 Tryd.underlying22 hi0 hz0 hz1 hz2 rfl (by decide) (.slice A3 (1 + (quoM p).length) k3) (1 + (quoM p).length) (bC (34 :: quoM p)) rfl RW1.out ⟨wr.heap.size, 0, none⟩ 1 1 (bC [34]) rfl (by rw [bC_len]; rfl) hs1 (bC_one _) (by unfold maxLen; omega) (by omega) HBA.out.size ?_; intro v8 V8 hv8 hg8 _; have HB8 : Hid (Below w.heap.size w V8) := Lib.hid (HBA.out.grown hg8 HBA.out.size (fun k hk => (World.ownsRow.lt RW1.out k hk).1)); have hl8 : (quoL p).length = 1 + (quoM p).length + 1 := (by simp [quoL]; omega); have RV8 : V8.ownsRow w.heap.size 5 1 v8 (quoL p).length (bC (quoL p)) := (by rw [hl8, show quoL p = (34 :: quoM p) ++ [34] from rfl, bC_append]; exact hv8); obtain ⟨A8, k8, rfl, hby8, hn8, _⟩ := Own8.bytes (l := quoL p) RV8; have hcv := run_str V8 A8 (quoL p) k8 hby8 HBL.out (by intro h; cases h; rcases RV8.2 with ⟨e, h0⟩ | ⟨g, cap, cur, e, _⟩; exact h0; cases e); rw [hl8] at hcv; clear hv8 hg8 hs1 RW1 RV8 hby8)
      (try go_wp2)
      go_ret
      exact ⟨rfl, HB8.out⟩
end Go.Proofs.YtelabakcadhffaaDoor
