/- trace.Quote of any bytes. -/
import Derived.Test.YtelabakcadhffaaDoorQuoM
import Derived.Test.YtelabakcadhffaaDoorBut
import Derived.Test.YtelabakcadhffaaDoorCells
import Derived.Laws.MakeOwn
import Derived.Deep.RegionLaw
set_option linter.unusedSimpArgs false
set_option linter.unusedVariables false
namespace Go.Proofs.YtelabakcadhffaaDoor
open Go.RowKit

def mk8 (n : Nat) : Array Value := madeCells #[.int .u8 0] (n * 1)
theorem run_mk8 (n : Nat) (hn : n ≤ 1000000) (w : World) : (Instr.makeSlice 22 (.int .i64 0) (.int .i64 (n : Int))).run Tryd.prog w = .ok (.slice (some ⟨w.heap.size, 0, none⟩) 0 n) (w.alloc (.cells (mk8 n) 5)) := by
  obtain ⟨i0, hi0, hz0, hz1, hz2⟩ := info_parts u8_info
  have h := run_makeSlice (P := Tryd.prog) w 22 5 i0 (.int .u8 0) Tryd.underlying22 hi0 hz0 .i64 .i64 0 n (Int.le_refl _) (by omega) (by rw [hz1]; omega) (by rw [hz2]; omega) (by omega)
  rw [hz1] at h
  exact h
theorem row_shape8 {w : World} {base n size : Nat} {e : TypeId} {v : Value} {xs : List Value} (h : w.ownsRow base e size v n xs) : ∃ A c, v = .slice A n c := by
  rcases h.2 with ⟨e, h0⟩ | ⟨g, cap, cur, e, _⟩
  · exact ⟨none, 0, by rw [e, h0]⟩
  · exact ⟨_, _, e⟩
theorem and15b (n : Int) (h0 : 0 ≤ n) (h1 : n ≤ 255) : bits .and .u8 n 15 = n % 16 := by
  obtain ⟨n, rfl⟩ := Int.eq_ofNat_of_zero_le h0
  show IntKind.u8.wrap ((BitVec.ofInt 8 (n : Int) &&& BitVec.ofInt 8 15).toNat : Int) = _
  have e1 : (BitVec.ofInt 8 (n : Int)).toNat = n := by rw [BitVec.ofInt_natCast, BitVec.toNat_ofNat]; exact Nat.mod_eq_of_lt (by omega)
  have e2 : (BitVec.ofInt 8 15).toNat = 2 ^ 4 - 1 := by decide
  have w8 : ∀ z : Int, 0 ≤ z → z ≤ 255 → IntKind.u8.wrap z = z := fun z z0 z1 => by rw [IntKind.wrap_u8]; omega
  rw [BitVec.toNat_and, e1, e2, Nat.and_two_pow_sub_one_eq_mod, w8 _ (by omega) (by omega)]
  omega
theorem hex_at {n : Int} (h0 : 0 ≤ n) (h1 : n < 16) : ∃ a : Nat, (a : Int) = hexd n ∧ ∀ h, ((⟨#[48, 49, 50, 51, 52, 53, 54, 55, 56, 57, 97, 98, 99, 100, 101, 102]⟩ : ByteArray)[n.toNat]'h).toNat = a := by
  obtain ⟨k, rfl⟩ := Int.eq_ofNat_of_zero_le h0
  have hk : k < 16 := by omega
  match k, hk with
  | 0, _ | 1, _ | 2, _ | 3, _ | 4, _ | 5, _ | 6, _ | 7, _ | 8, _ | 9, _ | 10, _ | 11, _ | 12, _ | 13, _ | 14, _ | 15, _ => exact ⟨_, by decide, fun _ => rfl⟩
set_option maxRecDepth 100000 in
set_option maxHeartbeats 4000000 in
theorem tr_quote (A : Option Addr) (p : List Int) (c : Nat) (w : World) (hp : ByL w A p) (hb : isBy p) (hl : p.length ≤ 100000) :
    Calls Tryd.prog 5 #[.slice A p.length c] w fun e w' => e = .returned (.string (strB (quoL p))) ∧ Below w.heap.size w w' := by
  obtain ⟨i0, hi0, hz0, hz1, hz2⟩ := info_parts u8_info
  have hmk : ∀ W : World, (Instr.makeSlice 22 (.int .i64 0) (.int .i64 ((p.length : Int) + 2))).run Tryd.prog W = .ok (.slice (some ⟨W.heap.size, 0, none⟩) 0 (p.length + 2)) (W.alloc (.cells (mk8 (p.length + 2)) 5)) := fun W => by
    have h := run_mk8 (p.length + 2) (by omega) W
    rwa [show ((p.length + 2 : Nat) : Int) = (p.length : Int) + 2 from by omega] at h
  have wl : IntKind.i64.wrap ((p.length : Int) + 2) = (p.length : Int) + 2 := IntWalk.i64_in _ (by omega)
  have RW0 : Hid (((w.alloc (.cells (mk8 (p.length + 2)) 5)).alloc (.cells #[.int .u8 34] 5)).ownsRow w.heap.size 5 1 (.slice (some ⟨w.heap.size, 0, none⟩) 0 (p.length + 2)) 0 []) :=
    Lib.hid ((World.ownsRow_made (base := w.heap.size) (e := 5) (size := 1) w (mk8 (p.length + 2)) (p.length + 2) (Nat.le_refl _) (by unfold maxLen; omega) (by simp [mk8, madeCells])).alloc _)
  have HB0 : Hid (Below w.heap.size w ((w.alloc (.cells (mk8 (p.length + 2)) 5)).alloc (.cells #[.int .u8 34] 5))) := Lib.hid (by (repeat' (first | (with_reducible exact Below.refl _ _) | (with_reducible assumption) | (with_reducible refine Below.trans ?_ (Below.mono (by with_reducible assumption) ?_)) | (with_reducible refine Below.alloc ?_ ?_ _) | (with_reducible refine Below.setCell ?_ ?_ _) | (with_reducible refine below_drewN ?_ _) | (with_reducible refine Below.drew ?_) | go_size)))
  have HP := Lib.hid hp
  have HBY := Lib.hid hb
  have hli : (p.length : Int) ≤ 100000 := by omega
  have hs1 : ∀ j u, (bC [34])[j]? = some u → ((w.alloc (.cells (mk8 (p.length + 2)) 5)).alloc (.cells #[.int .u8 34] 5)).cell? ((⟨w.heap.size + 1, 0, none⟩ : Addr).add j) = some u := by
    have h := World.news_of_block (cs := #[.int .u8 34]) (t := 5) (fr := (0, 0)) (heap_alloc_new (w.alloc (.cells (mk8 (p.length + 2)) 5)) (.cells #[.int .u8 34] 5))
    rw [World.size_alloc] at h
    exact h
  clear hp hb
  go_enter Tryd.func5, Tryd.ntmps5
  go_wp2_with (at_builtin; refine wpList_append_own _ rfl (.tmp 10) (.tmp 11) 22 rfl w.heap.size 5 i0 _ 1 1 Tryd.underlying22 hi0 hz0 hz1 hz2 rfl (by decide) (.slice (some ⟨w.heap.size, 0, none⟩) 0 (p.length + 2)) 0 [] rfl RW0.out ⟨w.heap.size + 1, 0, none⟩ 1 1 (bC [34]) rfl (by rw [bC_len]; rfl) hs1 (bC_one _) (by unfold maxLen; omega) (by omega) (by simp; omega) ?_; intro v7 V7 hv7 hg7 _; have RV : Hid (V7.ownsRow w.heap.size 5 1 v7 1 (bC (34 :: quoM (p.take 0)))) := Lib.hid (by simpa [quoM] using hv7); have HB7 : Hid (Below w.heap.size w V7) := Lib.hid (HB0.out.grown hg7 HB0.out.size (fun k hk => (World.ownsRow.lt RW0.out k hk).1)); obtain ⟨A7, k7, rfl⟩ := row_shape8 RV.out; clear hv7 hg7 hs1 RW0 hmk)
  go_loopw [3, 15] (fun s i wr => ∃ (k : Nat) (A3 : Option Addr) (k3 : Nat), k ≤ p.length ∧ i = .int .i64 k ∧ s = .slice A3 (1 + (quoM (p.take k)).length) k3 ∧ wr.ownsRow w.heap.size 5 1 (.slice A3 (1 + (quoM (p.take k)).length) k3) (1 + (quoM (p.take k)).length) (bC (34 :: quoM (p.take k))) ∧ Below w.heap.size w wr) (fun _ i _ => p.length - (intOf i).toNat)
  case atStart => exact ⟨0, A7, k7, Nat.zero_le _, rfl, rfl, by simpa [quoM] using RV.out, HB7.out⟩
  case round =>
    obtain ⟨k, A3, k3, hk, rfl, rfl, hrow, hB⟩ := hrel
    have HROW := Lib.hid hrow
    have HB := Lib.hid hB
    clear hrow RV HB7
    by_cases hlt : k < p.length
    · obtain ⟨B, O, rfl, lB, hcell⟩ := HP.out (by omega)
      have q0 := (hB.cell (p := ⟨B, O + k, none⟩) lB).trans (hcell k _ (bC_at p k hlt))
      have hx : p[k]? = some p[k] := List.getElem?_eq_getElem hlt
      have hxb := HBY.out p[k] (List.getElem_mem hlt)
      have HQT := Lib.hid (quoM_take hx)
      have hql : (quoM (p.take k)).length ≤ 400000 := by have := (quoM_len (p.take k)).2; rw [List.length_take] at this; omega
      have tk : decide ((k : Int) < (p.length : Int)) = true := by simpa using hlt
      have lk : (k : Int) < (p.length : Int) := by omega
      have wk : IntKind.i64.wrap ((k : Int) + 1) = (k : Int) + 1 := IntWalk.i64_in _ (by omega)
      generalize p[k] = x at *
      generalize hMl : (quoM (p.take k)).length = ml at *
      clear hcell hB hx hlt
      cases hq : quoX x with
      | true =>
        have hcs : (x < 32) ∨ (32 ≤ x ∧ 126 < x) ∨ (32 ≤ x ∧ x ≤ 126 ∧ x = 34) ∨ (32 ≤ x ∧ x ≤ 126 ∧ x ≠ 34 ∧ x = 92) := by simp [quoX] at hq; omega
        obtain ⟨a1, he1, ha1⟩ := hex_at (n := x / 16) (by omega) (by omega)
        obtain ⟨a2, he2, ha2⟩ := hex_at (n := x % 16) (by omega) (by omega)
        have hqb : quoB x = [92, 120, (a1 : Int), (a2 : Int)] := by unfold quoB; rw [hq, if_pos rfl, he1, he2]
        rw [hqb] at HQT
        have hand := and15b x hxb.1 hxb.2
        have i1 : 0 ≤ x / 16 := by omega
        have i2 : x / 16 < 16 := by omega
        have i3 : 0 ≤ x % 16 := by omega
        have i4 : x % 16 < 16 := by omega
        have RW1 : Hid ((wr.alloc (.cells #[.int .u8 92, .int .u8 120, .int .u8 a1, .int .u8 a2] 5)).drew.ownsRow w.heap.size 5 1 (.slice A3 (1 + ml) k3) (1 + ml) (bC (34 :: quoM (p.take k)))) := Lib.hid (HROW.out.alloc _)
        have hs1 : ∀ j u, (bC [92, 120, (a1 : Int), (a2 : Int)])[j]? = some u → (wr.alloc (.cells #[.int .u8 92, .int .u8 120, .int .u8 a1, .int .u8 a2] 5)).drew.cell? ((⟨wr.heap.size, 0, none⟩ : Addr).add j) = some u := World.news_of_block (cs := #[.int .u8 92, .int .u8 120, .int .u8 a1, .int .u8 a2]) (t := 5) (fr := (0, 0)) (heap_alloc_new wr (.cells #[.int .u8 92, .int .u8 120, .int .u8 a1, .int .u8 a2] 5))
        have HBA : Hid (Below w.heap.size w (wr.alloc (.cells #[.int .u8 92, .int .u8 120, .int .u8 a1, .int .u8 a2] 5)).drew) := Lib.hid (HB.out.alloc HB.out.size _).drew
        clear hq hqb he1 he2
        rcases hcs with h1 | h1 | h1 | h1
        · skip
          have t1 : decide (x < 32) = true := by simpa using h1
          clear h1 hxb
          go_wp2_with fail
          go_region_law
            (rw [if_pos (by rfl)]; refine wp_append_own _ _ _ _ (by rfl) w.heap.size 5 i0 _ 1 1 Tryd.underlying22 hi0 hz0 hz1 hz2 rfl (by decide) (.slice A3 (1 + ml) k3) (1 + ml) (bC (34 :: quoM (p.take k))) rfl RW1.out ⟨wr.heap.size, 0, none⟩ 4 4 (bC [92, 120, (a1 : Int), (a2 : Int)]) rfl (by rw [bC_len]; rfl) hs1 (bC_one _) (by unfold maxLen; omega) (by omega) HBA.out.size ?_; intro v8 V8 hv8 hg8 _; have HB8 : Hid (Below w.heap.size w V8) := Lib.hid (HBA.out.grown hg8 HBA.out.size (fun k hk => (World.ownsRow.lt RW1.out k hk).1)); have hl8 : (quoM (p.take (k + 1))).length = ml + 4 := (by rw [HQT.out, List.length_append, hMl]; rfl); have RV8 : Hid (V8.ownsRow w.heap.size 5 1 v8 (1 + (quoM (p.take (k + 1))).length) (bC (34 :: quoM (p.take (k + 1))))) := Lib.hid (by rw [hl8, HQT.out, ← Nat.add_assoc, show (34 :: (quoM (p.take k) ++ [92, 120, (a1 : Int), (a2 : Int)])) = (34 :: quoM (p.take k)) ++ [92, 120, (a1 : Int), (a2 : Int)] from rfl, bC_append]; exact hv8); have HL8 := Lib.hid hl8; obtain ⟨A8, k8, rfl⟩ := row_shape8 hv8; clear hv8 hg8 hl8)
          all_goals go_wp2
          all_goals go_roundw
          all_goals (try (case rel => exact ⟨k + 1, A8, k8, by omega, by go_num, by rw [HL8.out, ← Nat.add_assoc], by have h := RV8.out; rwa [HL8.out, ← Nat.add_assoc] at h ⊢, HB8.out⟩))
          all_goals (try (simp [intOf]; omega))
        · skip
          have t1 : decide (x < 32) = false := by simp only [decide_eq_false_iff_not]; omega
          have t2 : decide (126 < x) = true := by simpa using h1.2
          clear h1 hxb
          go_wp2_with fail
          go_region_law
            (rw [if_pos (by rfl)]; refine wp_append_own _ _ _ _ (by rfl) w.heap.size 5 i0 _ 1 1 Tryd.underlying22 hi0 hz0 hz1 hz2 rfl (by decide) (.slice A3 (1 + ml) k3) (1 + ml) (bC (34 :: quoM (p.take k))) rfl RW1.out ⟨wr.heap.size, 0, none⟩ 4 4 (bC [92, 120, (a1 : Int), (a2 : Int)]) rfl (by rw [bC_len]; rfl) hs1 (bC_one _) (by unfold maxLen; omega) (by omega) HBA.out.size ?_; intro v8 V8 hv8 hg8 _; have HB8 : Hid (Below w.heap.size w V8) := Lib.hid (HBA.out.grown hg8 HBA.out.size (fun k hk => (World.ownsRow.lt RW1.out k hk).1)); have hl8 : (quoM (p.take (k + 1))).length = ml + 4 := (by rw [HQT.out, List.length_append, hMl]; rfl); have RV8 : Hid (V8.ownsRow w.heap.size 5 1 v8 (1 + (quoM (p.take (k + 1))).length) (bC (34 :: quoM (p.take (k + 1))))) := Lib.hid (by rw [hl8, HQT.out, ← Nat.add_assoc, show (34 :: (quoM (p.take k) ++ [92, 120, (a1 : Int), (a2 : Int)])) = (34 :: quoM (p.take k)) ++ [92, 120, (a1 : Int), (a2 : Int)] from rfl, bC_append]; exact hv8); have HL8 := Lib.hid hl8; obtain ⟨A8, k8, rfl⟩ := row_shape8 hv8; clear hv8 hg8 hl8)
          all_goals go_wp2
          all_goals go_roundw
          all_goals (try (case rel => exact ⟨k + 1, A8, k8, by omega, by go_num, by rw [HL8.out, ← Nat.add_assoc], by have h := RV8.out; rwa [HL8.out, ← Nat.add_assoc] at h ⊢, HB8.out⟩))
          all_goals (try (simp [intOf]; omega))
        · skip
          have t1 : decide (x < 32) = false := by simp only [decide_eq_false_iff_not]; omega
          have t2 : decide (126 < x) = false := by simp only [decide_eq_false_iff_not]; omega
          have t3 : (x == 34) = true := by simpa using h1.2.2
          clear h1 hxb
          go_wp2_with fail
          go_region_law
            (rw [if_pos (by rfl)]; refine wp_append_own _ _ _ _ (by rfl) w.heap.size 5 i0 _ 1 1 Tryd.underlying22 hi0 hz0 hz1 hz2 rfl (by decide) (.slice A3 (1 + ml) k3) (1 + ml) (bC (34 :: quoM (p.take k))) rfl RW1.out ⟨wr.heap.size, 0, none⟩ 4 4 (bC [92, 120, (a1 : Int), (a2 : Int)]) rfl (by rw [bC_len]; rfl) hs1 (bC_one _) (by unfold maxLen; omega) (by omega) HBA.out.size ?_; intro v8 V8 hv8 hg8 _; have HB8 : Hid (Below w.heap.size w V8) := Lib.hid (HBA.out.grown hg8 HBA.out.size (fun k hk => (World.ownsRow.lt RW1.out k hk).1)); have hl8 : (quoM (p.take (k + 1))).length = ml + 4 := (by rw [HQT.out, List.length_append, hMl]; rfl); have RV8 : Hid (V8.ownsRow w.heap.size 5 1 v8 (1 + (quoM (p.take (k + 1))).length) (bC (34 :: quoM (p.take (k + 1))))) := Lib.hid (by rw [hl8, HQT.out, ← Nat.add_assoc, show (34 :: (quoM (p.take k) ++ [92, 120, (a1 : Int), (a2 : Int)])) = (34 :: quoM (p.take k)) ++ [92, 120, (a1 : Int), (a2 : Int)] from rfl, bC_append]; exact hv8); have HL8 := Lib.hid hl8; obtain ⟨A8, k8, rfl⟩ := row_shape8 hv8; clear hv8 hg8 hl8)
          all_goals go_wp2
          all_goals go_roundw
          all_goals (try (case rel => exact ⟨k + 1, A8, k8, by omega, by go_num, by rw [HL8.out, ← Nat.add_assoc], by have h := RV8.out; rwa [HL8.out, ← Nat.add_assoc] at h ⊢, HB8.out⟩))
          all_goals (try (simp [intOf]; omega))
        · skip
          have t1 : decide (x < 32) = false := by simp only [decide_eq_false_iff_not]; omega
          have t2 : decide (126 < x) = false := by simp only [decide_eq_false_iff_not]; omega
          have t3 : (x == 34) = false := by simpa using h1.2.2.1
          have t4 : (x == 92) = true := by simpa using h1.2.2.2
          clear h1 hxb
          go_wp2_with fail
          go_region_law
            (rw [if_pos (by rfl)]; refine wp_append_own _ _ _ _ (by rfl) w.heap.size 5 i0 _ 1 1 Tryd.underlying22 hi0 hz0 hz1 hz2 rfl (by decide) (.slice A3 (1 + ml) k3) (1 + ml) (bC (34 :: quoM (p.take k))) rfl RW1.out ⟨wr.heap.size, 0, none⟩ 4 4 (bC [92, 120, (a1 : Int), (a2 : Int)]) rfl (by rw [bC_len]; rfl) hs1 (bC_one _) (by unfold maxLen; omega) (by omega) HBA.out.size ?_; intro v8 V8 hv8 hg8 _; have HB8 : Hid (Below w.heap.size w V8) := Lib.hid (HBA.out.grown hg8 HBA.out.size (fun k hk => (World.ownsRow.lt RW1.out k hk).1)); have hl8 : (quoM (p.take (k + 1))).length = ml + 4 := (by rw [HQT.out, List.length_append, hMl]; rfl); have RV8 : Hid (V8.ownsRow w.heap.size 5 1 v8 (1 + (quoM (p.take (k + 1))).length) (bC (34 :: quoM (p.take (k + 1))))) := Lib.hid (by rw [hl8, HQT.out, ← Nat.add_assoc, show (34 :: (quoM (p.take k) ++ [92, 120, (a1 : Int), (a2 : Int)])) = (34 :: quoM (p.take k)) ++ [92, 120, (a1 : Int), (a2 : Int)] from rfl, bC_append]; exact hv8); have HL8 := Lib.hid hl8; obtain ⟨A8, k8, rfl⟩ := row_shape8 hv8; clear hv8 hg8 hl8)
          all_goals go_wp2
          all_goals go_roundw
          all_goals (try (case rel => exact ⟨k + 1, A8, k8, by omega, by go_num, by rw [HL8.out, ← Nat.add_assoc], by have h := RV8.out; rwa [HL8.out, ← Nat.add_assoc] at h ⊢, HB8.out⟩))
          all_goals (try (simp [intOf]; omega))
      | false =>
        have hqq := quoX_false hq
        have hqb : quoB x = [x] := by unfold quoB; rw [hq]; rfl
        rw [hqb] at HQT
        have t1 : decide (x < 32) = false := by simp only [decide_eq_false_iff_not]; omega
        have t2 : decide (126 < x) = false := by simp only [decide_eq_false_iff_not]; omega
        have t3 : (x == 34) = false := by simpa using hqq.1
        have t4 : (x == 92) = false := by simpa using hqq.2.1
        have RW1 : Hid ((wr.alloc (.cells #[.int .u8 x] 5)).ownsRow w.heap.size 5 1 (.slice A3 (1 + ml) k3) (1 + ml) (bC (34 :: quoM (p.take k)))) := Lib.hid (HROW.out.alloc _)
        have hs1 : ∀ j u, (bC [x])[j]? = some u → (wr.alloc (.cells #[.int .u8 x] 5)).cell? ((⟨wr.heap.size, 0, none⟩ : Addr).add j) = some u := World.news_of_block (cs := #[.int .u8 x]) (t := 5) (fr := (0, 0)) (heap_alloc_new wr (.cells #[.int .u8 x] 5))
        have HBA : Hid (Below w.heap.size w (wr.alloc (.cells #[.int .u8 x] 5))) := Lib.hid (HB.out.alloc HB.out.size _)
        clear hq hqq hqb hxb
        go_wp2_with (at_builtin; refine wpList_append_own _ rfl (.tmp 42) (.tmp 44) 22 rfl w.heap.size 5 i0 _ 1 1 Tryd.underlying22 hi0 hz0 hz1 hz2 rfl (by decide) (.slice A3 (1 + ml) k3) (1 + ml) (bC (34 :: quoM (p.take k))) rfl RW1.out ⟨wr.heap.size, 0, none⟩ 1 1 (bC [x]) rfl (by rw [bC_len]; rfl) hs1 (bC_one _) (by unfold maxLen; omega) (by omega) HBA.out.size ?_; intro v8 V8 hv8 hg8 _; have HB8 : Hid (Below w.heap.size w V8) := Lib.hid (HBA.out.grown hg8 HBA.out.size (fun k hk => (World.ownsRow.lt RW1.out k hk).1)); have hl8 : (quoM (p.take (k + 1))).length = ml + 1 := (by rw [HQT.out, List.length_append, hMl]; rfl); have RV8 : Hid (V8.ownsRow w.heap.size 5 1 v8 (1 + (quoM (p.take (k + 1))).length) (bC (34 :: quoM (p.take (k + 1))))) := Lib.hid (by rw [hl8, HQT.out, ← Nat.add_assoc, show (34 :: (quoM (p.take k) ++ [x])) = (34 :: quoM (p.take k)) ++ [x] from rfl, bC_append]; exact hv8); have HL8 := Lib.hid hl8; obtain ⟨A8, k8, rfl⟩ := row_shape8 hv8; clear hv8 hg8 hs1 RW1 hl8)
        go_roundw
        case rel => exact ⟨k + 1, A8, k8, by omega, by go_num, by rw [HL8.out, ← Nat.add_assoc], by have h := RV8.out; rwa [HL8.out, ← Nat.add_assoc] at h ⊢, HB8.out⟩
        case measure => simp [intOf]; omega
    · obtain rfl : k = p.length := by omega
      have RW1 : Hid ((wr.alloc (.cells #[.int .u8 34] 5)).ownsRow w.heap.size 5 1 (.slice A3 (1 + (quoM (p.take p.length)).length) k3) (1 + (quoM (p.take p.length)).length) (bC (34 :: quoM (p.take p.length)))) := Lib.hid (HROW.out.alloc _)
      rw [List.take_length] at RW1
      have hs1 : ∀ j u, (bC [34])[j]? = some u → (wr.alloc (.cells #[.int .u8 34] 5)).cell? ((⟨wr.heap.size, 0, none⟩ : Addr).add j) = some u := World.news_of_block (cs := #[.int .u8 34]) (t := 5) (fr := (0, 0)) (heap_alloc_new wr (.cells #[.int .u8 34] 5))
      have HBA : Hid (Below w.heap.size w (wr.alloc (.cells #[.int .u8 34] 5))) := Lib.hid (HB.out.alloc HB.out.size _)
      have hql : (quoM p).length ≤ 400000 := by have := (quoM_len p).2; omega
      have HBL := Lib.hid (quoL_by HBY.out)
      rw [List.take_length]
      go_wp2_with (at_builtin; refine wpList_append_own _ rfl (.tmp 47) (.tmp 48) 22 rfl w.heap.size 5 i0 _ 1 1 Tryd.underlying22 hi0 hz0 hz1 hz2 rfl (by decide) (.slice A3 (1 + (quoM p).length) k3) (1 + (quoM p).length) (bC (34 :: quoM p)) rfl RW1.out ⟨wr.heap.size, 0, none⟩ 1 1 (bC [34]) rfl (by rw [bC_len]; rfl) hs1 (bC_one _) (by unfold maxLen; omega) (by omega) HBA.out.size ?_; intro v8 V8 hv8 hg8 _; have HB8 : Hid (Below w.heap.size w V8) := Lib.hid (HBA.out.grown hg8 HBA.out.size (fun k hk => (World.ownsRow.lt RW1.out k hk).1)); have hl8 : (quoL p).length = 1 + (quoM p).length + 1 := (by simp [quoL]; omega); have RV8 : V8.ownsRow w.heap.size 5 1 v8 (quoL p).length (bC (quoL p)) := (by rw [hl8, show quoL p = (34 :: quoM p) ++ [34] from rfl, bC_append]; exact hv8); obtain ⟨A8, k8, rfl, hby8, hn8, _⟩ := Own8.bytes (l := quoL p) RV8; have hcv := run_str V8 A8 (quoL p) k8 hby8 HBL.out (by intro h; cases h; rcases RV8.2 with ⟨e, h0⟩ | ⟨g, cap, cur, e, _⟩; exact h0; cases e); rw [hl8] at hcv; clear hv8 hg8 hs1 RW1 RV8 hby8)
      (try go_wp2)
      go_ret
      exact ⟨rfl, HB8.out⟩
end Go.Proofs.YtelabakcadhffaaDoor
