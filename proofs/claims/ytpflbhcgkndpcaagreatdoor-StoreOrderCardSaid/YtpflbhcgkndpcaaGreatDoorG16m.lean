/- octet.Join of one row; octet.Writer: Out. -/
import Derived.Test.YtpflbhcgkndpcaaGreatDoorOctMem
import Derived.Deep.RegionLaw
import Derived.Laws.MakeOwn
/- octet.Writer: Nums. -/
set_option linter.unusedSimpArgs false
set_option linter.unusedVariables false
namespace Go.Proofs.YtpflbhcgkndpcaaGreatDoor
open Go.RowKit

def numsE (zs : List Int) : List Int := zs.flatMap fun x => encN x.toNat
theorem numsE_append (a b : List Int) : numsE (a ++ b) = numsE a ++ numsE b := by unfold numsE; exact List.flatMap_append ..
theorem numsE_succ (zs : List Int) (k : Nat) (h : k < zs.length) : numsE (zs.take (k + 1)) = numsE (zs.take k) ++ encN zs[k].toNat := by
  rw [List.take_add_one, List.getElem?_eq_getElem h, numsE_append]
  simp [numsE]
theorem and127 (n : Int) (h0 : 0 ≤ n) (h1 : n ≤ 4611686018427387904) : bits .and .i64 n 127 = n % 128 := by
  obtain ⟨n, rfl⟩ := Int.eq_ofNat_of_zero_le h0
  show IntKind.i64.wrap ((BitVec.ofInt 64 (n : Int) &&& BitVec.ofInt 64 127).toNat : Int) = _
  have e1 : (BitVec.ofInt 64 (n : Int)).toNat = n := by rw [BitVec.ofInt_natCast, BitVec.toNat_ofNat]; exact Nat.mod_eq_of_lt (by omega)
  have e2 : (BitVec.ofInt 64 127).toNat = 2 ^ 7 - 1 := by decide
  rw [BitVec.toNat_and, e1, e2, Nat.and_two_pow_sub_one_eq_mod, IntWalk.i64_in _ (by omega)]
  omega
theorem or128 (m : Int) (h0 : 0 ≤ m) (h1 : m < 128) : bits .or .i64 m 128 = m + 128 := by
  obtain ⟨m, rfl⟩ := Int.eq_ofNat_of_zero_le h0
  show IntKind.i64.wrap ((BitVec.ofInt 64 (m : Int) ||| BitVec.ofInt 64 128).toNat : Int) = _
  have e1 : (BitVec.ofInt 64 (m : Int)).toNat = m := by rw [BitVec.ofInt_natCast, BitVec.toNat_ofNat]; exact Nat.mod_eq_of_lt (by omega)
  have e2 : (BitVec.ofInt 64 128).toNat = 2 ^ 7 * 1 := by decide
  have e3 : m ||| 2 ^ 7 * 1 = 2 ^ 7 * 1 + m := by rw [Nat.or_comm]; exact (Nat.two_pow_add_eq_or_of_lt (i := 7) (b := m) (by omega) 1).symm
  rw [BitVec.toNat_or, e1, e2, e3, IntWalk.i64_in _ (by omega)]
  omega
theorem w8 (x : Int) (h0 : 0 ≤ x) (h1 : x ≤ 255) : IntKind.u8.wrap x = x := by
  have : IntKind.u8.wrap x = x % 256 := by simp [IntKind.wrap, IntKind.bits, IntKind.signed]
  rw [this]; omega
set_option maxRecDepth 100000 in
set_option maxHeartbeats 4000000 in
theorem wr_nums (b g c : Nat) (v : Value) (l zs : List Int) (w : World) (h : Wr w b v l) (hg : ¬ Foot b v g) (hlt : g < w.heap.size)
    (hz : ∀ (j : Nat) (q : j < zs.length), w.cell? ⟨g, j, none⟩ = some (.int .i64 zs[j])) (hb : ∀ x ∈ zs, 0 ≤ x ∧ x ≤ 4611686018427387904) (hn : zs.length ≤ 10) (hl : (l ++ numsE zs).length ≤ 1000000) :
    Calls Tryz.prog 55 #[.pointer (some ⟨b, 0, none⟩), .slice (some ⟨g, 0, none⟩) zs.length c] w fun e w' => e = .returned (.tuple #[]) ∧ ∃ v', WrPost b v (l ++ numsE zs) w w' v' := by
  obtain ⟨i0, hi0, hz0, hz1, hz2⟩ := info_parts u8_info
  have H0 := Lib.hid (WrPost.start h)
  have HZ := Lib.hid hz
  have HB := Lib.hid hb
  have HL := Lib.hid hl
  have hnz : (zs.length : Int) ≤ 10 := by omega
  clear hz hb hl h
  go_enter Tryz.func55, Tryz.ntmps55
  go_wp2
  go_loopw [10] (fun i wr => ∃ k : Nat, k ≤ zs.length ∧ i = .int .i64 k ∧ ∃ v1, WrPost b v (l ++ numsE (zs.take k)) w wr v1) (fun i _ => zs.length - (intOf i).toNat)
  case atStart => exact ⟨0, Nat.zero_le _, rfl, v, by simpa [numsE] using H0.out⟩
  case round =>
    obtain ⟨k, hk, rfl, v1, hW⟩ := hrel
    clear H0
    by_cases hlt' : k < zs.length
    · have x0 := (hW.but.cell g k hlt hg).trans (HZ.out k hlt')
      have hx := HB.out zs[k] (List.getElem_mem hlt')
      have HS := Lib.hid (numsE_succ zs k hlt')
      have lk : (k : Int) < (zs.length : Int) := by omega
      have HLk : Hid ((l ++ numsE (zs.take k)).length + (encN zs[k].toNat).length ≤ 1000000) := by
        have h1 := HL.out
        have h2 : numsE zs = numsE (zs.take (k + 1)) ++ numsE (zs.drop (k + 1)) := by
          rw [← numsE_append, List.take_append_drop]
        rw [h2, HS.out] at h1
        refine Lib.hid ?_
        simp only [List.length_append] at h1 ⊢
        omega
      obtain ⟨x, hxe⟩ : ∃ x, zs[k] = x := ⟨_, rfl⟩
      rw [hxe] at x0 hx
      have HX := Lib.hid hxe
      have x1 := hx.1
      have x2 := hx.2
      have HW1 := Lib.hid hW
      clear hW hx hxe
      have t1 : ¬ x < 0 := by omega
      have t2 : ¬ 4611686018427387904 < x := by omega
      have HW2 : Hid (∀ l1, l1 = l ++ numsE (zs.take k) → WrPost b v l1 w wr v1) := Lib.hid (fun l1 e => e ▸ HW1.out)
      obtain ⟨T, hT⟩ : ∃ T, T = l ++ numsE (zs.take k) := ⟨_, rfl⟩
      have HP := HW2.out T hT
      have HPP := Lib.hid HP
      have HTT : Hid (T ++ encN x.toNat = l ++ numsE (zs.take (k + 1))) := Lib.hid (by rw [HS.out, hT, HX.out, List.append_assoc])
      have HLT : Hid (T.length + (encN x.toNat).length ≤ 1000000) := Lib.hid (by rw [hT, ← HX.out]; exact HLk.out)
      clear HW1 HW2 HS HX HLk hT HP
      go_wp2
      generalize wr = wv at *
      go_loopw [5] (fun n wr => ∃ (m : Int) (l2 : List Int) (v2 : Value), n = .int .i64 m ∧ 0 ≤ m ∧ m ≤ x ∧ WrPost b v l2 w wr v2 ∧ l2 ++ encN m.toNat = T ++ encN x.toNat) (fun n _ => (intOf n).toNat)
      case atStart => exact ⟨x, T, v1, rfl, x1, Int.le_refl _, HPP.out, rfl⟩
      case round =>
        obtain ⟨m, l2, v2, rfl, m0, m1, hP, hE⟩ := hrel
        clear HPP
        have HH := Lib.hid hP
        obtain ⟨A2, c2, rfl⟩ := hP.wr.shape
        have b0 := hP.wr.c0
        have bf := hP.wr.f0
        have bl := hP.wr.lt
        have hll : l2.length + (encN m.toNat).length ≤ 1000000 := by
          have h1 := HLT.out
          have h2 := congrArg List.length hE
          simp only [List.length_append] at h2
          omega
        have hp0 := encN_len0 m.toNat
        have hrow : wr.ownsRow 0 5 1 (.slice A2 l2.length c2) l2.length (bC l2) := hP.wr.row
        have hbn : some b ≠ (Value.slice A2 l2.length c2).ownBlock := fun e => hP.wr.ne e.symm
        have HEE := Lib.hid hE
        clear hP hE
        by_cases hgt : 127 < m
        · have t3 := and127 m m0 (by omega)
          have q0 : 0 ≤ m % 128 := by omega
          have q1 : m % 128 < 128 := by omega
          have t4 := or128 (m % 128) q0 q1
          have t5 := w8 (m % 128 + 128) (by omega) (by omega)
          have HEN : Hid (encN m.toNat = (m % 128 + 128) :: encN (m / 128).toNat) := Lib.hid (by
            rw [encN_high (by omega), show m.toNat / 128 = (m / 128).toNat from by omega]
            congr 1
            omega)
          clear q0 q1
          generalize hy : m % 128 + 128 = y at *
          clear hy
          go_wp2_with (at_builtin; refine wpList_append_lies _ rfl (.tmp 23) (.tmp 28) _ rfl 0 5 i0 _ 1 1 Tryz.underlying42 hi0 hz0 hz1 hz2 rfl (by decide) (.slice A2 l2.length c2) l2.length (bC l2) rfl (World.ownsRow.alloc hrow _) ⟨wr.heap.size, 0, none⟩ 1 1 [.int .u8 y] rfl rfl (World.news_of_block (cs := #[.int .u8 y]) (t := 5) (fr := (0, 0)) (heap_alloc_new wr _)) (by simp [Value.oneCell']) (by omega) (by unfold maxLen; omega) (by omega) (Nat.zero_le _) _ rfl ?_; intro g2 cap2 w2 hown2 hg2 hat2 hlt2; have b2 : w2.cell? ⟨b, 0, none⟩ = some (.slice A2 l2.length c2) := (hg2.cell_far ⟨b, 0, none⟩ (by simp; omega) hbn).trans ((World.cell?_alloc_past _ _ _ bl).trans b0); have f2 : w2.frozen? ⟨b, 0, none⟩ = false := (hg2.frozen_far ⟨b, 0, none⟩ (by simp; omega) hbn).trans (((Below.alloc (Below.refl wr.heap.size wr) (Nat.le_refl _) (.cells #[.int .u8 y] 5)).frozen (p := ⟨b, 0, none⟩) bl).trans bf))
          refine ⟨⟨m / 128, l2 ++ [y], .slice (some ⟨g2, 0, none⟩) (l2.length + 1) cap2, rfl, by omega, by omega, HH.out.trans (WrPost.app (r := [y]) HH.out.wr ((Below.refl _ _).alloc (Nat.le_refl _) _) rfl hown2 hg2 hat2), ?_⟩, by simp [intOf]; omega⟩
          rw [List.append_assoc]
          show l2 ++ (y :: encN (m / 128).toNat) = _
          rw [← HEN.out]
          exact HEE.out
        · have t5 := w8 m m0 (by omega)
          have HEN : Hid (encN m.toNat = [m]) := Lib.hid (by rw [encN_low (by omega), show ((m.toNat : Nat) : Int) = m from by omega])
          obtain ⟨y, hy⟩ : ∃ y, m = y := ⟨_, rfl⟩
          rw [hy] at t5
          subst hy
          go_wp2_with (at_builtin; refine wpList_append_lies _ rfl (.tmp 38) (.tmp 41) _ rfl 0 5 i0 _ 1 1 Tryz.underlying42 hi0 hz0 hz1 hz2 rfl (by decide) (.slice A2 l2.length c2) l2.length (bC l2) rfl (World.ownsRow.alloc hrow _) ⟨wr.heap.size, 0, none⟩ 1 1 [.int .u8 m] rfl rfl (World.news_of_block (cs := #[.int .u8 m]) (t := 5) (fr := (0, 0)) (heap_alloc_new wr _)) (by simp [Value.oneCell']) (by omega) (by unfold maxLen; omega) (by omega) (Nat.zero_le _) _ rfl ?_; intro g2 cap2 w2 hown2 hg2 hat2 hlt2; have b2 : w2.cell? ⟨b, 0, none⟩ = some (.slice A2 l2.length c2) := (hg2.cell_far ⟨b, 0, none⟩ (by simp; omega) hbn).trans ((World.cell?_alloc_past _ _ _ bl).trans b0); have f2 : w2.frozen? ⟨b, 0, none⟩ = false := (hg2.frozen_far ⟨b, 0, none⟩ (by simp; omega) hbn).trans (((Below.alloc (Below.refl wr.heap.size wr) (Nat.le_refl _) (.cells #[.int .u8 m] 5)).frozen (p := ⟨b, 0, none⟩) bl).trans bf))
          refine ⟨⟨k + 1, by omega, by go_num, .slice (some ⟨g2, 0, none⟩) (l2.length + 1) cap2, ?_⟩, by simp [intOf]; omega⟩
          have hfin := HH.out.trans (WrPost.app (r := [m]) HH.out.wr ((Below.refl _ _).alloc (Nat.le_refl _) _) rfl hown2 hg2 hat2)
          have e1 := HEE.out
          rw [HEN.out, HTT.out] at e1
          rw [e1] at hfin
          exact hfin
    · obtain rfl : k = zs.length := by omega
      have HW := Lib.hid hW
      rw [List.take_length] at hW
      clear HW
      go_wp2
      exact bodyPost_end (by simp [results, Tryz.results55, go_sem]) rfl ⟨rfl, v1, hW⟩
end Go.Proofs.YtpflbhcgkndpcaaGreatDoor

/- octet.Writer: Raw, Bytes, Out; octet.Join of one row. -/
namespace Go.Proofs.YtpflbhcgkndpcaaGreatDoor
open Go.RowKit

def mk8 (n : Nat) : Array Value := madeCells (Value.int .u8 0).cells (n * 1)
theorem mk8_size (n : Nat) : (mk8 n).size = n * 1 := by simp [mk8, madeCells]
theorem run_mk8 (n : Nat) (hn : n ≤ 1000000) (w : World) : (Instr.makeSlice 42 (.int .i64 0) (.int .i64 (n : Int))).run Tryz.prog w = .ok (.slice (some ⟨w.heap.size, 0, none⟩) 0 n) (w.alloc (.cells (mk8 n) 5)) := by
  obtain ⟨i0, hi0, hz0, hz1, hz2⟩ := info_parts u8_info
  have h := run_makeSlice (P := Tryz.prog) w 42 5 i0 (.int .u8 0) Tryz.underlying42 hi0 hz0 .i64 .i64 0 n (Int.le_refl _) (by omega) (by rw [hz1]; omega) (by rw [hz2]; omega) (by omega)
  rw [hz1] at h
  exact h
theorem empty_loads : (∀ (ad : Addr) (w : World), (loadCellsFrom ad 0 0 #[]).run Tryz.prog w = .ok #[] w) ∧ (∀ (w : World) (p : Addr), (storeCells p []).run Tryz.prog w = .ok () w) := ⟨fun ad w => by simp [loadCellsFrom], fun w p => by simp [storeCells]⟩
theorem WrPost.same {b : Nat} {v : Value} {l : List Int} {w : World} (h : Wr w b v l) : WrPost b v l w (w.setCell ⟨b, 0, none⟩ v) v :=
  ⟨⟨World.cell?_setCell_same _ _ _ h.c0, by simpa using h.f0, by simpa [World.setCell] using h.lt, (But.of_only (S := fun k => k = b) ((Only.refl b w).setB v) rfl).row h.row (fun i hi hb => h.ne (hb ▸ hi)), h.ne⟩, (But.refl _ _).setCell (fun _ => .inl rfl) _, fun _ hk => .inl hk⟩
set_option maxRecDepth 100000 in
set_option maxHeartbeats 4000000 in
theorem wr_raw (b c : Nat) (A : Option Addr) (v : Value) (l p : List Int) (w : World) (h : Wr w b v l) (hl0 : 0 < l.length) (hp : ByL w A p) (hn : A = none → p.length = 0) (hl : (l ++ p).length ≤ 1000000) :
    Calls Tryz.prog 102 #[.pointer (some ⟨b, 0, none⟩), .slice A p.length c] w fun e w' => e = .returned (.tuple #[]) ∧ ∃ v', WrPost b v (l ++ p) w w' v' := by
  obtain ⟨i0, hi0, hz0, hz1, hz2⟩ := info_parts u8_info
  have HH := Lib.hid h
  obtain ⟨g0, c0, rfl, hc1, hc2, hc3⟩ := row_shape h.row hl0
  have b0 := h.c0
  have bf := h.f0
  have bl := h.lt
  have hrow : w.ownsRow 0 5 1 (.slice (some ⟨g0, 0, none⟩) l.length c0) l.length (bC l) := h.row
  have hbn : some b ≠ (Value.slice (some ⟨g0, 0, none⟩) l.length c0).ownBlock := fun e => h.ne e.symm
  have hll : l.length + p.length ≤ 1000000 := by simpa using hl
  clear h hl
  by_cases hp0 : 0 < p.length
  · obtain ⟨ad, rfl⟩ : ∃ ad, A = some ad := by
      cases A with
      | none => have := hn rfl; omega
      | some ad => exact ⟨ad, rfl⟩
    have hsrc := hp.cells
    clear hn
    go_enter Tryz.func102, Tryz.ntmps102
    go_wp2_with (at_builtin; refine wpList_append_lies _ rfl (.tmp 10) (.tmp 11) _ rfl 0 5 i0 _ 1 1 Tryz.underlying42 hi0 hz0 hz1 hz2 rfl (by decide) (.slice (some ⟨g0, 0, none⟩) l.length c0) l.length (bC l) rfl hrow ad p.length c (bC p) rfl (by rw [bC_len]; omega) hsrc (bC_one _) hp0 (by unfold maxLen; omega) (by omega) (Nat.zero_le _) _ rfl ?_; intro g2 cap2 w2 hown2 hg2 hat2 hlt2; have b2 : w2.cell? ⟨b, 0, none⟩ = some (.slice (some ⟨g0, 0, none⟩) l.length c0) := (hg2.cell_far ⟨b, 0, none⟩ bl hbn).trans b0; have f2 : w2.frozen? ⟨b, 0, none⟩ = false := (hg2.frozen_far ⟨b, 0, none⟩ bl hbn).trans bf)
    exact bodyPost_end (by simp [results, Tryz.results102, go_sem]) rfl ⟨rfl, _, WrPost.app (r := p) HH.out (Below.refl _ _) rfl hown2 hg2 hat2⟩
  · have hp1 : p = [] := List.length_eq_zero_iff.1 (by omega)
    subst hp1
    have hroom : l.length ≤ c0 := hc1
    have hroomi : (l.length : Int) ≤ (c0 : Int) := by omega
    have hld := empty_loads.1
    have hst := empty_loads.2
    rw [List.append_nil]
    have HS := Lib.hid (WrPost.same HH.out)
    clear hrow
    cases A with
    | none =>
      go_enter Tryz.func102, Tryz.ntmps102
      go_wp2
      exact bodyPost_end (by simp [results, Tryz.results102, go_sem]) rfl ⟨rfl, _, HS.out⟩
    | some ad =>
      go_enter Tryz.func102, Tryz.ntmps102
      go_wp2
      exact bodyPost_end (by simp [results, Tryz.results102, go_sem]) rfl ⟨rfl, _, HS.out⟩
set_option maxRecDepth 100000 in
set_option maxHeartbeats 4000000 in
theorem wr_bytes (b g c cc : Nat) (A : Option Addr) (v : Value) (l p : List Int) (w : World) (h : Wr w b v l) (hg : ¬ Foot b v g) (hlt : g < w.heap.size) (hz : w.cell? ⟨g, 0, none⟩ = some (.slice A p.length cc))
    (hp : ByL w A p) (hA : 0 < p.length → Av (Foot b v) A) (hn : A = none → p.length = 0) (hl : (l ++ (encN p.length ++ p)).length ≤ 1000000) :
    Calls Tryz.prog 57 #[.pointer (some ⟨b, 0, none⟩), .slice (some ⟨g, 0, none⟩) 1 c] w fun e w' => e = .returned (.tuple #[]) ∧ ∃ v', WrPost b v (l ++ (encN p.length ++ p)) w w' v' := by
  have hll : l.length + ((encN p.length).length + p.length) ≤ 1000000 := by simpa using hl
  have hb1 : Below w.heap.size w (w.alloc (.cells #[.int .i64 (p.length : Int)] 3)) := by (repeat' (first | (with_reducible exact Below.refl _ _) | (with_reducible assumption) | (with_reducible refine Below.trans ?_ (Below.mono (by with_reducible assumption) ?_)) | (with_reducible refine Below.alloc ?_ ?_ _) | (with_reducible refine Below.setCell ?_ ?_ _) | (with_reducible refine below_drewN ?_ _) | (with_reducible refine Below.drew ?_) | go_size))
  have h1 := h.below hb1
  have HN := Lib.hid (wr_nums b w.heap.size 1 v l [(p.length : Int)] _ h1 (fun hf => by have := h.foot_lt _ hf; omega) (by simp) (by intro j q; simp at q; subst q; simp) (by intro x hx; simp at hx; subst hx; omega) (by simp) (by simp [numsE]; omega))
  have HH := Lib.hid h
  have HP := Lib.hid hp
  have HA := Lib.hid hA
  have HB1 := Lib.hid hb1
  have hnb : ∀ k, Foot b v k → k < w.heap.size := h.foot_lt
  have HNB := Lib.hid hnb
  clear h h1 hp hA hb1 hnb hl
  go_enter Tryz.func57, Tryz.ntmps57
  go_wp2
  refine wp_loop_rounds 2 ?_
  rw [rounds_succ]
  go_wp2_with fail
  refine HN.out.mono ?_
  rintro e w1 ⟨rfl, v1, hw1⟩
  have hE : numsE [(p.length : Int)] = encN p.length := by simp [numsE]
  rw [hE] at hw1
  have hp1 := (HP.out.below HB1.out).but hw1.but HA.out
  have HR := Lib.hid (wr_raw b cc A v1 (l ++ encN p.length) p w1 hw1.wr (by have := encN_len0 p.length; simp; omega) hp1 hn (by simp; omega))
  have HW := Lib.hid (WrPost.first HB1.out hw1)
  have x1 : w1.cell? ⟨g, 0, none⟩ = some (.slice A p.length cc) := (hw1.but.cell g 0 (by simp; omega) hg).trans ((HB1.out.cell (p := ⟨g, 0, none⟩) hlt).trans hz)
  clear hw1 hp1 hE
  go_wp2_with fail
  refine HR.out.mono ?_
  rintro e w2 ⟨rfl, v2, hw2⟩
  have HW2 := Lib.hid (HW.out.trans hw2)
  clear hw2
  go_wp2_with fail
  rw [rounds_succ]
  go_wp2
  have := HW2.out
  rw [List.append_assoc] at this
  exact bodyPost_end (by simp [results, Tryz.results57, go_sem]) rfl ⟨rfl, v2, this⟩
end Go.Proofs.YtpflbhcgkndpcaaGreatDoor

/- octet.Join of one row; octet.Writer: Out. -/
namespace Go.Proofs.YtpflbhcgkndpcaaGreatDoor
open Go.RowKit

theorem own_base {w : World} {base base' : Nat} {e : TypeId} {size n : Nat} {v : Value} {xs : List Value} (hb : base' ≤ base) (h : w.ownsRow base e size v n xs) : w.ownsRow base' e size v n xs :=
  ⟨h.1, h.2.imp id (fun ⟨g, cap, cur, e, h1, h2⟩ => ⟨g, cap, cur, e, Nat.le_trans hb h1, h2⟩)⟩
/-- A row of its own is told. -/
def Told8 (p : List Int) (w w' : World) (e : Ending) : Prop := ∃ g cap, e = .returned (.slice (some ⟨g, 0, none⟩) p.length cap) ∧ Own8 w.heap.size w' (.slice (some ⟨g, 0, none⟩) p.length cap) p
set_option maxRecDepth 100000 in
set_option maxHeartbeats 4000000 in
theorem oct_join (g c cc : Nat) (A : Option Addr) (p : List Int) (w : World) (hlt : g < w.heap.size) (hz : w.cell? ⟨g, 0, none⟩ = some (.slice A p.length cc)) (hp : ByL w A p) (hn : A = none → p.length = 0) (hl : p.length ≤ 1000000) :
    Calls Tryz.prog 30 #[.slice (some ⟨g, 0, none⟩) 1 c] w fun e w' => Told8 p w w' e ∧ Below w.heap.size w w' := by
  obtain ⟨i0, hi0, hz0, hz1, hz2⟩ := info_parts u8_info
  have hmk := run_mk8 p.length hl
  have hmade := World.ownsRow_made (base := w.heap.size) (e := 5) (size := 1) w (mk8 p.length) p.length (Nat.le_refl _) (by unfold maxLen; omega) (mk8_size _)
  have HB1 : Below w.heap.size w (w.alloc (.cells (mk8 p.length) 5)) := by (repeat' (first | (with_reducible exact Below.refl _ _) | (with_reducible assumption) | (with_reducible refine Below.trans ?_ (Below.mono (by with_reducible assumption) ?_)) | (with_reducible refine Below.alloc ?_ ?_ _) | (with_reducible refine Below.setCell ?_ ?_ _) | (with_reducible refine below_drewN ?_ _) | (with_reducible refine Below.drew ?_) | go_size))
  have hp1 := hp.below HB1
  have x1 : (w.alloc (.cells (mk8 p.length) 5)).cell? ⟨g, 0, none⟩ = some (.slice A p.length cc) := (HB1.cell (p := ⟨g, 0, none⟩) hlt).trans hz
  have hpi : (p.length : Int) ≤ 1000000 := by omega
  have HP := Lib.hid hp1
  have HM := Lib.hid hmade
  have HB := Lib.hid HB1
  clear hp hp1 hmade HB1
  have hs1 : w.heap.size < (w.alloc (.cells (mk8 p.length) 5)).heap.size := by simp
  by_cases hp0 : 0 < p.length
  · obtain ⟨ad, rfl⟩ : ∃ ad, A = some ad := by
      cases A with
      | none => have := hn rfl; omega
      | some ad => exact ⟨ad, rfl⟩
    clear hn
    go_enter Tryz.func30, Tryz.ntmps30
    go_wp2
    refine wp_loop_rounds 2 ?_
    rw [rounds_succ]
    go_wp2
    rw [rounds_succ]
    go_wp2
    have hmade := HM.out
    have hp1 := HP.out
    have hb1 := HB.out
    generalize hW : w.alloc (.cells (mk8 p.length) 5) = w1 at *
    clear hW
    have hsrc := hp1.cells
    refine wp_loop_rounds 2 ?_
    rw [rounds_succ]
    go_wp2_with (at_builtin; refine wpList_append_lies _ rfl (.tmp 28) (.tmp 29) _ rfl w.heap.size 5 i0 _ 1 1 Tryz.underlying42 hi0 hz0 hz1 hz2 rfl (by decide) (.slice (some ⟨w.heap.size, 0, none⟩) 0 p.length) 0 [] rfl hmade ad p.length cc (bC p) rfl (by rw [bC_len]; omega) hsrc (bC_one _) hp0 (by unfold maxLen; omega) (by omega) (by omega) _ rfl ?_; intro g2 cap2 w2 hown2 hg2 hat2 hlt2)
    rw [rounds_succ]
    go_wp2
    go_ret
    rw [Nat.zero_add] at hown2
    refine ⟨⟨g2, cap2, rfl, by simpa using hown2⟩, hb1.grown hg2 (by omega) (fun k hk => by simp [Value.ownBlock] at hk; omega)⟩
  · have hp1 : p = [] := List.length_eq_zero_iff.1 (by omega)
    subst hp1
    have hld := empty_loads.1
    have hst := empty_loads.2
    have hmk0 : ∀ w : World, (Instr.makeSlice 42 (.int .i64 0) (.int .i64 0)).run Tryz.prog w = .ok (.slice (some ⟨w.heap.size, 0, none⟩) 0 0) (w.alloc (.cells (mk8 0) 5)) := fun w => run_mk8 0 (by omega) w
    have hHM := HM
    clear hmk
    cases A with
    | none =>
      go_enter Tryz.func30, Tryz.ntmps30
      go_wp2
      refine wp_loop_rounds 2 ?_
      rw [rounds_succ]
      go_wp2
      rw [rounds_succ]
      go_wp2
      refine wp_loop_rounds 2 ?_
      rw [rounds_succ]
      go_wp2
      rw [rounds_succ]
      go_wp2
      go_ret
      exact ⟨⟨_, _, rfl, hHM.out⟩, HB.out⟩
    | some ad =>
      go_enter Tryz.func30, Tryz.ntmps30
      go_wp2
      refine wp_loop_rounds 2 ?_
      rw [rounds_succ]
      go_wp2
      rw [rounds_succ]
      go_wp2
      refine wp_loop_rounds 2 ?_
      rw [rounds_succ]
      go_wp2
      rw [rounds_succ]
      go_wp2
      go_ret
      exact ⟨⟨_, _, rfl, hHM.out⟩, HB.out⟩
set_option maxRecDepth 100000 in
set_option maxHeartbeats 4000000 in
theorem wr_out (b : Nat) (v : Value) (l : List Int) (w : World) (h : Wr w b v l) (hl : l.length ≤ 1000000) :
    Calls Tryz.prog 58 #[.pointer (some ⟨b, 0, none⟩)] w fun e w' => Told8 l w w' e ∧ Below w.heap.size w w' := by
  obtain ⟨A, c, e, hby, ha, hc⟩ := h.row.bytes
  subst e
  have hb1 : Below w.heap.size w (w.alloc (.cells #[.slice A l.length c] 42)) := by (repeat' (first | (with_reducible exact Below.refl _ _) | (with_reducible assumption) | (with_reducible refine Below.trans ?_ (Below.mono (by with_reducible assumption) ?_)) | (with_reducible refine Below.alloc ?_ ?_ _) | (with_reducible refine Below.setCell ?_ ?_ _) | (with_reducible refine below_drewN ?_ _) | (with_reducible refine Below.drew ?_) | go_size))
  have b0 := h.c0
  have hn : A = none → l.length = 0 := by
    rintro rfl
    rcases h.row.2 with ⟨_, h0⟩ | ⟨g, cap, cur, e, _⟩
    · exact h0
    · cases e
  have HJ := Lib.hid (oct_join w.heap.size 1 c A l (w.alloc (.cells #[.slice A l.length c] 42)) (by simp) (by simp) (hby.below hb1) hn hl)
  have HB := Lib.hid hb1
  clear h hby ha hc hb1 hn
  go_enter Tryz.func58, Tryz.ntmps58
  go_wp2_with fail
  refine HJ.out.mono ?_
  rintro e w2 ⟨⟨g, cap, rfl, hown⟩, hb2⟩
  have HO := Lib.hid hown
  have HB2 := Lib.hid (HB.out.trans (hb2.mono (by simp)))
  clear hown hb2
  go_wp2
  go_ret
  exact ⟨⟨g, cap, rfl, own_base (by simp) HO.out⟩, HB2.out⟩
end Go.Proofs.YtpflbhcgkndpcaaGreatDoor

