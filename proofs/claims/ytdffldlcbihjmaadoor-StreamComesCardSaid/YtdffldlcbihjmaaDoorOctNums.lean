/- octet.Writer: Nums. -/
import Derived.Test.YtdffldlcbihjmaaDoorOctMem
import Derived.Deep.RegionLaw
set_option linter.unusedSimpArgs false
set_option linter.unusedVariables false
namespace Go.Proofs.YtdffldlcbihjmaaDoor
open Go.RowKit

def numsE (zs : List Int) : List Int := zs.flatMap fun x => encN x.toNat
theorem numsE_append (a b : List Int) : numsE (a ++ b) = numsE a ++ numsE b := by unfold numsE; exact List.flatMap_append ..
theorem numsE_succ (zs : List Int) (k : Nat) (h : k < zs.length) : numsE (zs.take (k + 1)) = numsE (zs.take k) ++ encN zs[k].toNat := by
  rw [List.take_add_one, List.getElem?_eq_getElem h, numsE_append]
  simp [numsE]
theorem and127 (n : Int) (h0 : 0 ≤ n) (h1 : n ≤ 4611686018427387904) : bits .and .i64 n 127 = n % 128 := by
  obtain ⟨n, rfl⟩ := Int.eq_ofNat_of_zero_le h0
  show IntKind.i64.wrap ((BitVec.ofInt 64 (n : Int) &&& BitVec.ofInt 64 127).toNat : Int) = _
  have e1 : (BitVec.ofInt 64 (n : Int)).toNat = n := by rw [BitVec.ofInt_natCast, BitVec.toNat_ofNat]; exact Nat.mod_eq_of_lt (by omega)
  have e2 : (BitVec.ofInt 64 127).toNat = 2 ^ 7 - 1 := by decide
  rw [BitVec.toNat_and, e1, e2, Nat.and_two_pow_sub_one_eq_mod, IntWalk.i64_in _ (by omega)]
  omega
theorem or128 (m : Int) (h0 : 0 ≤ m) (h1 : m < 128) : bits .or .i64 m 128 = m + 128 := by
  obtain ⟨m, rfl⟩ := Int.eq_ofNat_of_zero_le h0
  show IntKind.i64.wrap ((BitVec.ofInt 64 (m : Int) ||| BitVec.ofInt 64 128).toNat : Int) = _
  have e1 : (BitVec.ofInt 64 (m : Int)).toNat = m := by rw [BitVec.ofInt_natCast, BitVec.toNat_ofNat]; exact Nat.mod_eq_of_lt (by omega)
  have e2 : (BitVec.ofInt 64 128).toNat = 2 ^ 7 * 1 := by decide
  have e3 : m ||| 2 ^ 7 * 1 = 2 ^ 7 * 1 + m := by rw [Nat.or_comm]; exact (Nat.two_pow_add_eq_or_of_lt (i := 7) (b := m) (by omega) 1).symm
  rw [BitVec.toNat_or, e1, e2, e3, IntWalk.i64_in _ (by omega)]
  omega
theorem w8 (x : Int) (h0 : 0 ≤ x) (h1 : x ≤ 255) : IntKind.u8.wrap x = x := by
  have : IntKind.u8.wrap x = x % 256 := by simp [IntKind.wrap, IntKind.bits, IntKind.signed]
  rw [this]; omega
set_option maxRecDepth 100000 in
set_option maxHeartbeats 4000000 in
theorem wr_nums (b g c : Nat) (v : Value) (l zs : List Int) (w : World) (h : Wr w b v l) (hg : ¬ Foot b v g) (hlt : g < w.heap.size)
    (hz : ∀ (j : Nat) (q : j < zs.length), w.cell? ⟨g, j, none⟩ = some (.int .i64 zs[j])) (hb : ∀ x ∈ zs, 0 ≤ x ∧ x ≤ 4611686018427387904) (hn : zs.length ≤ 10) (hl : (l ++ numsE zs).length ≤ 1000000) :
    Calls Tryd.prog 48 #[.pointer (some ⟨b, 0, none⟩), .slice (some ⟨g, 0, none⟩) zs.length c] w fun e w' => e = .returned (.tuple #[]) ∧ ∃ v', WrPost b v (l ++ numsE zs) w w' v' := by
  obtain ⟨i0, hi0, hz0, hz1, hz2⟩ := info_parts u8_info
  have H0 := Lib.hid (WrPost.start h)
  have HZ := Lib.hid hz
  have HB := Lib.hid hb
  have HL := Lib.hid hl
  have hnz : (zs.length : Int) ≤ 10 := by omega
  clear hz hb hl h
  go_enter Tryd.func48, Tryd.ntmps48
  go_wp2
  go_loopw [10] (fun i wr => ∃ k : Nat, k ≤ zs.length ∧ i = .int .i64 k ∧ ∃ v1, WrPost b v (l ++ numsE (zs.take k)) w wr v1) (fun i _ => zs.length - (intOf i).toNat)
  case atStart => exact ⟨0, Nat.zero_le _, rfl, v, by simpa [numsE] using H0.out⟩
  case round =>
    obtain ⟨k, hk, rfl, v1, hW⟩ := hrel
    clear H0
    by_cases hlt' : k < zs.length
    · have x0 := (hW.but.cell g k hlt hg).trans (HZ.out k hlt')
      have hx := HB.out zs[k] (List.getElem_mem hlt')
      have HS := Lib.hid (numsE_succ zs k hlt')
      have lk : (k : Int) < (zs.length : Int) := by omega
      have HLk : Hid ((l ++ numsE (zs.take k)).length + (encN zs[k].toNat).length ≤ 1000000) := by
        have h1 := HL.out
        have h2 : numsE zs = numsE (zs.take (k + 1)) ++ numsE (zs.drop (k + 1)) := by
          rw [← numsE_append, List.take_append_drop]
        rw [h2, HS.out] at h1
        refine Lib.hid ?_
        simp only [List.length_append] at h1 ⊢
        omega
      obtain ⟨x, hxe⟩ : ∃ x, zs[k] = x := ⟨_, rfl⟩
      rw [hxe] at x0 hx
      have HX := Lib.hid hxe
      have x1 := hx.1
      have x2 := hx.2
      have HW1 := Lib.hid hW
      clear hW hx hxe
      have t1 : ¬ x < 0 := by omega
      have t2 : ¬ 4611686018427387904 < x := by omega
      have HW2 : Hid (∀ l1, l1 = l ++ numsE (zs.take k) → WrPost b v l1 w wr v1) := Lib.hid (fun l1 e => e ▸ HW1.out)
      obtain ⟨T, hT⟩ : ∃ T, T = l ++ numsE (zs.take k) := ⟨_, rfl⟩
      have HP := HW2.out T hT
      have HPP := Lib.hid HP
      have HTT : Hid (T ++ encN x.toNat = l ++ numsE (zs.take (k + 1))) := Lib.hid (by rw [HS.out, hT, HX.out, List.append_assoc])
      have HLT : Hid (T.length + (encN x.toNat).length ≤ 1000000) := Lib.hid (by rw [hT, ← HX.out]; exact HLk.out)
      clear HW1 HW2 HS HX HLk hT HP
      go_wp2
      generalize wr = wv at *
      go_loopw [5] (fun n wr => ∃ (m : Int) (l2 : List Int) (v2 : Value), n = .int .i64 m ∧ 0 ≤ m ∧ m ≤ x ∧ WrPost b v l2 w wr v2 ∧ l2 ++ encN m.toNat = T ++ encN x.toNat) (fun n _ => (intOf n).toNat)
      case atStart => exact ⟨x, T, v1, rfl, x1, Int.le_refl _, HPP.out, rfl⟩
      case round =>
        obtain ⟨m, l2, v2, rfl, m0, m1, hP, hE⟩ := hrel
        clear HPP
        have HH := Lib.hid hP
        obtain ⟨A2, c2, rfl⟩ := hP.wr.shape
        have b0 := hP.wr.c0
        have bf := hP.wr.f0
        have bl := hP.wr.lt
        have hll : l2.length + (encN m.toNat).length ≤ 1000000 := by
          have h1 := HLT.out
          have h2 := congrArg List.length hE
          simp only [List.length_append] at h2
          omega
        have hp0 := encN_len0 m.toNat
        have hrow : wr.ownsRow 0 5 1 (.slice A2 l2.length c2) l2.length (bC l2) := hP.wr.row
        have hbn : some b ≠ (Value.slice A2 l2.length c2).ownBlock := fun e => hP.wr.ne e.symm
        have HEE := Lib.hid hE
        clear hP hE
        by_cases hgt : 127 < m
        · have t3 := and127 m m0 (by omega)
          have q0 : 0 ≤ m % 128 := by omega
          have q1 : m % 128 < 128 := by omega
          have t4 := or128 (m % 128) q0 q1
          have t5 := w8 (m % 128 + 128) (by omega) (by omega)
          have HEN : Hid (encN m.toNat = (m % 128 + 128) :: encN (m / 128).toNat) := Lib.hid (by
            rw [encN_high (by omega), show m.toNat / 128 = (m / 128).toNat from by omega]
            congr 1
            omega)
          clear q0 q1
          generalize hy : m % 128 + 128 = y at *
          clear hy
          go_wp2_with (at_builtin; refine wpList_append_lies _ rfl (.tmp 23) (.tmp 28) _ rfl 0 5 i0 _ 1 1 Tryd.underlying28 hi0 hz0 hz1 hz2 rfl (by decide) (.slice A2 l2.length c2) l2.length (bC l2) rfl (World.ownsRow.alloc hrow _) ⟨wr.heap.size, 0, none⟩ 1 1 [.int .u8 y] rfl rfl (World.news_of_block (cs := #[.int .u8 y]) (t := 5) (fr := (0, 0)) (heap_alloc_new wr _)) (by simp [Value.oneCell']) (by omega) (by unfold maxLen; omega) (by omega) (Nat.zero_le _) _ rfl ?_; intro g2 cap2 w2 hown2 hg2 hat2 hlt2; have b2 : w2.cell? ⟨b, 0, none⟩ = some (.slice A2 l2.length c2) := (hg2.cell_far ⟨b, 0, none⟩ (by simp; omega) hbn).trans ((World.cell?_alloc_past _ _ _ bl).trans b0); have f2 : w2.frozen? ⟨b, 0, none⟩ = false := (hg2.frozen_far ⟨b, 0, none⟩ (by simp; omega) hbn).trans (((Below.alloc (Below.refl wr.heap.size wr) (Nat.le_refl _) (.cells #[.int .u8 y] 5)).frozen (p := ⟨b, 0, none⟩) bl).trans bf))
          refine ⟨⟨m / 128, l2 ++ [y], .slice (some ⟨g2, 0, none⟩) (l2.length + 1) cap2, rfl, by omega, by omega, HH.out.trans (WrPost.app (r := [y]) HH.out.wr ((Below.refl _ _).alloc (Nat.le_refl _) _) rfl hown2 hg2 hat2), ?_⟩, by simp [intOf]; omega⟩
          rw [List.append_assoc]
          show l2 ++ (y :: encN (m / 128).toNat) = _
          rw [← HEN.out]
          exact HEE.out
        · have t5 := w8 m m0 (by omega)
          have HEN : Hid (encN m.toNat = [m]) := Lib.hid (by rw [encN_low (by omega), show ((m.toNat : Nat) : Int) = m from by omega])
          obtain ⟨y, hy⟩ : ∃ y, m = y := ⟨_, rfl⟩
          rw [hy] at t5
          subst hy
          go_wp2_with (at_builtin; refine wpList_append_lies _ rfl (.tmp 38) (.tmp 41) _ rfl 0 5 i0 _ 1 1 Tryd.underlying28 hi0 hz0 hz1 hz2 rfl (by decide) (.slice A2 l2.length c2) l2.length (bC l2) rfl (World.ownsRow.alloc hrow _) ⟨wr.heap.size, 0, none⟩ 1 1 [.int .u8 m] rfl rfl (World.news_of_block (cs := #[.int .u8 m]) (t := 5) (fr := (0, 0)) (heap_alloc_new wr _)) (by simp [Value.oneCell']) (by omega) (by unfold maxLen; omega) (by omega) (Nat.zero_le _) _ rfl ?_; intro g2 cap2 w2 hown2 hg2 hat2 hlt2; have b2 : w2.cell? ⟨b, 0, none⟩ = some (.slice A2 l2.length c2) := (hg2.cell_far ⟨b, 0, none⟩ (by simp; omega) hbn).trans ((World.cell?_alloc_past _ _ _ bl).trans b0); have f2 : w2.frozen? ⟨b, 0, none⟩ = false := (hg2.frozen_far ⟨b, 0, none⟩ (by simp; omega) hbn).trans (((Below.alloc (Below.refl wr.heap.size wr) (Nat.le_refl _) (.cells #[.int .u8 m] 5)).frozen (p := ⟨b, 0, none⟩) bl).trans bf))
          refine ⟨⟨k + 1, by omega, by go_num, .slice (some ⟨g2, 0, none⟩) (l2.length + 1) cap2, ?_⟩, by simp [intOf]; omega⟩
          have hfin := HH.out.trans (WrPost.app (r := [m]) HH.out.wr ((Below.refl _ _).alloc (Nat.le_refl _) _) rfl hown2 hg2 hat2)
          have e1 := HEE.out
          rw [HEN.out, HTT.out] at e1
          rw [e1] at hfin
          exact hfin
    · obtain rfl : k = zs.length := by omega
      have HW := Lib.hid hW
      rw [List.take_length] at hW
      clear HW
      go_wp2
      exact bodyPost_end (by simp [results, Tryd.results48, go_sem]) rfl ⟨rfl, v1, hW⟩
end Go.Proofs.YtdffldlcbihjmaaDoor
