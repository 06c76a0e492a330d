/- The reference's numbers as bytes: Num, Nums, Bytes (written by gen/refoct.py). -/
import Derived.Test.YtdffldlcbihjmaaDoorOctJoin
set_option linter.unusedSimpArgs false
set_option linter.unusedVariables false
namespace Go.Proofs.YtdffldlcbihjmaaDoor
open Go.RowKit

theorem and127u (n : Int) (h0 : 0 ≤ n) (h1 : n ≤ 4611686018427387904) : bits .and .u64 n 127 = n % 128 := by
  obtain ⟨n, rfl⟩ := Int.eq_ofNat_of_zero_le h0
  show IntKind.u64.wrap ((BitVec.ofInt 64 (n : Int) &&& BitVec.ofInt 64 127).toNat : Int) = _
  have e1 : (BitVec.ofInt 64 (n : Int)).toNat = n := by rw [BitVec.ofInt_natCast, BitVec.toNat_ofNat]; exact Nat.mod_eq_of_lt (by omega)
  have e2 : (BitVec.ofInt 64 127).toNat = 2 ^ 7 - 1 := by decide
  rw [BitVec.toNat_and, e1, e2, Nat.and_two_pow_sub_one_eq_mod, IntWalk.u64_in _ (by omega)]
  omega
theorem or128u (m : Int) (h0 : 0 ≤ m) (h1 : m < 128) : bits .or .u8 m 128 = m + 128 := by
  obtain ⟨m, rfl⟩ := Int.eq_ofNat_of_zero_le h0
  show IntKind.u8.wrap ((BitVec.ofInt 8 (m : Int) ||| BitVec.ofInt 8 128).toNat : Int) = _
  have e1 : (BitVec.ofInt 8 (m : Int)).toNat = m := by rw [BitVec.ofInt_natCast, BitVec.toNat_ofNat]; exact Nat.mod_eq_of_lt (by omega)
  have e2 : (BitVec.ofInt 8 128).toNat = 2 ^ 7 * 1 := by decide
  have e3 : m ||| 2 ^ 7 * 1 = 2 ^ 7 * 1 + m := by rw [Nat.or_comm]; exact (Nat.two_pow_add_eq_or_of_lt (i := 7) (b := m) (by omega) 1).symm
  rw [BitVec.toNat_or, e1, e2, e3, w8 _ (by omega) (by omega)]
  omega
/-- While a row of bytes grows. -/
structure G8 (w W : World) (v : Value) (l : List Int) : Prop where
  row : Own8 w.heap.size W v l
  hb : Below w.heap.size w W
theorem G8.start (w : World) : G8 w w (.slice none 0 0) [] := ⟨World.ownsRow_nil _ _ _ _, Below.refl _ _⟩
theorem G8.below {w W W' : World} {v : Value} {l : List Int} (h : G8 w W v l) (k : Below W.heap.size W W') : G8 w W' v l := ⟨(But.of_below (S := fun _ => False) k).row h.row (fun _ _ hf => hf), h.hb.trans (k.mono h.hb.size)⟩
theorem G8.app {w W W1 W2 : World} {v : Value} {l r : List Int} {g cap m : Nat} (h : G8 w W v l) (k : Below W.heap.size W W1) (hm : m = l.length + r.length)
    (hown : W2.ownsRow w.heap.size 5 1 (.slice (some ⟨g, 0, none⟩) m cap) m (bC l ++ bC r)) (hg : W1.grownBy W2 v.ownBlock) : G8 w W2 (.slice (some ⟨g, 0, none⟩) m cap) (l ++ r) := by
  subst hm
  refine ⟨?_, ((h.below k).hb).grown hg (h.below k).hb.size (fun q hq => (World.ownsRow.lt h.row q hq).1)⟩
  show World.ownsRow _ _ _ _ _ (l ++ r).length (bC (l ++ r))
  rw [bC_append, List.length_append]
  exact hown
theorem G8.told {w W : World} {v : Value} {l : List Int} (h : G8 w W v l) (h0 : 0 < l.length) : Told8 l w W (.returned v) := by
  obtain ⟨g, cap, rfl, _⟩ := row_shape h.row h0
  exact ⟨g, cap, rfl, h.row⟩
theorem own_cap8 {w : World} {base : Nat} {e : TypeId} {size g n cap : Nat} {xs : List Value} (h : w.ownsRow base e size (.slice (some ⟨g, 0, none⟩) n cap) n xs) : n ≤ cap := by
  rcases h.2 with ⟨h, _⟩ | ⟨g', cap', cur, h, _, _, h1, _⟩
  · cases h
  · injection h with _ _ h3
    omega
set_option maxRecDepth 100000 in
set_option maxHeartbeats 4000000 in
theorem ref_num (x : Int) (w : World) (x0 : 0 ≤ x) (x1 : x ≤ 4611686018427387904) : Calls Tryd.prog 87 #[.int .i64 x] w fun e w' => Told8 (encN x.toNat) w w' e ∧ Below w.heap.size w w' := by
  obtain ⟨i0, hi0, hz0, hz1, hz2⟩ := info_parts u8_info
  have t1 : ¬ 4611686018427387904 < x := by omega
  have hlen := encN_len x.toNat 9 (by omega) (by omega)
  have hu : IntKind.u64.wrap x = x := IntWalk.u64_in _ (by omega)
  have H0 := Lib.hid (G8.start w)
  have key : ∀ {u : Value}, u = .int .u64 x → u = .int .u64 x := fun h => h
  clear key
  by_cases hx : 0 < x
  · have hx0 : Hid (0 < x) := Lib.hid hx
    go_enter Tryd.func87, Tryd.ntmps87
    go_wp2
    go_loopw [3, 4] (fun u b wr => ∃ (m : Int) (l2 : List Int), u = .int .u64 m ∧ 0 ≤ m ∧ m ≤ x ∧ G8 w wr b l2 ∧ l2 ++ encN m.toNat = encN (x : Int).toNat) (fun u _ _ => (intOf u).toNat)
    case atStart => exact ⟨x, [], by first | rfl | rw [HX0.out], by omega, Int.le_refl _, H0.out, rfl⟩
    case round =>
      obtain ⟨m, l2, rfl, m0, m1, hP, hE⟩ := hrel
      clear H0
      have HH := Lib.hid hP
      obtain ⟨A2, c2, e2, _⟩ := hP.row.bytes
      subst e2
      have hll : l2.length + (encN m.toNat).length ≤ 9 := by
        have h2 := congrArg List.length hE
        simp only [List.length_append] at h2
        omega
      have hp0 := encN_len0 m.toNat
      have hrow : wr.ownsRow w.heap.size 5 1 (.slice A2 l2.length c2) l2.length (bC l2) := hP.row
      have hbs : w.heap.size ≤ wr.heap.size + 1 := by have := hP.hb.size; omega
      have HEE := Lib.hid hE
      clear hP hE
      by_cases hgt : 128 ≤ m
      · have t3 := and127u m m0 (by omega)
        have q0 : 0 ≤ m % 128 := by omega
        have q1 : m % 128 < 128 := by omega
        have t5 := w8 (m % 128) q0 (by omega)
        have t4 := or128u (m % 128) q0 q1
        have HEN : Hid (encN m.toNat = (m % 128 + 128) :: encN (m / 128).toNat) := Lib.hid (by
          rw [encN_high (by omega), show m.toNat / 128 = (m / 128).toNat from by omega]
          congr 1
          omega)
        clear q0 q1
        generalize hy : m % 128 + 128 = y at *
        clear hy
        go_wp2_with (at_builtin; refine wpList_append_lies _ rfl (.tmp 13) (.tmp 18) _ rfl w.heap.size 5 i0 _ 1 1 Tryd.underlying28 hi0 hz0 hz1 hz2 rfl (by decide) (.slice A2 l2.length c2) l2.length (bC l2) rfl (World.ownsRow.alloc hrow _) ⟨wr.heap.size, 0, none⟩ 1 1 [.int .u8 (y)] rfl rfl (World.news_of_block (cs := #[.int .u8 (y)]) (t := 5) (fr := (0, 0)) (heap_alloc_new wr _)) (by simp [Value.oneCell']) (by omega) (by unfold maxLen; omega) (by omega) (by simp; omega) _ rfl ?_; intro g2 cap2 w2 hown2 hg2 hat2 hlt2)
        refine ⟨⟨m / 128, l2 ++ [y], rfl, by omega, by omega, G8.app (r := [y]) HH.out ((Below.refl _ _).alloc (Nat.le_refl _) _) rfl hown2 hg2, ?_⟩, by simp [intOf]; omega⟩
        rw [List.append_assoc]
        show l2 ++ (y :: encN (m / 128).toNat) = _
        rw [← HEN.out]
        exact HEE.out
      · have t5 := w8 m m0 (by omega)
        have HEN : Hid (encN m.toNat = [m]) := Lib.hid (by rw [encN_low (by omega), show ((m.toNat : Nat) : Int) = m from by omega])
        go_wp2_with (at_builtin; refine wpList_append_lies _ rfl (.tmp 22) (.tmp 25) _ rfl w.heap.size 5 i0 _ 1 1 Tryd.underlying28 hi0 hz0 hz1 hz2 rfl (by decide) (.slice A2 l2.length c2) l2.length (bC l2) rfl (World.ownsRow.alloc hrow _) ⟨wr.heap.size, 0, none⟩ 1 1 [.int .u8 (m)] rfl rfl (World.news_of_block (cs := #[.int .u8 (m)]) (t := 5) (fr := (0, 0)) (heap_alloc_new wr _)) (by simp [Value.oneCell']) (by omega) (by unfold maxLen; omega) (by omega) (by simp; omega) _ rfl ?_; intro g2 cap2 w2 hown2 hg2 hat2 hlt2)
        go_ret
        have hfin := G8.app (r := [m]) HH.out ((Below.refl _ _).alloc (Nat.le_refl _) _) rfl hown2 hg2
        have e1 := HEE.out
        rw [HEN.out] at e1
        rw [e1] at hfin
        exact ⟨hfin.told (encN_len0 _), hfin.hb⟩
  · have HX0 : Hid (x = 0) := Lib.hid (by omega)
    go_enter Tryd.func87, Tryd.ntmps87
    go_wp2
    go_loopw [3, 4] (fun u b wr => ∃ (m : Int) (l2 : List Int), u = .int .u64 m ∧ 0 ≤ m ∧ m ≤ x ∧ G8 w wr b l2 ∧ l2 ++ encN m.toNat = encN (x : Int).toNat) (fun u _ _ => (intOf u).toNat)
    case atStart => exact ⟨x, [], by first | rfl | rw [HX0.out], by omega, Int.le_refl _, H0.out, rfl⟩
    case round =>
      obtain ⟨m, l2, rfl, m0, m1, hP, hE⟩ := hrel
      clear H0
      have HH := Lib.hid hP
      obtain ⟨A2, c2, e2, _⟩ := hP.row.bytes
      subst e2
      have hll : l2.length + (encN m.toNat).length ≤ 9 := by
        have h2 := congrArg List.length hE
        simp only [List.length_append] at h2
        omega
      have hp0 := encN_len0 m.toNat
      have hrow : wr.ownsRow w.heap.size 5 1 (.slice A2 l2.length c2) l2.length (bC l2) := hP.row
      have hbs : w.heap.size ≤ wr.heap.size + 1 := by have := hP.hb.size; omega
      have HEE := Lib.hid hE
      clear hP hE
      by_cases hgt : 128 ≤ m
      · exfalso; have := HX0.out; omega
      · have t5 := w8 m m0 (by omega)
        have HEN : Hid (encN m.toNat = [m]) := Lib.hid (by rw [encN_low (by omega), show ((m.toNat : Nat) : Int) = m from by omega])
        go_wp2_with (at_builtin; refine wpList_append_lies _ rfl (.tmp 22) (.tmp 25) _ rfl w.heap.size 5 i0 _ 1 1 Tryd.underlying28 hi0 hz0 hz1 hz2 rfl (by decide) (.slice A2 l2.length c2) l2.length (bC l2) rfl (World.ownsRow.alloc hrow _) ⟨wr.heap.size, 0, none⟩ 1 1 [.int .u8 (m)] rfl rfl (World.news_of_block (cs := #[.int .u8 (m)]) (t := 5) (fr := (0, 0)) (heap_alloc_new wr _)) (by simp [Value.oneCell']) (by omega) (by unfold maxLen; omega) (by omega) (by simp; omega) _ rfl ?_; intro g2 cap2 w2 hown2 hg2 hat2 hlt2)
        go_ret
        have hfin := G8.app (r := [m]) HH.out ((Below.refl _ _).alloc (Nat.le_refl _) _) rfl hown2 hg2
        have e1 := HEE.out
        rw [HEN.out] at e1
        rw [e1] at hfin
        exact ⟨hfin.told (encN_len0 _), hfin.hb⟩
set_option maxRecDepth 100000 in
set_option maxHeartbeats 4000000 in
theorem ref_nums (g c : Nat) (zs : List Int) (w : World) (hlt : g < w.heap.size) (h0 : 0 < zs.length)
    (hz : ∀ (j : Nat) (q : j < zs.length), w.cell? ⟨g, j, none⟩ = some (.int .i64 zs[j])) (hb : ∀ x ∈ zs, 0 ≤ x ∧ x ≤ 4611686018427387904) (hn : zs.length ≤ 10) (hl : (numsE zs).length ≤ 1000) :
    Calls Tryd.prog 54 #[.slice (some ⟨g, 0, none⟩) zs.length c] w fun e w' => Told8 (numsE zs) w w' e ∧ Below w.heap.size w w' := by
  obtain ⟨i0, hi0, hz0, hz1, hz2⟩ := info_parts u8_info
  have H0 := Lib.hid (G8.start w)
  have HZ := Lib.hid hz
  have HB := Lib.hid hb
  have HL := Lib.hid hl
  have hnz : (zs.length : Int) ≤ 10 := by omega
  clear hz hb hl
  go_enter Tryd.func54, Tryd.ntmps54
  go_wp2
  go_loopw [3, 4] (fun v i wr => ∃ k : Nat, k ≤ zs.length ∧ i = .int .i64 k ∧ G8 w wr v (numsE (zs.take k))) (fun _ i _ => zs.length - (intOf i).toNat)
  case atStart => exact ⟨0, Nat.zero_le _, rfl, by simpa [numsE] using H0.out⟩
  case round =>
    obtain ⟨k, hk, rfl, hG⟩ := hrel
    clear H0
    by_cases hlt' : k < zs.length
    · have x0 := (hG.hb.cell (p := ⟨g, k, none⟩) hlt).trans (HZ.out k hlt')
      have hx := HB.out zs[k] (List.getElem_mem hlt')
      have HS := Lib.hid (numsE_succ zs k hlt')
      have lk : (k : Int) < (zs.length : Int) := by omega
      have HLk : Hid ((numsE (zs.take k)).length + (encN zs[k].toNat).length ≤ 1000) := by
        have h1 := HL.out
        have h2 : numsE zs = numsE (zs.take (k + 1)) ++ numsE (zs.drop (k + 1)) := by rw [← numsE_append, List.take_append_drop]
        rw [h2, HS.out] at h1
        refine Lib.hid ?_
        simp only [List.length_append] at h1 ⊢
        omega
      generalize zs[k] = x at *
      have HG := Lib.hid hG
      have HR := Lib.hid (ref_num x wr hx.1 hx.2)
      clear hG hx
      generalize numsE (zs.take k) = T at *
      obtain ⟨A2, c2, e2, _⟩ := HG.out.row.bytes
      subst e2
      go_wp2_with fail
      refine HR.out.mono ?_
      rintro e w1 ⟨⟨g1, c1, rfl, hown1⟩, hb1⟩
      have HG1 := Lib.hid (HG.out.below hb1)
      have hrow : w1.ownsRow w.heap.size 5 1 (.slice A2 T.length c2) T.length (bC T) := HG1.out.row
      have hsrc := (Own8.bytes hown1)
      obtain ⟨A3, c3, e3, hby3, _⟩ := hsrc
      obtain ⟨rfl, rfl⟩ : some ⟨g1, 0, none⟩ = A3 ∧ c1 = c3 := by injection e3 with h1 h2 h3; exact ⟨h1, h3⟩
      have hnews := hby3.cells
      have hp0 := encN_len0 x.toNat
      have hll := HLk.out
      have hbs : w.heap.size ≤ w1.heap.size := HG1.out.hb.size
      clear HR hown1 hb1 hby3 HG
      generalize encN x.toNat = q at *
      go_wp2_with (at_builtin; refine wpList_append_lies _ rfl (.tmp 11) (.tmp 16) _ rfl w.heap.size 5 i0 _ 1 1 Tryd.underlying28 hi0 hz0 hz1 hz2 rfl (by decide) (.slice A2 T.length c2) T.length (bC T) rfl hrow ⟨g1, 0, none⟩ q.length c1 (bC q) rfl (by rw [bC_len]; omega) hnews (bC_one _) hp0 (by unfold maxLen; omega) (by omega) hbs _ rfl ?_; intro g2 cap2 w2 hown2 hg2 hat2 hlt2)
      refine ⟨⟨k + 1, by omega, by go_num, ?_⟩, by simp [intOf]; omega⟩
      rw [HS.out]
      exact G8.app (r := q) HG1.out (Below.refl _ _) rfl hown2 hg2
    · obtain rfl : k = zs.length := by omega
      have HG := hG
      rw [List.take_length] at HG
      clear hG
      have h1 : 0 < (numsE zs).length := by
        obtain ⟨a, t, rfl⟩ : ∃ a t, zs = a :: t := by
          cases zs with
          | nil => simp at h0
          | cons a t => exact ⟨a, t, rfl⟩
        show 0 < (encN a.toNat ++ numsE t).length
        have := encN_len0 a.toNat
        rw [List.length_append]; omega
      have HT := Lib.hid (HG.told h1)
      have HB2 := Lib.hid HG.hb
      clear HG
      go_wp2
      go_ret
      exact ⟨HT.out, HB2.out⟩
set_option maxRecDepth 100000 in
set_option maxHeartbeats 4000000 in
theorem ref_bytes (c : Nat) (A : Option Addr) (p : List Int) (w : World) (hp : ByL w A p) (hn : A = none → p.length = 0) (hl : p.length ≤ 100000) :
    Calls Tryd.prog 89 #[.slice A p.length c] w fun e w' => Told8 (encN p.length ++ p) w w' e ∧ Below w.heap.size w w' := by
  obtain ⟨i0, hi0, hz0, hz1, hz2⟩ := info_parts u8_info
  have HR := Lib.hid (ref_num (p.length : Int) w (by omega) (by omega))
  have HP := Lib.hid hp
  have hlen := encN_len p.length 9 (by omega) (by omega)
  clear hp
  by_cases hp0 : 0 < p.length
  · obtain ⟨ad, rfl⟩ : ∃ ad, A = some ad := by
      cases A with
      | none => have := hn rfl; omega
      | some ad => exact ⟨ad, rfl⟩
    clear hn
    go_enter Tryd.func89, Tryd.ntmps89
    go_wp2_with fail
    refine HR.out.mono ?_
    rintro e w1 ⟨⟨g1, c1, rfl, hown1⟩, hb1⟩
    rw [Int.toNat_natCast] at hown1 ⊢
    have HG := Lib.hid (G8.mk hown1 hb1)
    have hsrc := (HP.out.below hb1).cells
    have hbs := hb1.size
    have hp00 := encN_len0 p.length
    clear HR hb1
    go_wp2_with (at_builtin; refine wpList_append_lies _ rfl (.tmp 5) (.tmp 6) _ rfl w.heap.size 5 i0 _ 1 1 Tryd.underlying28 hi0 hz0 hz1 hz2 rfl (by decide) (.slice (some ⟨g1, 0, none⟩) (encN p.length).length c1) (encN p.length).length (bC (encN p.length)) rfl hown1 ad p.length c (bC p) rfl (by rw [bC_len]; omega) hsrc (bC_one _) hp0 (by unfold maxLen; omega) (by omega) hbs _ rfl ?_; intro g2 cap2 w2 hown2 hg2 hat2 hlt2)
    have hfin := G8.app (r := p) HG.out (Below.refl _ _) rfl hown2 hg2
    go_ret
    exact ⟨hfin.told (by rw [List.length_append]; omega), hfin.hb⟩
  · have hp1 : p = [] := List.length_eq_zero_iff.1 (by omega)
    subst hp1
    have hld := empty_loads.1
    have hst := empty_loads.2
    cases A with
    | none =>
      go_enter Tryd.func89, Tryd.ntmps89
      go_wp2_with fail
      refine HR.out.mono ?_
      rintro e w1 ⟨⟨g1, c1, rfl, hown1⟩, hb1⟩
      have HG : Hid (G8 w w1 (.slice (some ⟨g1, 0, none⟩) (encN 0).length c1) (encN 0 ++ [])) := Lib.hid (by rw [List.append_nil]; exact G8.mk hown1 hb1)
      have hroom := own_cap8 hown1
      clear HR hown1 hb1
      go_wp2
      go_ret
      exact ⟨HG.out.told (by rw [List.append_nil]; exact encN_len0 _), HG.out.hb⟩
    | some ad =>
      go_enter Tryd.func89, Tryd.ntmps89
      go_wp2_with fail
      refine HR.out.mono ?_
      rintro e w1 ⟨⟨g1, c1, rfl, hown1⟩, hb1⟩
      have HG : Hid (G8 w w1 (.slice (some ⟨g1, 0, none⟩) (encN 0).length c1) (encN 0 ++ [])) := Lib.hid (by rw [List.append_nil]; exact G8.mk hown1 hb1)
      have hroom : (encN 0).length ≤ c1 := own_cap8 hown1
      have hroomi : ((encN 0).length : Int) ≤ (c1 : Int) := by omega
      clear HR hown1 hb1
      go_wp2
      go_ret
      exact ⟨HG.out.told (by rw [List.append_nil]; exact encN_len0 _), HG.out.hb⟩
end Go.Proofs.YtdffldlcbihjmaaDoor
