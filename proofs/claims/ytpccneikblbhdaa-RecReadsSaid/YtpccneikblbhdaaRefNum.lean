/- The reference's Reader: Num, Bytes. -/
import Derived.Test.YtpccneikblbhdaaRefRd
set_option linter.unusedSimpArgs false
set_option linter.unusedVariables false
namespace Go.Proofs.Ytpccneikblbhdaa
open Go.RowKit

variable {Q : Nat → Prop}
theorem or_hiu (k m d : Nat) (hm : m < 2 ^ (7 * k)) (hb : m + d * 2 ^ (7 * k) < 18446744073709551616) : bits .or .u64 (m : Int) ((d * 2 ^ (7 * k) : Nat) : Int) = ((m + d * 2 ^ (7 * k) : Nat) : Int) := by
  generalize hP : 2 ^ (7 * k) = P at *
  show IntKind.u64.wrap ((BitVec.ofInt 64 (m : Int) ||| BitVec.ofInt 64 ((d * P : Nat) : Int)).toNat : Int) = _
  have e1 : (BitVec.ofInt 64 (m : Int)).toNat = m := by rw [BitVec.ofInt_natCast, BitVec.toNat_ofNat]; exact Nat.mod_eq_of_lt (by omega)
  have e2 : (BitVec.ofInt 64 ((d * P : Nat) : Int)).toNat = d * P := by rw [BitVec.ofInt_natCast, BitVec.toNat_ofNat]; exact Nat.mod_eq_of_lt (by omega)
  have e3 : m ||| d * P = m + d * P := by
    subst hP
    have := Nat.two_pow_add_eq_or_of_lt (i := 7 * k) (b := m) hm d
    rw [Nat.mul_comm d, Nat.or_comm, Nat.add_comm]
    exact this.symm
  rw [BitVec.toNat_or, e1, e2, e3, IntWalk.u64_in _ (by omega)]
theorem num_bdu {k m d : Nat} (hk : k ≤ 9) (hd : d < 128) (hd9 : k = 9 → d ≤ 1) (hm : m < 2 ^ (7 * k)) : m + d * 2 ^ (7 * k) < 18446744073709551616 := by
  rcases Nat.lt_or_ge k 9 with h | h
  · have := (num_bd h hd hm).2
    omega
  · obtain rfl : k = 9 := by omega
    have h1 := hd9 rfl
    have e : (2 : Nat) ^ (7 * 9) = 9223372036854775808 := by decide
    rw [e] at hm ⊢
    omega
set_option maxRecDepth 100000 in
set_option maxHeartbeats 8000000 in
theorem rr_num_yes (b : Nat) (bs : List Int) (w : World) (h : Rd Q w b (some bs)) (hl : bs.length ≤ 1000000) :
    Calls Try.prog 41 #[.pointer (some ⟨b, 0, none⟩)] w fun e w' => e = .returned (.int .i64 ((rNum (some bs)).1 : Nat)) ∧ RdPost Q b (rNum (some bs)).2 w w' := by
  have HH := Lib.hid h
  have hby := h.by_ bs rfl
  have HBY := Lib.hid hby
  have HNO : Hid (decN 0 0 bs = none → Ending.returned (Value.int .i64 0) = Ending.returned (.int .i64 ((rNum (some bs)).1 : Nat)) ∧ (rNum (some bs)).2 = none) := Lib.hid (fun hd => by rw [rNum_none_of hd]; exact ⟨rfl, rfl⟩)
  have hud : undef = Value.tuple #[] := rfl
  clear h hby
  go_enter Try.func41, Try.ntmps41
  go_wp2
  go_loopw [3, 4] (fun u i wr => ∃ (k m : Nat), k ≤ bs.length ∧ k ≤ 9 ∧ i = .int .i64 k ∧ u = .int .u64 m ∧ m < 2 ^ (7 * k) ∧ RdPost Q b (some (bs.drop k)) w wr ∧ decN 0 0 bs = decN k m (bs.drop k)) (fun _ i _ => 10 - (intOf i).toNat)
  case atStart => exact ⟨0, 0, Nat.zero_le _, by omega, rfl, rfl, by simp, ⟨HH.out, Only.refl _ _⟩, by simp⟩
  case round =>
    obtain ⟨k, m, hk, hk9, rfl, rfl, hm, hP, hd⟩ := hrel
    clear HH
    have HRAW := Lib.hid (rr_raw b 1 (some (bs.drop k)) wr hP.rd (by omega) (by show (bs.drop k).length ≤ _; rw [List.length_drop]; omega))
    have e1 : ((1 : Nat) : Int) = 1 := rfl
    rw [e1] at HRAW
    clear e1
    have lk10 : (k : Int) < 10 := by omega
    by_cases hlt : k < bs.length
    · rw [List.drop_eq_getElem_cons hlt] at HRAW
      rw [rRaw_yes (by simp; omega)] at HRAW
      rw [List.drop_eq_getElem_cons hlt, decN_cons] at hd
      have hx := HBY.out bs[k] (List.getElem_mem hlt)
      simp only [List.take_succ_cons, List.take_zero, List.drop_succ_cons, List.drop_zero] at HRAW
      generalize bs[k] = x at *
      have HD := Lib.hid hd
      have HPP := Lib.hid hP
      clear hd hP
      go_wp2_with fail
      refine HRAW.out.mono ?_; rintro e w1 ⟨⟨A1, cc1, rfl, y1, n1, l1, m1, f1⟩, hp1⟩
      obtain ⟨B, O, rfl, hB, hcells⟩ := y1 (by simp)
      have x0 := hcells 0 (.int .u8 x) (by simp [bC])
      rw [Nat.add_zero] at x0
      have HP1 : Hid (RdPost Q b (some (bs.drop (k + 1))) w w1) := Lib.hid ⟨hp1.rd, HPP.out.only.trans hp1.only⟩
      obtain ⟨A2, c2, d0, d1, _⟩ := hp1.rd.yes _ rfl
      have lt1 := hp1.rd.lt
      have HBAD := Lib.hid (rr_bad b (some (bs.drop (k + 1))) w1 hp1.rd)
      clear y1 n1 m1 f1 hp1 hcells HRAW HPP
      obtain ⟨d, hd1⟩ : ∃ d : Nat, x.toNat % 128 = d := ⟨_, rfl⟩
      have hdb : d < 128 := by omega
      have hxd : x % 128 = (d : Int) := by omega
      have t1 : bits .and .u8 x 127 = (d : Int) := by rw [and127b x hx.1 hx.2, hxd]
      have t6 : IntKind.u64.wrap (d : Int) = (d : Int) := IntWalk.u64_in _ (by omega)
      have t7 : IntKind.u64.wrap (7 * (k : Int)) = 7 * (k : Int) := IntWalk.u64_in _ (by omega)
      -- cases
      obtain ⟨y, hy⟩ : ∃ y : Nat, d * 2 ^ (7 * k) = y := ⟨_, rfl⟩
      obtain ⟨z, hz⟩ : ∃ z : Nat, m + y = z := ⟨_, rfl⟩
      have HOR : Hid ((k = 9 → d ≤ 1) → IntKind.u64.wrap ((d : Int) * 2 ^ (7 * k)) = (y : Int) ∧ bits .or .u64 (m : Int) (y : Int) = (z : Int) ∧ z < 18446744073709551616) := Lib.hid (fun h9 => by
        have hb := num_bdu hk9 hdb h9 hm
        have ho := or_hiu k m d hm hb
        rw [hy, hz] at hb ho
        refine ⟨?_, ho, hb⟩
        have e : (d : Int) * 2 ^ (7 * k) = ((d * 2 ^ (7 * k) : Nat) : Int) := by push_cast; rfl
        rw [e, hy]
        exact IntWalk.u64_in _ (by omega))
      have hd' := HD.out
      rw [hd1, hy, hz] at hd'
      have HNB : Hid (k < 9 → z < 2 ^ (7 * (k + 1)) ∧ z < 9223372036854775808) := Lib.hid (fun h9 => by
        have := num_bd h9 hdb hm
        rw [hy, hz] at this
        exact this)
      have HZ9 : Hid (k = 9 → d = 1 → 9223372036854775808 ≤ z) := Lib.hid (fun e1 e2 => by
        subst e1 e2
        have : (2 : Nat) ^ (7 * 9) = 9223372036854775808 := by decide
        rw [this] at hy
        omega)
      clear HD hm
      by_cases h9 : k = 9
      · rw [if_pos (Or.inl h9)] at hd'
        have HE := Lib.hid (HNO.out hd')
        clear hd' HNO HNB
        by_cases g1 : 127 < x
        · subst h9
          have t3 : decide (127 < x) = true := by simpa using g1
          clear g1 HOR HZ9 hy hz hxd hd1
          go_wp2_with (go_at_call 46; refine HBAD.out.mono ?_; rintro e w2 ⟨rfl, hp2⟩; have HP := Lib.hid hp2; clear hp2)
          go_ret
          exact ⟨HE.out.1, by rw [HE.out.2]; exact ⟨HP.out.rd, HP1.out.only.trans HP.out.only⟩⟩
        by_cases g2 : 1 < x
        · subst h9
          have t3 : decide (127 < x) = false := by simpa using g1
          have t4 : decide (1 < x) = true := by simpa using g2
          clear g1 g2 HOR HZ9 hy hz hxd hd1
          go_wp2_with (go_at_call 46; refine HBAD.out.mono ?_; rintro e w2 ⟨rfl, hp2⟩; have HP := Lib.hid hp2; clear hp2)
          go_ret
          exact ⟨HE.out.1, by rw [HE.out.2]; exact ⟨HP.out.rd, HP1.out.only.trans HP.out.only⟩⟩
        obtain ⟨t4, t5, hzb⟩ := HOR.out (fun _ => by omega)
        rcases (show x = 0 ∨ x = 1 from by omega) with rfl | rfl
        · have t2 : ((k : Int) == 9) = true := by simp; omega
          have t9 : decide (0 < (k : Int)) = true := by simp; omega
          have t9' : decide (0 < k) = true := by simp; omega
          clear g1 g2 HOR HZ9 hy hz hxd hd1 hx h9
          go_wp2_with (go_at_call 46; refine HBAD.out.mono ?_; rintro e w2 ⟨rfl, hp2⟩; have HP := Lib.hid hp2; clear hp2)
          go_ret
          exact ⟨HE.out.1, by rw [HE.out.2]; exact ⟨HP.out.rd, HP1.out.only.trans HP.out.only⟩⟩
        · have hzz := HZ9.out h9 (by rw [← hd1]; rfl)
          have hbig : (4611686018427387904 : Int) < (z : Int) := by omega
          have t2 : ((k : Int) == 9) = true := by simp; omega
          have t9 : decide (0 < (k : Int)) = true := by simp; omega
          have t9' : decide (0 < k) = true := by simp; omega
          clear g1 g2 HOR HZ9 hy hz hxd hd1 hx hzz h9
          go_wp2_with (go_at_call 46; refine HBAD.out.mono ?_; rintro e w2 ⟨rfl, hp2⟩; have HP := Lib.hid hp2; clear hp2)
          go_ret
          exact ⟨HE.out.1, by rw [HE.out.2]; exact ⟨HP.out.rd, HP1.out.only.trans HP.out.only⟩⟩
      have t2 : ((k : Int) == 9) = false := by simp; omega
      obtain ⟨t4, t5, hzb⟩ := HOR.out (fun e => absurd e h9)
      obtain ⟨hzb1, hzb2⟩ := HNB.out (by omega)
      clear HOR HNB HZ9
      by_cases h0 : x = 0 ∧ 0 < k
      · rw [if_pos (Or.inr h0)] at hd'
        have HE := Lib.hid (HNO.out hd')
        obtain ⟨rfl, hk0⟩ := h0
        have t3 : decide (0 < (k : Int)) = true := by simp; omega
        have t3' : decide (0 < k) = true := by simpa using hk0
        clear hd' HNO hy hz hxd hd1 hx
        go_wp2_with (go_at_call 46; refine HBAD.out.mono ?_; rintro e w2 ⟨rfl, hp2⟩; have HP := Lib.hid hp2; clear hp2)
        go_ret
        exact ⟨HE.out.1, by rw [HE.out.2]; exact ⟨HP.out.rd, HP1.out.only.trans HP.out.only⟩⟩
      rw [if_neg (by rintro (q | q); exact h9 q; exact h0 q)] at hd'
      by_cases g1 : 127 < x
      · rw [if_pos g1] at hd'
        have HD2 := Lib.hid hd'
        have t3 : decide (127 < x) = true := by simpa using g1
        have HZ1 := Lib.hid hzb1
        clear hd' HNO h0 hy hz hxd hd1 hzb1 g1 HBAD hud
        go_wp2
        refine ⟨⟨k + 1, z, by omega, by omega, by go_num, rfl, HZ1.out, HP1.out, HD2.out⟩, by simp [intOf]; omega⟩
      rw [if_neg g1] at hd'
      have t3 : decide (127 < x) = false := by simpa using g1
      by_cases hbig : 2 ^ 62 < z
      · rw [if_pos hbig] at hd'
        have HE := Lib.hid (HNO.out hd')
        have hbi : (4611686018427387904 : Int) < (z : Int) := by omega
        have hx0 : (x == 0) = false ∨ k = 0 := by
          rcases Nat.eq_zero_or_pos k with q | q
          · exact Or.inr q
          · exact Or.inl (by simp; omega)
        clear hd' HNO hbig
        rcases Nat.eq_zero_or_pos k with q | q
        · have t9 : decide (0 < (k : Int)) = false := by simp; omega
          have t9' : decide (0 < k) = false := by simp; omega
          clear h0 hy hz hxd hd1 hx0 g1 q
          go_wp2_with (go_at_call 46; refine HBAD.out.mono ?_; rintro e w2 ⟨rfl, hp2⟩; have HP := Lib.hid hp2; clear hp2)
          go_ret
          exact ⟨HE.out.1, by rw [HE.out.2]; exact ⟨HP.out.rd, HP1.out.only.trans HP.out.only⟩⟩
        · have t8 : (x == 0) = false := by simp; omega
          have t9 : decide (0 < (k : Int)) = true := by simp; omega
          have t9' : decide (0 < k) = true := by simpa using q
          clear h0 hy hz hxd hd1 hx0 g1
          go_wp2_with (go_at_call 46; refine HBAD.out.mono ?_; rintro e w2 ⟨rfl, hp2⟩; have HP := Lib.hid hp2; clear hp2)
          go_ret
          exact ⟨HE.out.1, by rw [HE.out.2]; exact ⟨HP.out.rd, HP1.out.only.trans HP.out.only⟩⟩
      · rw [if_neg hbig] at hd'
        have HE := Lib.hid (rNum_some_of hd')
        have hbi : ¬ (4611686018427387904 : Int) < (z : Int) := by omega
        have tz : IntKind.i64.wrap (z : Int) = (z : Int) := IntWalk.i64_in _ (by omega)
        clear hd' HNO hbig HBAD
        rcases Nat.eq_zero_or_pos k with q | q
        · have t9 : decide (0 < (k : Int)) = false := by simp; omega
          have t9' : decide (0 < k) = false := by simp; omega
          clear h0 hy hz hxd hd1 g1 q
          go_wp2
          go_ret
          rw [HE.out]
          exact ⟨rfl, HP1.out⟩
        · have t8 : (x == 0) = false := by simp; omega
          have t9 : decide (0 < (k : Int)) = true := by simp; omega
          have t9' : decide (0 < k) = true := by simpa using q
          clear h0 hy hz hxd hd1 g1
          go_wp2
          go_ret
          rw [HE.out]
          exact ⟨rfl, HP1.out⟩
    · obtain rfl : k = bs.length := by omega
      rw [List.drop_length] at hd HRAW
      have hd' : decN 0 0 bs = none := by rw [hd]; rfl
      have HE := Lib.hid (HNO.out hd')
      rw [rRaw_long (by simp)] at HRAW
      have HPP := Lib.hid hP
      clear hd hd' HNO hP
      go_wp2_with fail
      refine HRAW.out.mono ?_; rintro e w1 ⟨⟨A1, cc1, rfl, _⟩, hp1⟩
      obtain ⟨d0, d1⟩ := hp1.rd.no rfl
      have lt1 := hp1.rd.lt
      have HP1 := Lib.hid hp1
      clear hp1 HRAW
      go_wp2
      go_ret
      exact ⟨HE.out.1, by rw [HE.out.2]; exact ⟨HP1.out.rd, HPP.out.only.trans HP1.out.only⟩⟩
theorem rr_num (b : Nat) (s : RSt) (w : World) (h : Rd Q w b s) (hl : rLeft s ≤ 1000000) :
    Calls Try.prog 41 #[.pointer (some ⟨b, 0, none⟩)] w fun e w' => e = .returned (.int .i64 ((rNum s).1 : Nat)) ∧ RdPost Q b (rNum s).2 w w' := by
  cases s with
  | some bs => exact rr_num_yes b bs w h hl
  | none =>
    have HRAW := Lib.hid (rr_raw b 1 none w h (by omega) hl)
    have e1 : ((1 : Nat) : Int) = 1 := rfl
    rw [e1, rRaw_none] at HRAW
    clear h e1
    go_enter Try.func41, Try.ntmps41
    go_wp2
    refine wp_loop_rounds 2 ?_
    rw [rounds_succ]
    go_wp2_with fail
    refine HRAW.out.mono ?_; rintro e w1 ⟨⟨A1, cc1, rfl, _⟩, hp1⟩
    obtain ⟨d0, d1⟩ := hp1.rd.no rfl
    have lt1 := hp1.rd.lt
    have HP1 := Lib.hid hp1
    clear hp1 HRAW
    go_wp2
    go_ret
    exact ⟨rfl, HP1.out⟩
set_option maxHeartbeats 2000000 in
theorem rr_bytes (b : Nat) (s : RSt) (w : World) (h : Rd Q w b s) (hl : rLeft s ≤ 1000000) :
    Calls Try.prog 42 #[.pointer (some ⟨b, 0, none⟩)] w fun e w' => TakeRes (rBytes s).1 w w' e ∧ RdPost Q b (rBytes s).2 w w' := by
  have HN := Lib.hid (rr_num b s w h hl)
  have HB : Hid ((rNum s).1 ≤ 4611686018427387904 ∧ rLeft (rNum s).2 ≤ 1000000) := Lib.hid ⟨by have := rNum_le h.by_; simpa using this, Nat.le_trans (rNum_left s) hl⟩
  have lt := h.lt
  clear h hl
  cases hs : (rNum s).2 with
  | none =>
    rw [hs] at HN HB
    have HS : Hid (rBytes s = ([], none)) := Lib.hid (by unfold rBytes; rw [hs]; rfl)
    clear hs
    go_enter Try.func42, Try.ntmps42
    go_wp2_with fail
    refine HN.out.mono ?_; rintro e w1 ⟨rfl, hp⟩
    obtain ⟨d0, d1⟩ := hp.rd.no rfl
    have lt1 := hp.rd.lt
    have HP := Lib.hid hp
    clear hp HN
    go_wp2
    go_ret
    rw [HS.out]
    exact ⟨TakeRes.nil _ _, HP.out⟩
  | some bs =>
    rw [hs] at HN HB
    have HS : Hid (rBytes s = rRaw (rNum s).1 (some bs)) := Lib.hid (by unfold rBytes; rw [hs])
    clear hs
    go_enter Try.func42, Try.ntmps42
    go_wp2_with fail
    refine HN.out.mono ?_; rintro e w1 ⟨rfl, hp⟩
    have HR := Lib.hid (rr_raw b (rNum s).1 (some bs) w1 hp.rd HB.out.1 HB.out.2)
    obtain ⟨A, c, d0, d1, _⟩ := hp.rd.yes _ rfl
    have lt1 := hp.rd.lt
    have HP := Lib.hid hp
    clear hp HN
    go_wp2_with fail
    refine HR.out.mono ?_; rintro e w2 ⟨ht, hp2⟩
    have HT := Lib.hid (ht.first HP.out.only.size)
    have HP2 : Hid (RdPost Q b (rRaw (rNum s).1 (some bs)).2 w w2) := Lib.hid ⟨hp2.rd, HP.out.only.trans hp2.only⟩
    obtain ⟨A2, c2, he, _⟩ := ht
    subst he
    clear hp2 HR HP
    go_wp2
    go_ret
    rw [HS.out]
    exact ⟨HT.out, HP2.out⟩
end Go.Proofs.Ytpccneikblbhdaa
