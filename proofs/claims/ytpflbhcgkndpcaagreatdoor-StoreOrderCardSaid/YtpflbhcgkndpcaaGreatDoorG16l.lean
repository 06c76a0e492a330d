/- octet.Reader: Nums; NewReader. -/
import Derived.Test.YtpflbhcgkndpcaaGreatDoorG16m
import Derived.Test.YtpflbhcgkndpcaaGreatDoorG16m
/- octet.Reader: what lies in memory; Good, Bad, Left, Num. -/
set_option linter.unusedSimpArgs false
set_option linter.unusedVariables false
namespace Go.Proofs.YtpflbhcgkndpcaaGreatDoor
open Go.RowKit

/-- A reader in a block: what is left of its bytes; none: it erred. -/
structure Rd (Q : Nat → Prop) (w : World) (b : Nat) (s : RSt) : Prop where
  nq : ¬ Q b
  lt : b < w.heap.size
  f0 : w.frozen? ⟨b, 0, none⟩ = false
  f1 : w.frozen? ⟨b, 1, none⟩ = false
  no : s = none → w.cell? ⟨b, 0, none⟩ = some (.slice none 0 0) ∧ w.cell? ⟨b, 1, none⟩ = some (.bool true)
  yes : ∀ bs, s = some bs → ∃ A c, w.cell? ⟨b, 0, none⟩ = some (.slice A bs.length c) ∧ w.cell? ⟨b, 1, none⟩ = some (.bool false) ∧ bs.length ≤ c ∧ c ≤ maxLen ∧ ByL w A bs ∧ (∀ ad, A = some ad → 0 < bs.length → Q ad.block ∧ ad.spot = none) ∧ isBy bs ∧ (A = none → bs.length = 0 ∧ c = 0)
variable {Q : Nat → Prop}
theorem Rd.but {S : Nat → Prop} {w w' : World} {b : Nat} {s : RSt} (h : Rd Q w b s) (k : But S w w') (hb : ¬ S b) (ha : ∀ i, S i → ¬ Q i) : Rd Q w' b s := by
  refine ⟨h.nq, Nat.lt_of_lt_of_le h.lt k.size, (k.frozen b 0 h.lt hb).trans h.f0, (k.frozen b 1 h.lt hb).trans h.f1, fun e => ⟨(k.cell b 0 h.lt hb).trans (h.no e).1, (k.cell b 1 h.lt hb).trans (h.no e).2⟩, fun bs e => ?_⟩
  obtain ⟨A, c, h0, h1, h2, h3, h4, h5, h6, h7⟩ := h.yes bs e
  exact ⟨A, c, (k.cell b 0 h.lt hb).trans h0, (k.cell b 1 h.lt hb).trans h1, h2, h3, h4.but k (fun hl ad hd hs => ha _ hs (h5 ad hd hl).1), h5, h6, h7⟩
theorem Rd.below {w w' : World} {b : Nat} {s : RSt} (h : Rd Q w b s) (k : Below w.heap.size w w') : Rd Q w' b s := h.but (S := fun _ => False) (But.of_below k) (fun hf => hf) (fun _ hf => hf.elim)
theorem Rd.by_ {w : World} {b : Nat} {s : RSt} (h : Rd Q w b s) : stBy s := fun bs e => by
  obtain ⟨_, _, _, _, _, _, _, _, h6, _⟩ := h.yes bs e
  exact h6
/-- A call that reads: the reader's block alone has changed. -/
structure RdPost (Q : Nat → Prop) (b : Nat) (s : RSt) (w w' : World) : Prop where
  rd : Rd Q w' b s
  only : Only b w w'
theorem rd_good_no (b : Nat) (w : World) (h : Rd Q w b none) : Calls Tryz.prog 122 #[.pointer (some ⟨b, 0, none⟩)] w fun e w' => e = .returned (.bool false) ∧ w = w' := by
  obtain ⟨c0, c1⟩ := h.no rfl
  have lt := h.lt
  clear h
  go_enter Tryz.func122, Tryz.ntmps122
  go_wp2
  go_ret
  exact ⟨rfl, rfl⟩
theorem rd_good_yes (b : Nat) (bs : List Int) (w : World) (h : Rd Q w b (some bs)) : Calls Tryz.prog 122 #[.pointer (some ⟨b, 0, none⟩)] w fun e w' => e = .returned (.bool true) ∧ w = w' := by
  obtain ⟨A, c, c0, c1, _⟩ := h.yes bs rfl
  have lt := h.lt
  clear h
  go_enter Tryz.func122, Tryz.ntmps122
  go_wp2
  go_ret
  exact ⟨rfl, rfl⟩
theorem Rd.set_no {w : World} {b : Nat} {s : RSt} (h : Rd Q w b s) : RdPost Q b none w ((w.setCell ⟨b, 0, none⟩ (.slice none 0 0)).setCell ⟨b, 1, none⟩ (.bool true)) := by
  have hc0 : ∃ v, w.cell? ⟨b, 0, none⟩ = some v := by
    cases s with
    | none => exact ⟨_, (h.no rfl).1⟩
    | some bs => obtain ⟨A, c, h0, _⟩ := h.yes bs rfl; exact ⟨_, h0⟩
  have hc1 : ∃ v, w.cell? ⟨b, 1, none⟩ = some v := by
    cases s with
    | none => exact ⟨_, (h.no rfl).2⟩
    | some bs => obtain ⟨A, c, _, h1, _⟩ := h.yes bs rfl; exact ⟨_, h1⟩
  obtain ⟨v0, hv0⟩ := hc0
  obtain ⟨v1, hv1⟩ := hc1
  refine ⟨⟨h.nq, by have := h.lt; simpa [World.setCell] using this, by simpa using h.f0, by simpa using h.f1, fun _ => ⟨?_, ?_⟩, fun bs e => by cases e⟩, ((Only.refl _ _).setB _).setB _⟩
  · rw [World.cell?_setCell_other _ _ _ _ (by simp)]
    exact World.cell?_setCell_same _ _ _ hv0
  · exact World.cell?_setCell_same _ _ _ ((World.cell?_setCell_other _ _ _ _ (by simp)).trans hv1)
theorem rd_bad (b : Nat) (s : RSt) (w : World) (h : Rd Q w b s) : Calls Tryz.prog 123 #[.pointer (some ⟨b, 0, none⟩)] w fun e w' => e = .returned (.tuple #[]) ∧ RdPost Q b none w w' := by
  have HS := Lib.hid h.set_no
  have lt := h.lt
  have f0 := h.f0
  have f1 := h.f1
  obtain ⟨v0, hv0⟩ : ∃ v, w.cell? ⟨b, 0, none⟩ = some v := by
    cases s with
    | none => exact ⟨_, (h.no rfl).1⟩
    | some bs => obtain ⟨A, c, h0, _⟩ := h.yes bs rfl; exact ⟨_, h0⟩
  obtain ⟨v1, hv1⟩ : ∃ v, w.cell? ⟨b, 1, none⟩ = some v := by
    cases s with
    | none => exact ⟨_, (h.no rfl).2⟩
    | some bs => obtain ⟨A, c, _, h1, _⟩ := h.yes bs rfl; exact ⟨_, h1⟩
  clear h
  go_enter Tryz.func123, Tryz.ntmps123
  go_wp2
  exact bodyPost_end (by simp [results, Tryz.results123, go_sem]) rfl ⟨rfl, HS.out⟩
theorem rd_left (b : Nat) (s : RSt) (w : World) (h : Rd Q w b s) : Calls Tryz.prog 174 #[.pointer (some ⟨b, 0, none⟩)] w fun e w' => e = .returned (.int .i64 (rLeft s : Nat)) ∧ w = w' := by
  have lt := h.lt
  cases s with
  | none =>
    obtain ⟨c0, c1⟩ := h.no rfl
    clear h
    go_enter Tryz.func174, Tryz.ntmps174
    go_wp2
    go_ret
    exact ⟨rfl, rfl⟩
  | some bs =>
    obtain ⟨A, c, c0, c1, _⟩ := h.yes bs rfl
    clear h
    go_enter Tryz.func174, Tryz.ntmps174
    go_wp2
    go_ret
    exact ⟨rfl, rfl⟩
theorem and127b (n : Int) (h0 : 0 ≤ n) (h1 : n ≤ 255) : bits .and .u8 n 127 = n % 128 := by
  obtain ⟨n, rfl⟩ := Int.eq_ofNat_of_zero_le h0
  show IntKind.u8.wrap ((BitVec.ofInt 8 (n : Int) &&& BitVec.ofInt 8 127).toNat : Int) = _
  have e1 : (BitVec.ofInt 8 (n : Int)).toNat = n := by rw [BitVec.ofInt_natCast, BitVec.toNat_ofNat]; exact Nat.mod_eq_of_lt (by omega)
  have e2 : (BitVec.ofInt 8 127).toNat = 2 ^ 7 - 1 := by decide
  rw [BitVec.toNat_and, e1, e2, Nat.and_two_pow_sub_one_eq_mod, w8 _ (by omega) (by omega)]
  omega
theorem or_hi (k m d : Nat) (hm : m < 2 ^ (7 * k)) (hb : m + d * 2 ^ (7 * k) < 9223372036854775808) : bits .or .i64 (m : Int) ((d * 2 ^ (7 * k) : Nat) : Int) = ((m + d * 2 ^ (7 * k) : Nat) : Int) := by
  generalize hP : 2 ^ (7 * k) = P at *
  show IntKind.i64.wrap ((BitVec.ofInt 64 (m : Int) ||| BitVec.ofInt 64 ((d * P : Nat) : Int)).toNat : Int) = _
  have e1 : (BitVec.ofInt 64 (m : Int)).toNat = m := by rw [BitVec.ofInt_natCast, BitVec.toNat_ofNat]; exact Nat.mod_eq_of_lt (by omega)
  have e2 : (BitVec.ofInt 64 ((d * P : Nat) : Int)).toNat = d * P := by rw [BitVec.ofInt_natCast, BitVec.toNat_ofNat]; exact Nat.mod_eq_of_lt (by omega)
  have e3 : m ||| d * P = m + d * P := by
    subst hP
    have := Nat.two_pow_add_eq_or_of_lt (i := 7 * k) (b := m) hm d
    rw [Nat.mul_comm d, Nat.or_comm, Nat.add_comm]
    exact this.symm
  rw [BitVec.toNat_or, e1, e2, e3, IntWalk.i64_in _ (by omega)]
theorem pow7 (k : Nat) : (128 : Nat) ^ k = 2 ^ (7 * k) := by rw [Nat.pow_mul]
theorem rNum_none_of {bs : List Int} (h : decN 0 0 bs = none) : rNum (some bs) = (0, none) := by simp only [rNum, h]
theorem rNum_some_of {bs t : List Int} {n : Nat} (h : decN 0 0 bs = some (n, t)) : rNum (some bs) = (n, some t) := by simp only [rNum, h]
theorem decN_cons (k m : Nat) (x : Int) (t : List Int) : decN k m (x :: t) = if k = 9 ∨ (x = 0 ∧ 0 < k) then none else if 127 < x then decN (k + 1) (m + x.toNat % 128 * 2 ^ (7 * k)) t else if 2 ^ 62 < m + x.toNat % 128 * 2 ^ (7 * k) then none else some (m + x.toNat % 128 * 2 ^ (7 * k), t) := by
  rw [decN, pow7]
/-- One byte of a number: what its digits add up to. -/
theorem num_bd {k m d : Nat} (hk : k < 9) (hd : d < 128) (hm : m < 2 ^ (7 * k)) : m + d * 2 ^ (7 * k) < 2 ^ (7 * (k + 1)) ∧ m + d * 2 ^ (7 * k) < 9223372036854775808 := by
  have e : (2 : Nat) ^ (7 * (k + 1)) = 128 * 2 ^ (7 * k) := by rw [Nat.mul_add, Nat.pow_add, Nat.mul_comm]
  have h1 : (d + 1) * 2 ^ (7 * k) ≤ 128 * 2 ^ (7 * k) := Nat.mul_le_mul_right _ (by omega)
  rw [Nat.add_mul] at h1
  have h2 : (2 : Nat) ^ (7 * (k + 1)) ≤ 2 ^ 63 := Nat.pow_le_pow_right (by omega) (by omega)
  have h3 : (2 : Nat) ^ 63 = 9223372036854775808 := by decide
  omega
theorem Rd.next {w : World} {b : Nat} {bs : List Int} {A A' : Option Addr} {c n : Nat} (h : Rd Q w b (some bs)) (hn : n ≤ bs.length) (hc0 : w.cell? ⟨b, 0, none⟩ = some (.slice A bs.length c))
    (hA : A' = (if c = n then A else A.map (fun ad => ad.add n))) : RdPost Q b (some (bs.drop n)) w (w.setCell ⟨b, 0, none⟩ (.slice A' (bs.length - n) (c - n))) := by
  obtain ⟨A0, c0, h0, h1, h2, h3, h4, h5, h6, h7⟩ := h.yes bs rfl
  rw [hc0] at h0
  injection h0 with h0
  injection h0 with e1 e2 e3
  subst e1 e3
  have hO : Only b w (w.setCell ⟨b, 0, none⟩ (.slice A' (bs.length - n) (c - n))) := (Only.refl _ _).setB _
  refine ⟨⟨h.nq, by have := h.lt; simpa [World.setCell] using this, by simpa using h.f0, by simpa using h.f1, (fun e => by cases e), fun bs' e => ?_⟩, hO⟩
  injection e with e
  subst e
  refine ⟨A', c - n, by rw [List.length_drop]; exact World.cell?_setCell_same _ _ _ hc0, (World.cell?_setCell_other _ _ _ _ (by simp)).trans h1, by rw [List.length_drop]; omega, by omega, ?_, ?_, isBy_drop h6 n, ?_⟩
  · by_cases hcn : c = n
    · intro hl; rw [List.length_drop] at hl; omega
    · rw [if_neg hcn] at hA
      cases A with
      | none => intro hl; rw [List.length_drop] at hl; have := (h7 rfl).1; omega
      | some ad =>
        intro hl
        rw [List.length_drop] at hl
        obtain ⟨B, O, sp⟩ := ad
        obtain ⟨hne, hsp⟩ := h5 _ rfl (by omega)
        simp only at hsp
        subst hsp
        have hq : A' = some ⟨B, O + n, none⟩ := by rw [hA]; simp [at_add]
        subst hq
        exact (h4.drop n).only hO (fun ad had => by injection had with had; subst had; exact fun e => h.nq (e ▸ hne)) (by rw [List.length_drop]; exact hl)
  · intro ad had hl
    rw [List.length_drop] at hl
    have hl0 : 0 < bs.length := by omega
    subst hA
    by_cases hcn : c = n
    · rw [if_pos hcn] at had; exact h5 ad had hl0
    · rw [if_neg hcn] at had
      cases A with
      | none => cases had
      | some a0 =>
        simp only [Option.map_some, Option.some.injEq] at had
        subst had
        obtain ⟨hne, hsp⟩ := h5 _ rfl hl0
        unfold Addr.add
        split
        · exact ⟨hne, hsp⟩
        · exact ⟨hne, rfl⟩
  · rintro rfl
    cases A with
    | none => have := h7 rfl; rw [List.length_drop]; omega
    | some ad => exfalso; split at hA <;> cases hA
set_option maxRecDepth 100000 in
set_option maxHeartbeats 4000000 in
theorem rd_num_yes (b : Nat) (bs : List Int) (w : World) (h : Rd Q w b (some bs)) (hl : bs.length ≤ 1000000) :
    Calls Tryz.prog 72 #[.pointer (some ⟨b, 0, none⟩)] w fun e w' => e = .returned (.int .i64 ((rNum (some bs)).1 : Nat)) ∧ RdPost Q b (rNum (some bs)).2 w w' := by
  have HH := Lib.hid h
  have HG := Lib.hid (rd_good_yes b bs w h)
  have HBAD := Lib.hid (rd_bad b (some bs) w h)
  obtain ⟨A, c, c0, c1, hc, hcm, hby, hav, hbb, hn⟩ := h.yes bs rfl
  have lt := h.lt
  have f0 := h.f0
  have HY := Lib.hid (And.intro hby (And.intro hbb hav))
  have hli : (bs.length : Int) ≤ 1000000 := by omega
  have HNO : Hid (decN 0 0 bs = none → Ending.returned (Value.int .i64 0) = Ending.returned (.int .i64 ((rNum (some bs)).1 : Nat)) ∧ (rNum (some bs)).2 = none) := Lib.hid (fun hd => by rw [rNum_none_of hd]; exact ⟨rfl, rfl⟩)
  unfold maxLen at hcm
  clear h hby hbb hav hn
  go_enter Tryz.func72, Tryz.ntmps72
  go_wp2_with (go_at_call 122; refine HG.out.mono ?_; rintro e w1 ⟨rfl, rfl⟩)
  go_loop [3, 14] (fun n i => ∃ (k m : Nat), k ≤ bs.length ∧ k ≤ 9 ∧ i = .int .i64 k ∧ n = .int .i64 m ∧ m < 2 ^ (7 * k) ∧ decN 0 0 bs = decN k m (bs.drop k)) (fun _ i => bs.length - (intOf i).toNat)
  case atStart => exact ⟨0, 0, Nat.zero_le _, by omega, rfl, rfl, by simp, by simp⟩
  case round =>
    obtain ⟨k, m, hk, hk9, rfl, rfl, hm, hd⟩ := hrel
    by_cases hlt : k < bs.length
    · rw [List.drop_eq_getElem_cons hlt, decN_cons] at hd
      obtain ⟨B, O, rfl, hB, hcells⟩ := HY.out.1 (by omega)
      have x0 := hcells k _ (bC_at bs k hlt)
      have hx := HY.out.2.1 bs[k] (List.getElem_mem hlt)
      have lk : (k : Int) < (bs.length : Int) := by omega
      clear hcells
      generalize bs[k] = x at *
      by_cases ha : k = 9 ∨ (x = 0 ∧ 0 < k)
      · rw [if_pos ha] at hd
        have HE := Lib.hid (HNO.out hd)
        clear hd HNO
        by_cases h9 : k = 9
        · subst h9
          go_wp2_with (go_at_call 123; refine HBAD.out.mono ?_; rintro e w2 ⟨rfl, hp2⟩; have HP := Lib.hid hp2; clear hp2)
          go_ret
          exact ⟨HE.out.1, HE.out.2 ▸ HP.out⟩
        · have hx0 : x = 0 := by omega
          have hk0 : 0 < k := by omega
          subst hx0
          have t2 : ((k : Int) == 9) = false := by simp; omega
          have t3 : decide (0 < (k : Int)) = true := by simp; omega
          have t3' : decide (0 < k) = true := by simpa using hk0
          clear ha h9
          go_wp2_with (go_at_call 123; refine HBAD.out.mono ?_; rintro e w2 ⟨rfl, hp2⟩; have HP := Lib.hid hp2; clear hp2)
          go_ret
          exact ⟨HE.out.1, HE.out.2 ▸ HP.out⟩
      · rw [if_neg ha] at hd
        have hk9' : k < 9 := by omega
        have t2 : ((k : Int) == 9) = false := by simp; omega
        have hxk : (x == 0) = false ∨ k = 0 := by
          rcases Nat.eq_zero_or_pos k with q | q
          · exact Or.inr q
          · exact Or.inl (by simp; omega)
        obtain ⟨d, hd1⟩ : ∃ d : Nat, x.toNat % 128 = d := ⟨_, rfl⟩
        have hdb : d < 128 := by omega
        have hxd : x % 128 = (d : Int) := by omega
        have t1 : bits .and .u8 x 127 = (d : Int) := by rw [and127b x hx.1 hx.2, hxd]
        have hnb := num_bd hk9' hdb hm
        have t5 := or_hi k m d hm hnb.2
        obtain ⟨y, hy⟩ : ∃ y : Nat, d * 2 ^ (7 * k) = y := ⟨_, rfl⟩
        obtain ⟨z, hz⟩ : ∃ z : Nat, m + y = z := ⟨_, rfl⟩
        rw [hd1, hy, hz] at hd
        rw [hy, hz] at t5 hnb
        have t4 : IntKind.i64.wrap ((d : Int) * 2 ^ (7 * k)) = (y : Int) := by
          have e : (d : Int) * 2 ^ (7 * k) = ((d * 2 ^ (7 * k) : Nat) : Int) := by push_cast; rfl
          rw [e, hy]
          exact IntWalk.i64_in _ (by omega)
        have t4' : wrap64 ((d : Int) * 2 ^ (7 * k)) = (y : Int) := by rw [← IntWalk.i64_left]; exact t4
        have t6 : IntKind.i64.wrap (d : Int) = (d : Int) := IntWalk.i64_in _ (by omega)
        have HNB := Lib.hid hnb
        have HD := Lib.hid hd
        have HXZ : Hid (x = 0 → k = 0) := Lib.hid (fun e => by omega)
        have hzb := hnb.2
        have hm0 : k = 0 → m = 0 := fun e => by subst e; simpa using hm
        have HMM := Lib.hid hm0
        clear hxk hxd hnb hd ha hm hm0
        by_cases hx0 : x = 0
        · have hk0 := HXZ.out hx0
          have hm0 := HMM.out hk0
          subst hx0
          subst hk0
          subst hm0
          have hd0 : d = 0 := by simpa using hd1.symm
          subst hd0
          have hy0 : y = 0 := by simpa using hy.symm
          subst hy0
          have hz0 : z = 0 := by omega
          subst hz0
          have hd2 : decN 0 0 bs = some (0, bs.drop 1) := by rw [HD.out, if_neg (by omega), if_neg (by omega)]
          clear hd1 hy hz HD HXZ HMM HNB HNO
          rw [Nat.add_zero] at x0
          have lk0 : (0 : Int) < (bs.length : Int) := by omega
          have t8 : bits .or .i64 0 0 = 0 := by decide
          have t9 : bits .and .u8 0 127 = 0 := by decide
          have HE := Lib.hid (rNum_some_of hd2)
          by_cases hce : c = 1
          · have HN := Lib.hid (HH.out.next (n := 1) (A' := some ⟨B, O, none⟩) hlt c0 (by rw [if_pos hce]))
            subst hce
            clear t5 t4 t4' t1 t2 t6
            go_wp2
            go_ret
            rw [HE.out]
            exact ⟨rfl, by have q := HN.out; rwa [show bs.length - 1 = 0 from by omega, show 1 - 1 = 0 from by omega] at q⟩
          · have HN := Lib.hid (HH.out.next (n := 1) (A' := some ⟨B, O + 1, none⟩) hlt c0 (by rw [if_neg hce]; simp [at_add]))
            have hce' : ¬ (c : Int) = 1 := by omega
            have hci : (bs.length : Int) ≤ (c : Int) := by omega
            clear t5 t4 t4' t1 t2 t6
            go_wp2
            go_ret
            rw [HE.out]
            exact ⟨rfl, HN.out⟩
        have t3 : (x == 0) = false := by simpa using hx0
        clear hx0 hd1 hy hz HXZ HMM
        by_cases hgt : 127 < x
        · have HD2 : Hid (decN 0 0 bs = decN (k + 1) z (bs.drop (k + 1))) := Lib.hid (by rw [HD.out, if_pos hgt])
          clear HD HNO
          go_wp2
          go_round
          case rel => exact ⟨k + 1, z, by omega, by omega, by go_num, rfl, HNB.out.1, HD2.out⟩
          case measure => simp [intOf]; omega
        have hd3 := HD.out
        rw [if_neg hgt] at hd3
        by_cases hbig : 2 ^ 62 < z
        · rw [if_pos hbig] at hd3
          have HE := Lib.hid (HNO.out hd3)
          have hbi : (4611686018427387904 : Int) < (z : Int) := by omega
          clear hd3 HNO HD hbig
          go_wp2_with (go_at_call 123; refine HBAD.out.mono ?_; rintro e w2 ⟨rfl, hp2⟩; have HP := Lib.hid hp2; clear hp2)
          go_ret
          exact ⟨HE.out.1, HE.out.2 ▸ HP.out⟩
        · rw [if_neg hbig] at hd3
          have hbi : ¬ (4611686018427387904 : Int) < (z : Int) := by omega
          have hd4 := Lib.hid hd3
          clear hd3 HNO HD hbig
          have HE := Lib.hid (rNum_some_of hd4.out)
          by_cases hce : c = k + 1
          · have HN := Lib.hid (HH.out.next (n := k + 1) (A' := some ⟨B, O, none⟩) hlt c0 (by rw [if_pos hce]))
            subst hce
            go_wp2
            go_ret
            rw [HE.out]
            exact ⟨rfl, by have q := HN.out; rwa [show bs.length - (k + 1) = 0 from by omega, show k + 1 - (k + 1) = 0 from by omega] at q⟩
          · have HN := Lib.hid (HH.out.next (n := k + 1) (A' := some ⟨B, O + (k + 1), none⟩) hlt c0 (by rw [if_neg hce]; simp [at_add]))
            have hce' : ¬ (c : Int) = (k : Int) + 1 := by omega
            have hci : (bs.length : Int) ≤ (c : Int) := by omega
            go_wp2
            go_ret
            rw [HE.out]
            exact ⟨rfl, HN.out⟩
    · obtain rfl : k = bs.length := by omega
      rw [List.drop_length] at hd
      have hd' : decN 0 0 bs = none := by rw [hd]; rfl
      have HE := Lib.hid (HNO.out hd')
      clear hd hd' HNO
      go_wp2_with (go_at_call 123; refine HBAD.out.mono ?_; rintro e w2 ⟨rfl, hp2⟩; have HP := Lib.hid hp2; clear hp2)
      go_ret
      exact ⟨HE.out.1, HE.out.2 ▸ HP.out⟩
theorem rd_num (b : Nat) (s : RSt) (w : World) (h : Rd Q w b s) (hl : rLeft s ≤ 1000000) :
    Calls Tryz.prog 72 #[.pointer (some ⟨b, 0, none⟩)] w fun e w' => e = .returned (.int .i64 ((rNum s).1 : Nat)) ∧ RdPost Q b (rNum s).2 w w' := by
  cases s with
  | some bs => exact rd_num_yes b bs w h hl
  | none =>
    have HG := Lib.hid (rd_good_no b w h)
    have HH := Lib.hid h
    clear h
    go_enter Tryz.func72, Tryz.ntmps72
    go_wp2_with (go_at_call 122; refine HG.out.mono ?_; rintro e w1 ⟨rfl, rfl⟩)
    go_ret
    exact ⟨rfl, HH.out, Only.refl _ _⟩
theorem rd_whole (b : Nat) (s : RSt) (w : World) (h : Rd Q w b s) : Calls Tryz.prog 73 #[.pointer (some ⟨b, 0, none⟩)] w fun e w' => e = .returned (.bool (decide (s = some []))) ∧ w = w' := by
  have lt := h.lt
  cases s with
  | none =>
    have HG := Lib.hid (rd_good_no b w h)
    clear h
    go_enter Tryz.func73, Tryz.ntmps73
    go_wp2_with (go_at_call 122; refine HG.out.mono ?_; rintro e w1 ⟨rfl, rfl⟩)
    go_ret
    exact ⟨by simp, rfl⟩
  | some bs =>
    have HG := Lib.hid (rd_good_yes b bs w h)
    obtain ⟨A, c, c0, c1, _⟩ := h.yes bs rfl
    have HD : Hid ((bs.length == 0) = decide ((some bs : RSt) = some [])) := Lib.hid (by
      rw [Bool.eq_iff_iff, decide_eq_true_eq]
      cases bs <;> simp)
    cases hz : bs.length == 0
    · have HZ := Lib.hid hz
      have t1 : ((bs.length : Int) == 0) = false := by simp at hz ⊢; exact hz
      clear h hz
      go_enter Tryz.func73, Tryz.ntmps73
      go_wp2_with (go_at_call 122; refine HG.out.mono ?_; rintro e w1 ⟨rfl, rfl⟩)
      go_ret
      exact ⟨by rw [← HD.out, HZ.out]; rfl, rfl⟩
    · have HZ := Lib.hid hz
      have t1 : ((bs.length : Int) == 0) = true := by simp at hz ⊢; exact hz
      clear h hz
      go_enter Tryz.func73, Tryz.ntmps73
      go_wp2_with (go_at_call 122; refine HG.out.mono ?_; rintro e w1 ⟨rfl, rfl⟩)
      go_ret
      exact ⟨by rw [← HD.out, HZ.out]; rfl, rfl⟩
end Go.Proofs.YtpflbhcgkndpcaaGreatDoor

/- octet.Reader: Raw, Bytes. -/
namespace Go.Proofs.YtpflbhcgkndpcaaGreatDoor
open Go.RowKit

variable {Q : Nat → Prop}
/-- Bytes are told: in new memory, or none. -/
def TakeRes (p : List Int) (w w' : World) (e : Ending) : Prop := ∃ A c, e = .returned (.slice A p.length c) ∧ ByL w' A p ∧ (A = none → p.length = 0 ∧ c = 0) ∧ p.length ≤ c ∧ c ≤ maxLen ∧ (∀ ad, A = some ad → w.heap.size ≤ ad.block ∧ ad.spot = none)
theorem TakeRes.nil (w w' : World) : TakeRes [] w w' (.returned (.slice none 0 0)) := ⟨none, 0, rfl, ByL.nil _ _, fun _ => ⟨rfl, rfl⟩, Nat.le_refl _, by unfold maxLen; omega, fun _ h => by cases h⟩
theorem rRaw_none (n : Nat) : rRaw n none = ([], none) := rfl
theorem rRaw_long {n : Nat} {bs : List Int} (h : bs.length < n) : rRaw n (some bs) = ([], none) := by simp only [rRaw]; rw [if_pos h]
theorem rRaw_yes {n : Nat} {bs : List Int} (h : n ≤ bs.length) : rRaw n (some bs) = (bs.take n, some (bs.drop n)) := by simp only [rRaw]; rw [if_neg (by omega)]
set_option maxRecDepth 100000 in
set_option maxHeartbeats 4000000 in
theorem rd_raw_bad (b n : Nat) (s : RSt) (w : World) (h : Rd Q w b s) (hn : rLeft s < n) (hn2 : n ≤ 4611686018427387904) :
    Calls Tryz.prog 173 #[.pointer (some ⟨b, 0, none⟩), .int .i64 n] w fun e w' => e = .returned (.slice none 0 0) ∧ RdPost Q b none w w' := by
  have HL := Lib.hid (rd_left b s w h)
  have HBAD := Lib.hid (rd_bad b s w h)
  have hni : (rLeft s : Int) < (n : Int) := by omega
  have hn0 : ¬ (n : Int) < 0 := by omega
  generalize rLeft s = L at *
  clear h hn
  go_enter Tryz.func173, Tryz.ntmps173
  go_wp2_with (first | (go_at_call 174; refine HL.out.mono ?_; rintro e w1 ⟨rfl, rfl⟩) | (go_at_call 123; refine HBAD.out.mono ?_; rintro e w2 ⟨rfl, hp2⟩; have HP := Lib.hid hp2; have HG := Lib.hid (rd_good_no b w2 hp2.rd); clear hp2) | (go_at_call 122; refine HG.out.mono ?_; rintro e w3 ⟨rfl, rfl⟩))
  go_ret
  exact ⟨rfl, HP.out⟩
set_option maxRecDepth 100000 in
set_option maxHeartbeats 4000000 in
theorem rd_raw_none0 (b : Nat) (w : World) (h : Rd Q w b none) :
    Calls Tryz.prog 173 #[.pointer (some ⟨b, 0, none⟩), .int .i64 0] w fun e w' => e = .returned (.slice none 0 0) ∧ RdPost Q b none w w' := by
  have HL := Lib.hid (rd_left b none w h)
  have HG := Lib.hid (rd_good_no b w h)
  have HH := Lib.hid h
  have e0 : ((rLeft none : Nat) : Int) = 0 := rfl
  rw [e0] at HL
  clear h e0
  go_enter Tryz.func173, Tryz.ntmps173
  go_wp2_with (first | (go_at_call 174; refine HL.out.mono ?_; rintro e w1 ⟨rfl, rfl⟩) | (go_at_call 122; refine HG.out.mono ?_; rintro e w3 ⟨rfl, rfl⟩))
  go_ret
  exact ⟨rfl, HH.out, Only.refl _ _⟩
set_option maxRecDepth 100000 in
set_option maxHeartbeats 4000000 in
theorem rd_raw_yes (b n : Nat) (bs : List Int) (w : World) (h : Rd Q w b (some bs)) (hn : n ≤ bs.length) (hl : bs.length ≤ 1000000) :
    Calls Tryz.prog 173 #[.pointer (some ⟨b, 0, none⟩), .int .i64 n] w fun e w' => TakeRes (bs.take n) w w' e ∧ RdPost Q b (some (bs.drop n)) w w' := by
  have HL := Lib.hid (rd_left b (some bs) w h)
  have HG := Lib.hid (rd_good_yes b bs w h)
  have HH := Lib.hid h
  have eL : ((rLeft (some bs) : Nat) : Int) = (bs.length : Int) := rfl
  rw [eL] at HL
  clear eL
  obtain ⟨A, c, c0, c1, hc, hcm, hby, hav, hbb, hA0⟩ := h.yes bs rfl
  have lt := h.lt
  have hlen : (bs.take n).length = n := by rw [List.length_take]; omega
  have hk : Below w.heap.size w (w.alloc (.cells #[.slice A n c] 42)) := by (repeat' (first | (with_reducible exact Below.refl _ _) | (with_reducible assumption) | (with_reducible refine Below.trans ?_ (Below.mono (by with_reducible assumption) ?_)) | (with_reducible refine Below.alloc ?_ ?_ _) | (with_reducible refine Below.setCell ?_ ?_ _) | (with_reducible refine below_drewN ?_ _) | (with_reducible refine Below.drew ?_) | go_size))
  have HJ := Lib.hid (oct_join w.heap.size 1 c A (bs.take n) (w.alloc (.cells #[.slice A n c] 42)) (by simp) (by rw [hlen]; simp) ((hby.take n).below hk) (fun e => by rw [hlen]; have := (hA0 e).1; omega) (by omega))
  have HK := Lib.hid hk
  have HLN := Lib.hid hlen
  have h1 : ¬ (n : Int) < 0 := by omega
  have h2 : (n : Int) ≤ (bs.length : Int) := by omega
  have h3 : (bs.length : Int) ≤ (c : Int) := by omega
  have h4 : (n : Int) ≤ (c : Int) := by omega
  have HA := Lib.hid hA0
  have hav2 := hav
  unfold maxLen at hcm
  clear h hk hby hav hbb hlen hA0
  go_enter Tryz.func173, Tryz.ntmps173
  go_wp2_with (first | (go_at_call 174; refine HL.out.mono ?_; rintro e w1 ⟨rfl, rfl⟩) | (go_at_call 122; refine HG.out.mono ?_; rintro e w3 ⟨rfl, rfl⟩))
  refine HJ.out.mono ?_; rintro e w2 ⟨⟨g, cap, rfl, hown⟩, hb2⟩
  have hB2 : Below w.heap.size w w2 := HK.out.trans (hb2.mono (by simp))
  have hR2 := HH.out.below hB2
  have d0 := (hB2.cell (p := ⟨b, 0, none⟩) lt).trans c0
  have d1 := (hB2.cell (p := ⟨b, 1, none⟩) lt).trans c1
  have df := hR2.f0
  have lt2 := hR2.lt
  rw [HLN.out] at hown ⊢
  have HO := Lib.hid hown
  have HB2 := Lib.hid hB2
  have HR2 := Lib.hid hR2
  clear hown hb2 hB2 hR2 c0 c1 HL HG HJ HK
  have FIN : Hid (∀ V, RdPost Q b (some (bs.drop n)) w2 V → TakeRes (bs.take n) w V (.returned (.slice (some ⟨g, 0, none⟩) n cap)) ∧ RdPost Q b (some (bs.drop n)) w V) := Lib.hid (fun V hV => by
    have hg := HO.out
    obtain ⟨A1, c1', e1, y1, b1, l1⟩ := Own8.bytes (show Own8 _ w2 (.slice (some ⟨g, 0, none⟩) (bs.take n).length cap) (bs.take n) from by rw [HLN.out]; exact hg)
    obtain ⟨rfl, rfl⟩ : some ⟨g, 0, none⟩ = A1 ∧ cap = c1' := by injection e1 with q1 q2 q3; exact ⟨q1, q3⟩
    obtain ⟨q1, q2, _, _⟩ := b1 _ rfl
    have hcm : cap ≤ maxLen := by
      rcases hg.2 with ⟨h, _⟩ | ⟨g', cap', cur, h, _, _, _, h2, _⟩
      · cases h
      · injection h with _ _ h3; omega
    have q3 : w.heap.size + 1 ≤ g := by simpa using q1
    refine ⟨⟨some ⟨g, 0, none⟩, cap, by rw [HLN.out], y1.only hV.only (fun ad had => by injection had with had; subst had; show g ≠ b; have := lt; omega), (fun e => by cases e), by rw [HLN.out] at l1 ⊢; exact l1, hcm, fun ad had => by injection had with had; subst had; exact ⟨by show w.heap.size ≤ g; omega, rfl⟩⟩, hV.rd, (Only.of_below HB2.out).trans hV.only⟩)
  cases A with
  | none =>
    obtain ⟨hb0, hc0⟩ := HA.out rfl
    have hbn : bs = [] := List.length_eq_zero_iff.1 hb0
    subst hbn
    subst hc0
    have hn00 : n = 0 := by simpa using hn
    subst hn00
    have HN := Lib.hid (HR2.out.next (n := 0) (A' := none) (Nat.zero_le _) d0 (by simp))
    clear HA hav2
    go_wp2
    go_ret
    exact FIN.out _ HN.out
  | some ad =>
    by_cases hbz : bs.length = 0
    · have hbn : bs = [] := List.length_eq_zero_iff.1 hbz
      subst hbn
      have hn00 : n = 0 := by simpa using hn
      subst hn00
      by_cases hce : c = 0
      · have HN := Lib.hid (HR2.out.next (n := 0) (A' := some ad) (Nat.zero_le _) d0 (by rw [if_pos hce]))
        subst hce
        clear HA hav2
        go_wp2
        go_ret
        refine FIN.out _ ?_
        simpa using HN.out
      · have HN := Lib.hid (HR2.out.next (n := 0) (A' := some ad) (Nat.zero_le _) d0 (by rw [if_neg hce]; simp [Addr.add]))
        have hce' : ¬ (c : Int) = 0 := by omega
        clear HA hav2
        go_wp2
        go_ret
        refine FIN.out _ ?_
        simpa using HN.out
    obtain ⟨B, O, sp⟩ := ad
    obtain ⟨_, hsp⟩ := hav2 _ rfl (by omega)
    simp only at hsp
    subst hsp
    by_cases hce : c = n
    · have HN := Lib.hid (HR2.out.next (n := n) (A' := some ⟨B, O, none⟩) hn d0 (by rw [if_pos hce]))
      have hbl : bs.length - n = 0 := by omega
      subst hce
      clear HA hav2
      go_wp2
      go_ret
      refine FIN.out _ ?_
      have q := HN.out
      rwa [hbl, Nat.sub_self] at q
    · have HN := Lib.hid (HR2.out.next (n := n) (A' := some ⟨B, O + n, none⟩) hn d0 (by rw [if_neg hce]; simp [at_add]))
      have hce' : ¬ (c : Int) = (n : Int) := by omega
      clear HA hav2
      go_wp2
      go_ret
      exact FIN.out _ HN.out
theorem rd_raw (b n : Nat) (s : RSt) (w : World) (h : Rd Q w b s) (hn : n ≤ 4611686018427387904) (hl : rLeft s ≤ 1000000) :
    Calls Tryz.prog 173 #[.pointer (some ⟨b, 0, none⟩), .int .i64 n] w fun e w' => TakeRes (rRaw n s).1 w w' e ∧ RdPost Q b (rRaw n s).2 w w' := by
  cases s with
  | none =>
    rw [rRaw_none]
    rcases Nat.eq_zero_or_pos n with h0 | h0
    · subst h0
      exact (rd_raw_none0 b w h).mono fun e w' ⟨h1, h2⟩ => ⟨h1 ▸ TakeRes.nil w w', h2⟩
    · exact (rd_raw_bad b n none w h h0 hn).mono fun e w' ⟨h1, h2⟩ => ⟨h1 ▸ TakeRes.nil w w', h2⟩
  | some bs =>
    rcases Nat.lt_or_ge bs.length n with h0 | h0
    · rw [rRaw_long h0]
      exact (rd_raw_bad b n (some bs) w h h0 hn).mono fun e w' ⟨h1, h2⟩ => ⟨h1 ▸ TakeRes.nil w w', h2⟩
    · rw [rRaw_yes h0]
      exact rd_raw_yes b n bs w h h0 hl
theorem TakeRes.first {p : List Int} {w w1 w2 : World} {e : Ending} (h : TakeRes p w1 w2 e) (k : w.heap.size ≤ w1.heap.size) : TakeRes p w w2 e := by
  obtain ⟨A, c, h1, h2, h3, h4, h5, h6⟩ := h
  exact ⟨A, c, h1, h2, h3, h4, h5, fun ad had => ⟨Nat.le_trans k (h6 ad had).1, (h6 ad had).2⟩⟩
set_option maxHeartbeats 2000000 in
theorem rd_bytes (b : Nat) (s : RSt) (w : World) (h : Rd Q w b s) (hl : rLeft s ≤ 1000000) :
    Calls Tryz.prog 185 #[.pointer (some ⟨b, 0, none⟩)] w fun e w' => TakeRes (rBytes s).1 w w' e ∧ RdPost Q b (rBytes s).2 w w' := by
  have HN := Lib.hid (rd_num b s w h hl)
  have HB : Hid ((rNum s).1 ≤ 4611686018427387904 ∧ rLeft (rNum s).2 ≤ 1000000) := Lib.hid ⟨by have := rNum_le h.by_; simpa using this, Nat.le_trans (rNum_left s) hl⟩
  have lt := h.lt
  clear h hl
  go_enter Tryz.func185, Tryz.ntmps185
  go_wp2_with fail
  refine HN.out.mono ?_; rintro e w1 ⟨rfl, hp⟩
  have HR := Lib.hid (rd_raw b (rNum s).1 (rNum s).2 w1 hp.rd HB.out.1 HB.out.2)
  have HP := Lib.hid hp
  clear hp HN
  go_wp2_with fail
  refine HR.out.mono ?_; rintro e w2 ⟨ht, hp2⟩
  have HT := Lib.hid (ht.first HP.out.only.size)
  have HP2 : Hid (RdPost Q b (rBytes s).2 w w2) := Lib.hid ⟨hp2.rd, HP.out.only.trans hp2.only⟩
  obtain ⟨A, c, he, _⟩ := ht
  subst he
  clear hp2 HR HP
  go_wp2
  go_ret
  exact ⟨HT.out, HP2.out⟩
end Go.Proofs.YtpflbhcgkndpcaaGreatDoor

/- octet.Reader: Nums; NewReader. -/
namespace Go.Proofs.YtpflbhcgkndpcaaGreatDoor
open Go.RowKit

variable {Q : Nat → Prop}
/-- k numbers, one behind the other. -/
def numsR : Nat → RSt → List Nat × RSt
  | 0, s => ([], s)
  | k + 1, s => ((numsR k s).1 ++ [(rNum (numsR k s).2).1], (rNum (numsR k s).2).2)
theorem numsR_len (k : Nat) (s : RSt) : (numsR k s).1.length = k := by
  induction k with
  | zero => rfl
  | succ k ih => simp [numsR, ih]
theorem numsR_left (k : Nat) (s : RSt) : rLeft (numsR k s).2 ≤ rLeft s := by
  induction k with
  | zero => exact Nat.le_refl _
  | succ k ih => exact Nat.le_trans (rNum_left _) ih
theorem numsR_old (k j : Nat) (s : RSt) (h : j < k) : (numsR (k + 1) s).1.getD j 0 = (numsR k s).1.getD j 0 := by
  show ((numsR k s).1 ++ [(rNum (numsR k s).2).1]).getD j 0 = _
  rw [List.getD_eq_getElem?_getD, List.getD_eq_getElem?_getD, List.getElem?_append_left (by rw [numsR_len]; exact h)]
theorem numsR_new (k : Nat) (s : RSt) : (numsR (k + 1) s).1.getD k 0 = (rNum (numsR k s).2).1 := by
  show ((numsR k s).1 ++ [(rNum (numsR k s).2).1]).getD k 0 = _
  rw [List.getD_eq_getElem?_getD, List.getElem?_append_right (by rw [numsR_len]; omega), numsR_len]
  simp
/-- What Nums leaves behind k places. -/
structure NumsRel (Q : Nat → Prop) (b : Nat) (ps : List (Nat × Nat)) (s : RSt) (w wr : World) (k : Nat) : Prop where
  rd : Rd Q wr b (numsR k s).2
  but : But (fun i => i = b ∨ ∃ p ∈ ps, p.1 = i) w wr
  got : ∀ (j : Nat) (q : j < ps.length), j < k → wr.cell? ⟨ps[j].1, ps[j].2, none⟩ = some (.int .i64 ((numsR k s).1.getD j 0 : Nat))
  old : ∀ B o, B < w.heap.size → B ≠ b → (∀ (j : Nat) (q : j < ps.length), j < k → ps[j] ≠ (B, o)) → wr.cell? ⟨B, o, none⟩ = w.cell? ⟨B, o, none⟩
  frz : ∀ B o, B < w.heap.size → B ≠ b → wr.frozen? ⟨B, o, none⟩ = w.frozen? ⟨B, o, none⟩
/-- A place that a number may be laid at. -/
structure Place (Q : Nat → Prop) (b g : Nat) (w : World) (p : Nat × Nat) : Prop where
  ng : p.1 ≠ g
  nb : p.1 ≠ b
  nq : ¬ Q p.1
  lt : p.1 < w.heap.size
  c : ∃ x, w.cell? ⟨p.1, p.2, none⟩ = some (.int .i64 x)
  f : w.frozen? ⟨p.1, p.2, none⟩ = false
theorem NumsRel.next {b g : Nat} {ps : List (Nat × Nat)} {s : RSt} {w wr w1 : World} {k : Nat} (h : NumsRel Q b ps s w wr k) (hp : RdPost Q b (rNum (numsR k s).2).2 wr w1) (hk : k < ps.length) (hpl : ∀ p ∈ ps, Place Q b g w p) (hnd : ∀ (i j : Nat) (hi : i < ps.length) (hj : j < ps.length), i < j → ps[i] ≠ ps[j]) :
    NumsRel Q b ps s w (w1.setCell ⟨ps[k].1, ps[k].2, none⟩ (.int .i64 ((rNum (numsR k s).2).1 : Nat))) (k + 1) := by
  have P := hpl ps[k] (List.getElem_mem hk)
  have hlt : ps[k].1 < wr.heap.size := Nat.lt_of_lt_of_le P.lt h.but.size
  have hne : ∀ j (q : j < ps.length), j < k → ps[j] ≠ ps[k] := fun j q hj => hnd j k q hk hj
  refine ⟨?_, ?_, fun j q hj => ?_, fun B o hB hb hno => ?_, fun B o hB hb => ?_⟩
  · exact hp.rd.but (S := fun i => i = ps[k].1) (But.of_only ((Only.refl ps[k].1 w1).setB (o := ps[k].2) _) rfl) (fun e => P.nb e.symm) (fun i e => e ▸ P.nq)
  · exact (h.but.trans (But.of_only (S := fun i => i = b) hp.only rfl) (fun i _ e => .inl e)).setCell (fun _ => .inr ⟨ps[k], List.getElem_mem hk, rfl⟩) _
  · rcases Nat.lt_or_ge j k with hjk | hjk
    · have Pj := hpl ps[j] (List.getElem_mem q)
      rw [World.cell?_setCell_other _ _ _ _ (fun e => hne j q hjk (by injection e with e1 e2; exact Prod.ext e1.symm e2.symm)), numsR_old k j s hjk, hp.only.cell _ _ (Nat.lt_of_lt_of_le Pj.lt h.but.size) Pj.nb]
      exact h.got j q hjk
    · obtain rfl : j = k := by omega
      obtain ⟨x, hx⟩ := P.c
      rw [numsR_new]
      have e1 := hp.only.cell ps[j].1 ps[j].2 hlt P.nb
      have e2 := h.old ps[j].1 ps[j].2 P.lt P.nb (fun j' q' hj' => hne j' q' hj')
      exact World.cell?_setCell_same _ _ _ (e1.trans (e2.trans hx))
  · rw [World.cell?_setCell_other _ _ _ _ (fun e => hno k hk (by omega) (by injection e with e1 e2; exact Prod.ext e1 e2)), hp.only.cell _ _ (Nat.lt_of_lt_of_le hB h.but.size) hb]
    exact h.old B o hB hb (fun j q hj => hno j q (by omega))
  · have e : (w1.setCell ⟨ps[k].1, ps[k].2, none⟩ (.int .i64 ((rNum (numsR k s).2).1 : Nat))).frozen? ⟨B, o, none⟩ = w1.frozen? ⟨B, o, none⟩ := by simp
    rw [e, hp.only.frozen _ _ (Nat.lt_of_lt_of_le hB h.but.size) hb]
    exact h.frz B o hB hb
set_option maxRecDepth 100000 in
set_option maxHeartbeats 4000000 in
theorem rd_nums (b g c : Nat) (ps : List (Nat × Nat)) (s : RSt) (w : World) (h : Rd Q w b s) (hl : rLeft s ≤ 1000000) (hgl : g < w.heap.size) (hgb : g ≠ b) (hgc : ∀ (j : Nat) (q : j < ps.length), w.cell? ⟨g, j, none⟩ = some (.pointer (some ⟨ps[j].1, ps[j].2, none⟩)))
    (hpl : ∀ p ∈ ps, Place Q b g w p) (hnd : ∀ (i j : Nat) (hi : i < ps.length) (hj : j < ps.length), i < j → ps[i] ≠ ps[j]) (hn : ps.length ≤ 10) :
    Calls Tryz.prog 223 #[.pointer (some ⟨b, 0, none⟩), .slice (some ⟨g, 0, none⟩) ps.length c] w fun e w' => e = .returned (.tuple #[]) ∧ NumsRel Q b ps s w w' ps.length := by
  have H0 : Hid (NumsRel Q b ps s w w 0) := Lib.hid ⟨h, But.refl _ _, fun j _ hj => absurd hj (by omega), fun _ _ _ _ _ => rfl, fun _ _ _ _ => rfl⟩
  have HC := Lib.hid hgc
  have HP := Lib.hid hpl
  have HN := Lib.hid hnd
  have HL := Lib.hid hl
  have hni : (ps.length : Int) ≤ 10 := by omega
  clear h hgc hpl hnd hl
  go_enter Tryz.func223, Tryz.ntmps223
  go_wp2
  go_loopw [9] (fun i wr => ∃ k : Nat, k ≤ ps.length ∧ i = .int .i64 k ∧ NumsRel Q b ps s w wr k) (fun i _ => ps.length - (intOf i).toNat)
  case atStart => exact ⟨0, Nat.zero_le _, rfl, H0.out⟩
  case round =>
    obtain ⟨k, hk, rfl, hR⟩ := hrel
    clear H0
    by_cases hlt : k < ps.length
    · have x0 : wr.cell? ⟨g, k, none⟩ = some (.pointer (some ⟨ps[k].1, ps[k].2, none⟩)) := by
        rw [hR.old g k hgl hgb (fun j q _ e => (HP.out _ (List.getElem_mem q)).ng (by rw [e]))]
        exact HC.out k hlt
      have lk : (k : Int) < (ps.length : Int) := by omega
      have P := HP.out ps[k] (List.getElem_mem hlt)
      have HNUM := Lib.hid (rd_num b (numsR k s).2 wr hR.rd (Nat.le_trans (numsR_left k s) HL.out))
      have HNX : Hid (∀ w1, RdPost Q b (rNum (numsR k s).2).2 wr w1 → NumsRel Q b ps s w (w1.setCell ⟨ps[k].1, ps[k].2, none⟩ (.int .i64 ((rNum (numsR k s).2).1 : Nat))) (k + 1) ∧ (∃ x, w1.cell? ⟨ps[k].1, ps[k].2, none⟩ = some (.int .i64 x)) ∧ w1.frozen? ⟨ps[k].1, ps[k].2, none⟩ = false) := Lib.hid (fun w1 hp => by
        have hltk : ps[k].1 < wr.heap.size := Nat.lt_of_lt_of_le P.lt hR.but.size
        refine ⟨hR.next hp hlt HP.out HN.out, ?_, ?_⟩
        · obtain ⟨x, hx⟩ := P.c
          have e1 := hp.only.cell ps[k].1 ps[k].2 hltk P.nb
          have e2 := hR.old ps[k].1 ps[k].2 P.lt P.nb (fun j' q' hj' => HN.out j' k q' hlt hj')
          exact ⟨x, e1.trans (e2.trans hx)⟩
        · have e1 := hp.only.frozen ps[k].1 ps[k].2 hltk P.nb
          have e2 := hR.frz ps[k].1 ps[k].2 P.lt P.nb
          exact e1.trans (e2.trans P.f))
      clear hR P
      generalize (rNum (numsR k s).2).1 = n at *
      generalize ps[k] = pk at *
      obtain ⟨pB, pO⟩ := pk
      simp only at x0 HNX
      go_wp2_with fail
      refine HNUM.out.mono ?_; rintro e w1 ⟨rfl, hp⟩
      obtain ⟨hnx, ⟨x, hx⟩, hf⟩ := HNX.out w1 hp
      have HNX2 := Lib.hid hnx
      clear hp hnx HNX HNUM
      go_wp2
      go_roundw
      case rel => exact ⟨k + 1, by omega, by go_num, HNX2.out⟩
      case measure => simp [intOf]; omega
    · obtain rfl : k = ps.length := by omega
      have HR := Lib.hid hR
      clear hR
      go_wp2
      exact bodyPost_end (by simp [results, Tryz.results223, go_sem]) rfl ⟨rfl, HR.out⟩
set_option maxRecDepth 100000 in
set_option maxHeartbeats 4000000 in
theorem new_reader (A : Option Addr) (l : List Int) (c : Nat) (w : World) (hby : ByL w A l) (hb : isBy l) (hn : A = none → l.length = 0) (hl : l.length ≤ 1000000) :
    Calls Tryz.prog 71 #[.slice A l.length c] w fun e w' => ∃ b g, e = .returned (.pointer (some ⟨b, 0, none⟩)) ∧ Rd (fun i => i = g) w' b (some l) ∧ w.heap.size ≤ g ∧ w.heap.size ≤ b ∧ Below w.heap.size w w' ∧ g < w'.heap.size := by
  have hk : Below w.heap.size w (w.alloc (.cells #[.slice A l.length c] 42)) := by (repeat' (first | (with_reducible exact Below.refl _ _) | (with_reducible assumption) | (with_reducible refine Below.trans ?_ (Below.mono (by with_reducible assumption) ?_)) | (with_reducible refine Below.alloc ?_ ?_ _) | (with_reducible refine Below.setCell ?_ ?_ _) | (with_reducible refine below_drewN ?_ _) | (with_reducible refine Below.drew ?_) | go_size))
  have HJ := Lib.hid (oct_join w.heap.size 1 c A l (w.alloc (.cells #[.slice A l.length c] 42)) (by simp) (by simp) (hby.below hk) hn hl)
  have HK := Lib.hid hk
  have HBY := Lib.hid hb
  clear hby hk hb hn
  go_enter Tryz.func71, Tryz.ntmps71
  go_wp2_with fail
  refine HJ.out.mono ?_; rintro e w2 ⟨⟨g, cap, rfl, hown⟩, hb2⟩
  have hB2 : Below w.heap.size w w2 := HK.out.trans (hb2.mono (by simp))
  have hlt : w.heap.size < w2.heap.size := by have := hb2.size; simp at this; omega
  obtain ⟨A1, c1, e1, y1, b1, l1⟩ := Own8.bytes hown
  obtain ⟨rfl, rfl⟩ : some ⟨g, 0, none⟩ = A1 ∧ cap = c1 := by injection e1 with q1 q2 q3; exact ⟨q1, q3⟩
  obtain ⟨q1, q2, _, _⟩ := b1 _ rfl
  have hgl : g < w2.heap.size := (World.ownsRow.lt hown g rfl).2
  have hcm : cap ≤ maxLen := by
    rcases hown.2 with ⟨h, _⟩ | ⟨g', cap', cur, h, _, _, _, h2, _⟩
    · cases h
    · injection h with _ _ h3; omega
  have hge : w.heap.size ≤ g := by have : w.heap.size + 1 ≤ g := by simpa using q1
                                   omega
  have HR : Hid (Rd (fun i => i = g) (w2.alloc (.cells #[.slice (some ⟨g, 0, none⟩) l.length cap, .bool false] 208)) w2.heap.size (some l)) := Lib.hid
    ⟨fun e => by omega, by simp, by simp, by simp, (fun e => by cases e), fun bs e => by
      injection e with e
      subst e
      exact ⟨some ⟨g, 0, none⟩, cap, by simp, by simp, l1, hcm, y1.alloc _, (fun ad had _ => by injection had with had; subst had; exact ⟨rfl, rfl⟩), HBY.out, (fun e => by cases e)⟩⟩
  have HF := Lib.hid (And.intro hge (And.intro (Nat.le_of_lt hlt) (And.intro (hB2.alloc hB2.size (.cells #[.slice (some ⟨g, 0, none⟩) l.length cap, .bool false] 208)) (show g < (w2.alloc (.cells #[.slice (some ⟨g, 0, none⟩) l.length cap, .bool false] 208)).heap.size from by simp; omega))))
  clear hown hb2 hB2 y1 b1 e1 HJ HK
  go_wp2
  go_ret
  exact ⟨_, g, rfl, HR.out, HF.out.1, HF.out.2.1, HF.out.2.2.1, HF.out.2.2.2⟩
end Go.Proofs.YtpflbhcgkndpcaaGreatDoor

