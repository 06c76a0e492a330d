/- octet.Reader: what lies in memory; Good, Bad, Left, Num. -/
import Derived.Test.YtdffldlcbihjmaaDoorOctBytes
set_option linter.unusedSimpArgs false
set_option linter.unusedVariables false
namespace Go.Proofs.YtdffldlcbihjmaaDoor
open Go.RowKit

/-- A reader in a block: what is left of its bytes; none: it erred. -/
structure Rd (Q : Nat → Prop) (w : World) (b : Nat) (s : RSt) : Prop where
  nq : ¬ Q b
  lt : b < w.heap.size
  f0 : w.frozen? ⟨b, 0, none⟩ = false
  f1 : w.frozen? ⟨b, 1, none⟩ = false
  no : s = none → w.cell? ⟨b, 0, none⟩ = some (.slice none 0 0) ∧ w.cell? ⟨b, 1, none⟩ = some (.bool true)
  yes : ∀ bs, s = some bs → ∃ A c, w.cell? ⟨b, 0, none⟩ = some (.slice A bs.length c) ∧ w.cell? ⟨b, 1, none⟩ = some (.bool false) ∧ bs.length ≤ c ∧ c ≤ maxLen ∧ ByL w A bs ∧ (∀ ad, A = some ad → 0 < bs.length → Q ad.block ∧ ad.spot = none) ∧ isBy bs ∧ (A = none → bs.length = 0 ∧ c = 0)
variable {Q : Nat → Prop}
theorem Rd.but {S : Nat → Prop} {w w' : World} {b : Nat} {s : RSt} (h : Rd Q w b s) (k : But S w w') (hb : ¬ S b) (ha : ∀ i, S i → ¬ Q i) : Rd Q w' b s := by
  refine ⟨h.nq, Nat.lt_of_lt_of_le h.lt k.size, (k.frozen b 0 h.lt hb).trans h.f0, (k.frozen b 1 h.lt hb).trans h.f1, fun e => ⟨(k.cell b 0 h.lt hb).trans (h.no e).1, (k.cell b 1 h.lt hb).trans (h.no e).2⟩, fun bs e => ?_⟩
  obtain ⟨A, c, h0, h1, h2, h3, h4, h5, h6, h7⟩ := h.yes bs e
  exact ⟨A, c, (k.cell b 0 h.lt hb).trans h0, (k.cell b 1 h.lt hb).trans h1, h2, h3, h4.but k (fun hl ad hd hs => ha _ hs (h5 ad hd hl).1), h5, h6, h7⟩
theorem Rd.below {w w' : World} {b : Nat} {s : RSt} (h : Rd Q w b s) (k : Below w.heap.size w w') : Rd Q w' b s := h.but (S := fun _ => False) (But.of_below k) (fun hf => hf) (fun _ hf => hf.elim)
theorem Rd.by_ {w : World} {b : Nat} {s : RSt} (h : Rd Q w b s) : stBy s := fun bs e => by
  obtain ⟨_, _, _, _, _, _, _, _, h6, _⟩ := h.yes bs e
  exact h6
/-- A call that reads: the reader's block alone has changed. -/
structure RdPost (Q : Nat → Prop) (b : Nat) (s : RSt) (w w' : World) : Prop where
  rd : Rd Q w' b s
  only : Only b w w'
theorem rd_good_no (b : Nat) (w : World) (h : Rd Q w b none) : Calls Tryd.prog 97 #[.pointer (some ⟨b, 0, none⟩)] w fun e w' => e = .returned (.bool false) ∧ w = w' := by
  obtain ⟨c0, c1⟩ := h.no rfl
  have lt := h.lt
  clear h
  go_enter Tryd.func97, Tryd.ntmps97
  go_wp2
  go_ret
  exact ⟨rfl, rfl⟩
theorem rd_good_yes (b : Nat) (bs : List Int) (w : World) (h : Rd Q w b (some bs)) : Calls Tryd.prog 97 #[.pointer (some ⟨b, 0, none⟩)] w fun e w' => e = .returned (.bool true) ∧ w = w' := by
  obtain ⟨A, c, c0, c1, _⟩ := h.yes bs rfl
  have lt := h.lt
  clear h
  go_enter Tryd.func97, Tryd.ntmps97
  go_wp2
  go_ret
  exact ⟨rfl, rfl⟩
theorem Rd.set_no {w : World} {b : Nat} {s : RSt} (h : Rd Q w b s) : RdPost Q b none w ((w.setCell ⟨b, 0, none⟩ (.slice none 0 0)).setCell ⟨b, 1, none⟩ (.bool true)) := by
  have hc0 : ∃ v, w.cell? ⟨b, 0, none⟩ = some v := by
    cases s with
    | none => exact ⟨_, (h.no rfl).1⟩
    | some bs => obtain ⟨A, c, h0, _⟩ := h.yes bs rfl; exact ⟨_, h0⟩
  have hc1 : ∃ v, w.cell? ⟨b, 1, none⟩ = some v := by
    cases s with
    | none => exact ⟨_, (h.no rfl).2⟩
    | some bs => obtain ⟨A, c, _, h1, _⟩ := h.yes bs rfl; exact ⟨_, h1⟩
  obtain ⟨v0, hv0⟩ := hc0
  obtain ⟨v1, hv1⟩ := hc1
  refine ⟨⟨h.nq, by have := h.lt; simpa [World.setCell] using this, by simpa using h.f0, by simpa using h.f1, fun _ => ⟨?_, ?_⟩, fun bs e => by cases e⟩, ((Only.refl _ _).setB _).setB _⟩
  · rw [World.cell?_setCell_other _ _ _ _ (by simp)]
    exact World.cell?_setCell_same _ _ _ hv0
  · exact World.cell?_setCell_same _ _ _ ((World.cell?_setCell_other _ _ _ _ (by simp)).trans hv1)
theorem rd_bad (b : Nat) (s : RSt) (w : World) (h : Rd Q w b s) : Calls Tryd.prog 96 #[.pointer (some ⟨b, 0, none⟩)] w fun e w' => e = .returned (.tuple #[]) ∧ RdPost Q b none w w' := by
  have HS := Lib.hid h.set_no
  have lt := h.lt
  have f0 := h.f0
  have f1 := h.f1
  obtain ⟨v0, hv0⟩ : ∃ v, w.cell? ⟨b, 0, none⟩ = some v := by
    cases s with
    | none => exact ⟨_, (h.no rfl).1⟩
    | some bs => obtain ⟨A, c, h0, _⟩ := h.yes bs rfl; exact ⟨_, h0⟩
  obtain ⟨v1, hv1⟩ : ∃ v, w.cell? ⟨b, 1, none⟩ = some v := by
    cases s with
    | none => exact ⟨_, (h.no rfl).2⟩
    | some bs => obtain ⟨A, c, _, h1, _⟩ := h.yes bs rfl; exact ⟨_, h1⟩
  clear h
  go_enter Tryd.func96, Tryd.ntmps96
  go_wp2
  exact bodyPost_end (by simp [results, Tryd.results96, go_sem]) rfl ⟨rfl, HS.out⟩
theorem rd_left (b : Nat) (s : RSt) (w : World) (h : Rd Q w b s) : Calls Tryd.prog 63 #[.pointer (some ⟨b, 0, none⟩)] w fun e w' => e = .returned (.int .i64 (rLeft s : Nat)) ∧ w = w' := by
  have lt := h.lt
  cases s with
  | none =>
    obtain ⟨c0, c1⟩ := h.no rfl
    clear h
    go_enter Tryd.func63, Tryd.ntmps63
    go_wp2
    go_ret
    exact ⟨rfl, rfl⟩
  | some bs =>
    obtain ⟨A, c, c0, c1, _⟩ := h.yes bs rfl
    clear h
    go_enter Tryd.func63, Tryd.ntmps63
    go_wp2
    go_ret
    exact ⟨rfl, rfl⟩
theorem and127b (n : Int) (h0 : 0 ≤ n) (h1 : n ≤ 255) : bits .and .u8 n 127 = n % 128 := by
  obtain ⟨n, rfl⟩ := Int.eq_ofNat_of_zero_le h0
  show IntKind.u8.wrap ((BitVec.ofInt 8 (n : Int) &&& BitVec.ofInt 8 127).toNat : Int) = _
  have e1 : (BitVec.ofInt 8 (n : Int)).toNat = n := by rw [BitVec.ofInt_natCast, BitVec.toNat_ofNat]; exact Nat.mod_eq_of_lt (by omega)
  have e2 : (BitVec.ofInt 8 127).toNat = 2 ^ 7 - 1 := by decide
  rw [BitVec.toNat_and, e1, e2, Nat.and_two_pow_sub_one_eq_mod, w8 _ (by omega) (by omega)]
  omega
theorem or_hi (k m d : Nat) (hm : m < 2 ^ (7 * k)) (hb : m + d * 2 ^ (7 * k) < 9223372036854775808) : bits .or .i64 (m : Int) ((d * 2 ^ (7 * k) : Nat) : Int) = ((m + d * 2 ^ (7 * k) : Nat) : Int) := by
  generalize hP : 2 ^ (7 * k) = P at *
  show IntKind.i64.wrap ((BitVec.ofInt 64 (m : Int) ||| BitVec.ofInt 64 ((d * P : Nat) : Int)).toNat : Int) = _
  have e1 : (BitVec.ofInt 64 (m : Int)).toNat = m := by rw [BitVec.ofInt_natCast, BitVec.toNat_ofNat]; exact Nat.mod_eq_of_lt (by omega)
  have e2 : (BitVec.ofInt 64 ((d * P : Nat) : Int)).toNat = d * P := by rw [BitVec.ofInt_natCast, BitVec.toNat_ofNat]; exact Nat.mod_eq_of_lt (by omega)
  have e3 : m ||| d * P = m + d * P := by
    subst hP
    have := Nat.two_pow_add_eq_or_of_lt (i := 7 * k) (b := m) hm d
    rw [Nat.mul_comm d, Nat.or_comm, Nat.add_comm]
    exact this.symm
  rw [BitVec.toNat_or, e1, e2, e3, IntWalk.i64_in _ (by omega)]
theorem pow7 (k : Nat) : (128 : Nat) ^ k = 2 ^ (7 * k) := by rw [Nat.pow_mul]
theorem rNum_none_of {bs : List Int} (h : decN 0 0 bs = none) : rNum (some bs) = (0, none) := by simp only [rNum, h]
theorem rNum_some_of {bs t : List Int} {n : Nat} (h : decN 0 0 bs = some (n, t)) : rNum (some bs) = (n, some t) := by simp only [rNum, h]
theorem decN_cons (k m : Nat) (x : Int) (t : List Int) : decN k m (x :: t) = if k = 9 ∨ (x = 0 ∧ 0 < k) then none else if 127 < x then decN (k + 1) (m + x.toNat % 128 * 2 ^ (7 * k)) t else if 2 ^ 62 < m + x.toNat % 128 * 2 ^ (7 * k) then none else some (m + x.toNat % 128 * 2 ^ (7 * k), t) := by
  rw [decN, pow7]
/-- One byte of a number: what its digits add up to. -/
theorem num_bd {k m d : Nat} (hk : k < 9) (hd : d < 128) (hm : m < 2 ^ (7 * k)) : m + d * 2 ^ (7 * k) < 2 ^ (7 * (k + 1)) ∧ m + d * 2 ^ (7 * k) < 9223372036854775808 := by
  have e : (2 : Nat) ^ (7 * (k + 1)) = 128 * 2 ^ (7 * k) := by rw [Nat.mul_add, Nat.pow_add, Nat.mul_comm]
  have h1 : (d + 1) * 2 ^ (7 * k) ≤ 128 * 2 ^ (7 * k) := Nat.mul_le_mul_right _ (by omega)
  rw [Nat.add_mul] at h1
  have h2 : (2 : Nat) ^ (7 * (k + 1)) ≤ 2 ^ 63 := Nat.pow_le_pow_right (by omega) (by omega)
  have h3 : (2 : Nat) ^ 63 = 9223372036854775808 := by decide
  omega
theorem Rd.next {w : World} {b : Nat} {bs : List Int} {A A' : Option Addr} {c n : Nat} (h : Rd Q w b (some bs)) (hn : n ≤ bs.length) (hc0 : w.cell? ⟨b, 0, none⟩ = some (.slice A bs.length c))
    (hA : A' = (if c = n then A else A.map (fun ad => ad.add n))) : RdPost Q b (some (bs.drop n)) w (w.setCell ⟨b, 0, none⟩ (.slice A' (bs.length - n) (c - n))) := by
  obtain ⟨A0, c0, h0, h1, h2, h3, h4, h5, h6, h7⟩ := h.yes bs rfl
  rw [hc0] at h0
  injection h0 with h0
  injection h0 with e1 e2 e3
  subst e1 e3
  have hO : Only b w (w.setCell ⟨b, 0, none⟩ (.slice A' (bs.length - n) (c - n))) := (Only.refl _ _).setB _
  refine ⟨⟨h.nq, by have := h.lt; simpa [World.setCell] using this, by simpa using h.f0, by simpa using h.f1, (fun e => by cases e), fun bs' e => ?_⟩, hO⟩
  injection e with e
  subst e
  refine ⟨A', c - n, by rw [List.length_drop]; exact World.cell?_setCell_same _ _ _ hc0, (World.cell?_setCell_other _ _ _ _ (by simp)).trans h1, by rw [List.length_drop]; omega, by omega, ?_, ?_, isBy_drop h6 n, ?_⟩
  · by_cases hcn : c = n
    · intro hl; rw [List.length_drop] at hl; omega
    · rw [if_neg hcn] at hA
      cases A with
      | none => intro hl; rw [List.length_drop] at hl; have := (h7 rfl).1; omega
      | some ad =>
        intro hl
        rw [List.length_drop] at hl
        obtain ⟨B, O, sp⟩ := ad
        obtain ⟨hne, hsp⟩ := h5 _ rfl (by omega)
        simp only at hsp
        subst hsp
        have hq : A' = some ⟨B, O + n, none⟩ := by rw [hA]; simp [at_add]
        subst hq
        exact (h4.drop n).only hO (fun ad had => by injection had with had; subst had; exact fun e => h.nq (e ▸ hne)) (by rw [List.length_drop]; exact hl)
  · intro ad had hl
    rw [List.length_drop] at hl
    have hl0 : 0 < bs.length := by omega
    subst hA
    by_cases hcn : c = n
    · rw [if_pos hcn] at had; exact h5 ad had hl0
    · rw [if_neg hcn] at had
      cases A with
      | none => cases had
      | some a0 =>
        simp only [Option.map_some, Option.some.injEq] at had
        subst had
        obtain ⟨hne, hsp⟩ := h5 _ rfl hl0
        unfold Addr.add
        split
        · exact ⟨hne, hsp⟩
        · exact ⟨hne, rfl⟩
  · rintro rfl
    cases A with
    | none => have := h7 rfl; rw [List.length_drop]; omega
    | some ad => exfalso; split at hA <;> cases hA
set_option maxRecDepth 100000 in
set_option maxHeartbeats 4000000 in
theorem rd_num_yes (b : Nat) (bs : List Int) (w : World) (h : Rd Q w b (some bs)) (hl : bs.length ≤ 1000000) :
    Calls Tryd.prog 93 #[.pointer (some ⟨b, 0, none⟩)] w fun e w' => e = .returned (.int .i64 ((rNum (some bs)).1 : Nat)) ∧ RdPost Q b (rNum (some bs)).2 w w' := by
  have HH := Lib.hid h
  have HG := Lib.hid (rd_good_yes b bs w h)
  have HBAD := Lib.hid (rd_bad b (some bs) w h)
  obtain ⟨A, c, c0, c1, hc, hcm, hby, hav, hbb, hn⟩ := h.yes bs rfl
  have lt := h.lt
  have f0 := h.f0
  have HY := Lib.hid (And.intro hby (And.intro hbb hav))
  have hli : (bs.length : Int) ≤ 1000000 := by omega
  have HNO : Hid (decN 0 0 bs = none → Ending.returned (Value.int .i64 0) = Ending.returned (.int .i64 ((rNum (some bs)).1 : Nat)) ∧ (rNum (some bs)).2 = none) := Lib.hid (fun hd => by rw [rNum_none_of hd]; exact ⟨rfl, rfl⟩)
  unfold maxLen at hcm
  clear h hby hbb hav hn
  go_enter Tryd.func93, Tryd.ntmps93
  go_wp2_with (go_at_call 97; refine HG.out.mono ?_; rintro e w1 ⟨rfl, rfl⟩)
  go_loop [3, 14] (fun n i => ∃ (k m : Nat), k ≤ bs.length ∧ k ≤ 9 ∧ i = .int .i64 k ∧ n = .int .i64 m ∧ m < 2 ^ (7 * k) ∧ decN 0 0 bs = decN k m (bs.drop k)) (fun _ i => bs.length - (intOf i).toNat)
  case atStart => exact ⟨0, 0, Nat.zero_le _, by omega, rfl, rfl, by simp, by simp⟩
  case round =>
    obtain ⟨k, m, hk, hk9, rfl, rfl, hm, hd⟩ := hrel
    by_cases hlt : k < bs.length
    · rw [List.drop_eq_getElem_cons hlt, decN_cons] at hd
      obtain ⟨B, O, rfl, hB, hcells⟩ := HY.out.1 (by omega)
      have x0 := hcells k _ (bC_at bs k hlt)
      have hx := HY.out.2.1 bs[k] (List.getElem_mem hlt)
      have lk : (k : Int) < (bs.length : Int) := by omega
      clear hcells
      generalize bs[k] = x at *
      by_cases ha : k = 9 ∨ (x = 0 ∧ 0 < k)
      · rw [if_pos ha] at hd
        have HE := Lib.hid (HNO.out hd)
        clear hd HNO
        by_cases h9 : k = 9
        · subst h9
          go_wp2_with (go_at_call 96; refine HBAD.out.mono ?_; rintro e w2 ⟨rfl, hp2⟩; have HP := Lib.hid hp2; clear hp2)
          go_ret
          exact ⟨HE.out.1, HE.out.2 ▸ HP.out⟩
        · have hx0 : x = 0 := by omega
          have hk0 : 0 < k := by omega
          subst hx0
          have t2 : ((k : Int) == 9) = false := by simp; omega
          have t3 : decide (0 < (k : Int)) = true := by simp; omega
          have t3' : decide (0 < k) = true := by simpa using hk0
          clear ha h9
          go_wp2_with (go_at_call 96; refine HBAD.out.mono ?_; rintro e w2 ⟨rfl, hp2⟩; have HP := Lib.hid hp2; clear hp2)
          go_ret
          exact ⟨HE.out.1, HE.out.2 ▸ HP.out⟩
      · rw [if_neg ha] at hd
        have hk9' : k < 9 := by omega
        have t2 : ((k : Int) == 9) = false := by simp; omega
        have hxk : (x == 0) = false ∨ k = 0 := by
          rcases Nat.eq_zero_or_pos k with q | q
          · exact Or.inr q
          · exact Or.inl (by simp; omega)
        obtain ⟨d, hd1⟩ : ∃ d : Nat, x.toNat % 128 = d := ⟨_, rfl⟩
        have hdb : d < 128 := by omega
        have hxd : x % 128 = (d : Int) := by omega
        have t1 : bits .and .u8 x 127 = (d : Int) := by rw [and127b x hx.1 hx.2, hxd]
        have hnb := num_bd hk9' hdb hm
        have t5 := or_hi k m d hm hnb.2
        obtain ⟨y, hy⟩ : ∃ y : Nat, d * 2 ^ (7 * k) = y := ⟨_, rfl⟩
        obtain ⟨z, hz⟩ : ∃ z : Nat, m + y = z := ⟨_, rfl⟩
        rw [hd1, hy, hz] at hd
        rw [hy, hz] at t5 hnb
        have t4 : IntKind.i64.wrap ((d : Int) * 2 ^ (7 * k)) = (y : Int) := by
          have e : (d : Int) * 2 ^ (7 * k) = ((d * 2 ^ (7 * k) : Nat) : Int) := by push_cast; rfl
          rw [e, hy]
          exact IntWalk.i64_in _ (by omega)
        have t4' : wrap64 ((d : Int) * 2 ^ (7 * k)) = (y : Int) := by rw [← IntWalk.i64_left]; exact t4
        have t6 : IntKind.i64.wrap (d : Int) = (d : Int) := IntWalk.i64_in _ (by omega)
        have HNB := Lib.hid hnb
        have HD := Lib.hid hd
        have HXZ : Hid (x = 0 → k = 0) := Lib.hid (fun e => by omega)
        have hzb := hnb.2
        have hm0 : k = 0 → m = 0 := fun e => by subst e; simpa using hm
        have HMM := Lib.hid hm0
        clear hxk hxd hnb hd ha hm hm0
        by_cases hx0 : x = 0
        · have hk0 := HXZ.out hx0
          have hm0 := HMM.out hk0
          subst hx0
          subst hk0
          subst hm0
          have hd0 : d = 0 := by simpa using hd1.symm
          subst hd0
          have hy0 : y = 0 := by simpa using hy.symm
          subst hy0
          have hz0 : z = 0 := by omega
          subst hz0
          have hd2 : decN 0 0 bs = some (0, bs.drop 1) := by rw [HD.out, if_neg (by omega), if_neg (by omega)]
          clear hd1 hy hz HD HXZ HMM HNB HNO
          rw [Nat.add_zero] at x0
          have lk0 : (0 : Int) < (bs.length : Int) := by omega
          have t8 : bits .or .i64 0 0 = 0 := by decide
          have t9 : bits .and .u8 0 127 = 0 := by decide
          have HE := Lib.hid (rNum_some_of hd2)
          by_cases hce : c = 1
          · have HN := Lib.hid (HH.out.next (n := 1) (A' := some ⟨B, O, none⟩) hlt c0 (by rw [if_pos hce]))
            subst hce
            clear t5 t4 t4' t1 t2 t6
            go_wp2
            go_ret
            rw [HE.out]
            exact ⟨rfl, by have q := HN.out; rwa [show bs.length - 1 = 0 from by omega, show 1 - 1 = 0 from by omega] at q⟩
          · have HN := Lib.hid (HH.out.next (n := 1) (A' := some ⟨B, O + 1, none⟩) hlt c0 (by rw [if_neg hce]; simp [at_add]))
            have hce' : ¬ (c : Int) = 1 := by omega
            have hci : (bs.length : Int) ≤ (c : Int) := by omega
            clear t5 t4 t4' t1 t2 t6
            go_wp2
            go_ret
            rw [HE.out]
            exact ⟨rfl, HN.out⟩
        have t3 : (x == 0) = false := by simpa using hx0
        clear hx0 hd1 hy hz HXZ HMM
        by_cases hgt : 127 < x
        · have HD2 : Hid (decN 0 0 bs = decN (k + 1) z (bs.drop (k + 1))) := Lib.hid (by rw [HD.out, if_pos hgt])
          clear HD HNO
          go_wp2
          go_round
          case rel => exact ⟨k + 1, z, by omega, by omega, by go_num, rfl, HNB.out.1, HD2.out⟩
          case measure => simp [intOf]; omega
        have hd3 := HD.out
        rw [if_neg hgt] at hd3
        by_cases hbig : 2 ^ 62 < z
        · rw [if_pos hbig] at hd3
          have HE := Lib.hid (HNO.out hd3)
          have hbi : (4611686018427387904 : Int) < (z : Int) := by omega
          clear hd3 HNO HD hbig
          go_wp2_with (go_at_call 96; refine HBAD.out.mono ?_; rintro e w2 ⟨rfl, hp2⟩; have HP := Lib.hid hp2; clear hp2)
          go_ret
          exact ⟨HE.out.1, HE.out.2 ▸ HP.out⟩
        · rw [if_neg hbig] at hd3
          have hbi : ¬ (4611686018427387904 : Int) < (z : Int) := by omega
          have hd4 := Lib.hid hd3
          clear hd3 HNO HD hbig
          have HE := Lib.hid (rNum_some_of hd4.out)
          by_cases hce : c = k + 1
          · have HN := Lib.hid (HH.out.next (n := k + 1) (A' := some ⟨B, O, none⟩) hlt c0 (by rw [if_pos hce]))
            subst hce
            go_wp2
            go_ret
            rw [HE.out]
            exact ⟨rfl, by have q := HN.out; rwa [show bs.length - (k + 1) = 0 from by omega, show k + 1 - (k + 1) = 0 from by omega] at q⟩
          · have HN := Lib.hid (HH.out.next (n := k + 1) (A' := some ⟨B, O + (k + 1), none⟩) hlt c0 (by rw [if_neg hce]; simp [at_add]))
            have hce' : ¬ (c : Int) = (k : Int) + 1 := by omega
            have hci : (bs.length : Int) ≤ (c : Int) := by omega
            go_wp2
            go_ret
            rw [HE.out]
            exact ⟨rfl, HN.out⟩
    · obtain rfl : k = bs.length := by omega
      rw [List.drop_length] at hd
      have hd' : decN 0 0 bs = none := by rw [hd]; rfl
      have HE := Lib.hid (HNO.out hd')
      clear hd hd' HNO
      go_wp2_with (go_at_call 96; refine HBAD.out.mono ?_; rintro e w2 ⟨rfl, hp2⟩; have HP := Lib.hid hp2; clear hp2)
      go_ret
      exact ⟨HE.out.1, HE.out.2 ▸ HP.out⟩
theorem rd_num (b : Nat) (s : RSt) (w : World) (h : Rd Q w b s) (hl : rLeft s ≤ 1000000) :
    Calls Tryd.prog 93 #[.pointer (some ⟨b, 0, none⟩)] w fun e w' => e = .returned (.int .i64 ((rNum s).1 : Nat)) ∧ RdPost Q b (rNum s).2 w w' := by
  cases s with
  | some bs => exact rd_num_yes b bs w h hl
  | none =>
    have HG := Lib.hid (rd_good_no b w h)
    have HH := Lib.hid h
    clear h
    go_enter Tryd.func93, Tryd.ntmps93
    go_wp2_with (go_at_call 97; refine HG.out.mono ?_; rintro e w1 ⟨rfl, rfl⟩)
    go_ret
    exact ⟨rfl, HH.out, Only.refl _ _⟩
theorem rd_whole (b : Nat) (s : RSt) (w : World) (h : Rd Q w b s) : Calls Tryd.prog 64 #[.pointer (some ⟨b, 0, none⟩)] w fun e w' => e = .returned (.bool (decide (s = some []))) ∧ w = w' := by
  have lt := h.lt
  cases s with
  | none =>
    have HG := Lib.hid (rd_good_no b w h)
    clear h
    go_enter Tryd.func64, Tryd.ntmps64
    go_wp2_with (go_at_call 97; refine HG.out.mono ?_; rintro e w1 ⟨rfl, rfl⟩)
    go_ret
    exact ⟨by simp, rfl⟩
  | some bs =>
    have HG := Lib.hid (rd_good_yes b bs w h)
    obtain ⟨A, c, c0, c1, _⟩ := h.yes bs rfl
    have HD : Hid ((bs.length == 0) = decide ((some bs : RSt) = some [])) := Lib.hid (by
      rw [Bool.eq_iff_iff, decide_eq_true_eq]
      cases bs <;> simp)
    cases hz : bs.length == 0
    · have HZ := Lib.hid hz
      have t1 : ((bs.length : Int) == 0) = false := by simp at hz ⊢; exact hz
      clear h hz
      go_enter Tryd.func64, Tryd.ntmps64
      go_wp2_with (go_at_call 97; refine HG.out.mono ?_; rintro e w1 ⟨rfl, rfl⟩)
      go_ret
      exact ⟨by rw [← HD.out, HZ.out]; rfl, rfl⟩
    · have HZ := Lib.hid hz
      have t1 : ((bs.length : Int) == 0) = true := by simp at hz ⊢; exact hz
      clear h hz
      go_enter Tryd.func64, Tryd.ntmps64
      go_wp2_with (go_at_call 97; refine HG.out.mono ?_; rintro e w1 ⟨rfl, rfl⟩)
      go_ret
      exact ⟨by rw [← HD.out, HZ.out]; rfl, rfl⟩
end Go.Proofs.YtdffldlcbihjmaaDoor
