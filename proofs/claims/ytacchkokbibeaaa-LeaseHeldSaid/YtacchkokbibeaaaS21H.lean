/- Stage 21: LeaseHeld: as long as a lease is held, the floor is not above it; its number is told no other one: for every list of stamps and times. -/
import Derived.Test.YtacchkokbibeaaaLsExp2
import Derived.Test.YtacchkokbibeaaaLsFull
import Derived.Test.YtacchkokbibeaaaRef10Cmp
import Derived.Test.YtacchkokbibeaaaStampArg
set_option linter.unusedSimpArgs false
set_option linter.unusedVariables false
namespace Go.Proofs.Ytacchkokbibeaaa
open Go.ChangeShapes Go.WideShapes Go.ChangeAt Go.RowKit Go.Joins

theorem cmp1_cases (a b : Int) : (a < b ∧ cmp1 a b = -1) ∨ (a = b ∧ cmp1 a b = 0) ∨ (b < a ∧ cmp1 a b = 1) := by
  unfold cmp1
  rcases (show a < b ∨ a = b ∨ b < a from by omega) with h | h | h
  · exact .inl ⟨h, by rw [if_pos h]⟩
  · exact .inr (.inl ⟨h, by rw [if_neg (by omega), if_neg (by omega)]⟩)
  · exact .inr (.inr ⟨h, by rw [if_neg (by omega), if_pos h]⟩)
theorem cmp2_le {m c p q : Int} : cmp2 m c p q ≤ 0 ↔ m < p ∨ (m = p ∧ c ≤ q) := by
  unfold cmp2 or2
  rcases cmp1_cases m p with ⟨h, e⟩ | ⟨h, e⟩ | ⟨h, e⟩ <;> rw [e] <;> rcases cmp1_cases c q with ⟨k, f⟩ | ⟨k, f⟩ | ⟨k, f⟩ <;> rw [f] <;> simp <;> omega
theorem cmp2_lt {m c p q : Int} : cmp2 m c p q < 0 ↔ m < p ∨ (m = p ∧ c < q) := by
  unfold cmp2 or2
  rcases cmp1_cases m p with ⟨h, e⟩ | ⟨h, e⟩ | ⟨h, e⟩ <;> rw [e] <;> rcases cmp1_cases c q with ⟨k, f⟩ | ⟨k, f⟩ | ⟨k, f⟩ <;> rw [f] <;> simp <;> omega
theorem flo_le : ∀ (L : List Le) (p : Int × Int), cmp2 (flo L p).1 (flo L p).2 p.1 p.2 ≤ 0 ∧ ∀ x ∈ L, cmp2 (flo L p).1 (flo L p).2 x.m x.c ≤ 0
  | [], p => ⟨cmp2_le.2 (.inr ⟨rfl, Int.le_refl _⟩), fun x h => by cases h⟩
  | a :: t, p => by
    obtain ⟨h1, h2⟩ := flo_le t (if cmp2 a.m a.c p.1 p.2 < 0 then (a.m, a.c) else p)
    show cmp2 (flo t (if cmp2 a.m a.c p.1 p.2 < 0 then (a.m, a.c) else p)).1 (flo t (if cmp2 a.m a.c p.1 p.2 < 0 then (a.m, a.c) else p)).2 p.1 p.2 ≤ 0 ∧ ∀ x ∈ a :: t, cmp2 (flo t (if cmp2 a.m a.c p.1 p.2 < 0 then (a.m, a.c) else p)).1 (flo t (if cmp2 a.m a.c p.1 p.2 < 0 then (a.m, a.c) else p)).2 x.m x.c ≤ 0
    generalize flo t (if cmp2 a.m a.c p.1 p.2 < 0 then (a.m, a.c) else p) = r at *
    by_cases hc : cmp2 a.m a.c p.1 p.2 < 0
    · rw [if_pos hc] at h1
      have h3 := cmp2_le.1 h1
      have h4 := cmp2_lt.1 hc
      simp only at h3
      refine ⟨cmp2_le.2 (by omega), fun x hx => ?_⟩
      rcases List.mem_cons.1 hx with rfl | hx
      · exact h1
      · exact h2 x hx
    · rw [if_neg hc] at h1
      have h3 := cmp2_le.1 h1
      have h4 : ¬ (a.m < p.1 ∨ (a.m = p.1 ∧ a.c < p.2)) := fun h => hc (cmp2_lt.2 h)
      refine ⟨h1, fun x hx => ?_⟩
      rcases List.mem_cons.1 hx with rfl | hx
      · exact cmp2_le.2 (by omega)
      · exact h2 x hx
/-- The last lease is found where it was laid. -/
theorem find_last {L : List Le} {nx m c u : Int} (hb : ∀ y ∈ L, y.id < nx) : FindAns (L ++ [⟨nx, m, c, u⟩]) nx L.length true ∧ (L ++ [⟨nx, m, c, u⟩])[L.length]? = some (⟨nx, m, c, u⟩ : Le) := by
  have hl : (L ++ [(⟨nx, m, c, u⟩ : Le)])[L.length]? = some ⟨nx, m, c, u⟩ := by simp
  refine ⟨⟨⟨by simp, fun j x hj hx => ?_, fun j x hj hx => ?_⟩, fun _ => ⟨_, hl, rfl⟩, fun h => by cases h⟩, hl⟩
  · rw [List.getElem?_append_left hj] at hx
    exact hb x (List.mem_of_getElem? hx)
  · have hj2 := (List.getElem?_eq_some_iff.1 hx).1
    simp at hj2
    obtain rfl : j = L.length := by omega
    rw [hl] at hx
    injection hx with e
    subst e
    exact Int.le_refl _
/-- What the loop keeps: the box of 'or', the leases. -/
structure HeldRel (w0 : World) (p q : Int) (n : Int) (k : Nat) (wr : World) : Prop where
  ex : ∃ v L, Ls wr (w0.heap.size + 1) v L n ∧ n = (L.length : Int) ∧ L.length ≤ k ∧ (∀ y ∈ L, y.id < n) ∧ (∀ i, v.ownBlock = some i → w0.heap.size + 1 < i)
  bx : Ints2 wr w0.heap.size p q
  hb : Below w0.heap.size w0 wr
theorem HeldRel.below {w0 : World} {p q n : Int} {k : Nat} {w w' : World} (h : HeldRel w0 p q n k w) (hb : Below w.heap.size w w') : HeldRel w0 p q n (k + 1) w' := by
  obtain ⟨⟨v, L, h1, h2, h3, h4, h5⟩, h6, h7⟩ := h
  exact ⟨⟨v, L, h1.below hb, h2, by omega, h4, h5⟩, h6.below hb h6.lt, h7.trans (hb.mono h7.size)⟩
theorem HeldRel.same {w0 : World} {p q n : Int} {k : Nat} {w w' : World} (h : HeldRel w0 p q n k w) (hb : Below w.heap.size w w') : HeldRel w0 p q n k w' := by
  obtain ⟨⟨v, L, h1, h2, h3, h4, h5⟩, h6, h7⟩ := h
  exact ⟨⟨v, L, h1.below hb, h2, h3, h4, h5⟩, h6.below hb h6.lt, h7.trans (hb.mono h7.size)⟩
set_option maxHeartbeats 1000000 in
theorem held_long (A A' : Option Addr) (n c n' c' : Nat) (now p q : Int) (w : World) (h : 64 < n) :
    Calls Try.prog 4 #[.slice A n c, .slice A' n' c', .int .i64 now, .agg #[.int .i64 p, .int .i64 q]] w fun e w' => e = .returned (.bool true) ∧ Below w.heap.size w w' := by
  have k1 : decide ((64 : Int) < (n : Int)) = true := by simp only [decide_eq_true_eq]; omega
  clear h
  go_enter Try.func4, Try.ntmps4
  go_wp2
  go_ret
  go_light
  exact ⟨rfl, by (repeat' (first | (with_reducible exact Below.refl _ _) | (with_reducible assumption) | (with_reducible refine Below.trans ?_ (Below.mono (by with_reducible assumption) ?_)) | (with_reducible refine Below.alloc ?_ ?_ _) | (with_reducible refine Below.setCell ?_ ?_ _) | (with_reducible refine below_drewN ?_ _) | (with_reducible refine Below.drew ?_) | go_size))⟩
set_option maxRecDepth 100000 in
set_option maxHeartbeats 16000000 in
theorem held_in (A A' : Option Addr) (n c n' c' : Nat) (now p q : Int) (z t : Nat → Int) (w : World) (hz : FlatAt w A 2 n z) (ht : IntsAt w A' n' t) (hn : n ≤ 64) (hn' : n' ≤ maxLen) :
    Calls Try.prog 4 #[.slice A n c, .slice A' n' c', .int .i64 now, .agg #[.int .i64 p, .int .i64 q]] w fun e w' => e = .returned (.bool true) ∧ Below w.heap.size w w' := by
  have k1 : decide ((64 : Int) < (n : Int)) = false := by simp only [decide_eq_false_iff_not]; omega
  have HZ := Lib.hid hz
  have HT := Lib.hid ht
  have hn64 : (n : Int) ≤ 64 := by omega
  have hnl : (n' : Int) ≤ 9223372036854775807 := by unfold maxLen at hn'; omega
  have R0 : Hid (HeldRel w p q 0 0 ((w.alloc (.cells #[.int .i64 p, .int .i64 q] 30)).alloc (.cells #[.slice none 0 0, .int .i64 0] 60))) := by
    refine ⟨⟨.slice none 0 0, [], ?_, rfl, Nat.le_refl _, fun y h => (by cases h), fun i h => (by simp [Value.ownBlock] at h)⟩, (Ints2.new w p q 30).alloc _, by (repeat' (first | (with_reducible exact Below.refl _ _) | (with_reducible assumption) | (with_reducible refine Below.trans ?_ (Below.mono (by with_reducible assumption) ?_)) | (with_reducible refine Below.alloc ?_ ?_ _) | (with_reducible refine Below.setCell ?_ ?_ _) | (with_reducible refine below_drewN ?_ _) | (with_reducible refine Below.drew ?_) | go_size))⟩
    have h := ls_new (w.alloc (.cells #[.int .i64 p, .int .i64 q] 30))
    rwa [World.size_alloc] at h
  clear hz ht hn hn'
  go_enter Try.func4, Try.ntmps4
  go_wp2_with fail
  refine (lease_new _).mono ?_; rintro e w' ⟨rfl, rfl⟩
  go_wp2_with fail
  go_loopw [10, 11] (fun s i wr => ∃ (k : Nat) (r : Int), k ≤ n ∧ i = .int .i64 k ∧ s = .int .i64 r ∧ HeldRel w p q r k wr) (fun _ i _ => n - (intOf i).toNat)
  case atStart => exact ⟨0, 0, Nat.zero_le _, rfl, rfl, R0.out⟩
  case round =>
    obtain ⟨k, r, hk, rfl, rfl, hr⟩ := hrel
    clear R0
    have HR := Lib.hid hr
    obtain ⟨⟨v, L, hls, hrl, hlk, hid, hvb⟩, hbx, hb⟩ := hr
    by_cases hlt : k < n
    · obtain ⟨B, O, rfl, lB, hc⟩ := HZ.out (by omega)
      have c0 := (hb.cell (p := ⟨B, O + k * 2, none⟩) lB).trans (hc (k * 2) (by omega)).1
      have c1 := (hb.cell (p := ⟨B, O + k * 2 + 1, none⟩) lB).trans (hc (k * 2 + 1) (by omega)).1
      have lBr := Nat.lt_of_lt_of_le lB hb.size
      generalize z (k * 2) = m at *
      generalize z (k * 2 + 1) = cc at *
      clear hc
      -- the time
      have hlsz := Lib.hid hls.lt
      by_cases hkt : k < n'
      · obtain ⟨B', O', rfl, lB', hc'⟩ := HT.out (by omega)
        have d0 := (hb.cell (p := ⟨B', O' + k, none⟩) lB').trans (hc' k hkt).1
        have u0 := (hc' k hkt).2
        generalize t k = u at *
        clear hc'
        by_cases hs : isStampB m cc = true
        · by_cases hu : u < 0
          · have tu : decide (u < 0) = true := decide_eq_true hu
            have hdone := hs
            have HO := Lib.hid (ls_open_bad (.pointer (some ⟨w.heap.size + 1, 0, none⟩)) m cc u wr ⟨_, rfl⟩ (.inr ⟨hs, hu⟩))
            clear hls hid hvb hbx hrl
            go_wp2_with fail
            refine HO.out.mono ?_; rintro e w1 ⟨rfl, hb1⟩
            have e0 := (hb1.cell (p := ⟨B, O + k * 2, none⟩) lBr).trans c0
            have e1 := (hb1.cell (p := ⟨B, O + k * 2 + 1, none⟩) lBr).trans c1
            clear c0 c1
            go_wp2_with fail
            refine (ref10_is m cc _).mono ?_; rw [hs]; rintro e w2 ⟨rfl, hb2⟩
            have HR2 := Lib.hid (HR.out.below (hb1.trans (hb2.mono hb1.size)))
            clear hb1 hb2 e0 e1 hb
            go_wp2
            go_roundw
            case rel => exact ⟨k + 1, r, by omega, by go_num, rfl, HR2.out⟩
            case measure => simp [intOf]; omega
          · have tu : decide (u < 0) = false := decide_eq_false hu
            by_cases hnow : u ≤ now
            · obtain ⟨hfa, hat⟩ := find_last (L := L) (nx := r) (m := m) (c := cc) (u := u) hid
              have hr0 : 0 ≤ r := by omega
              have hw : IntKind.i64.wrap (r + 1) = r + 1 := IntWalk.i64_in _ (by omega)
              have HO := Lib.hid (ls_open (w.heap.size + 1) v L r m cc u wr hls hs (by omega) (by omega) (by omega) (by omega))
              have HF := Lib.hid hfa
              have HAT := Lib.hid hat
              have HID := Lib.hid hid
              have HVB := Lib.hid hvb
              have HRL := Lib.hid hrl
              have hll : (L ++ [(⟨r, m, cc, u⟩ : Le)]).length ≤ 1000 := by simp; omega
              have HBX := Lib.hid hbx
              have HFL := Lib.hid ((flo_le (L ++ [⟨r, m, cc, u⟩]) (p, q)).2 ⟨r, m, cc, u⟩ (by simp))
              clear hls hid hvb hbx hfa hat hrl
              go_wp2_with fail
              refine HO.out.mono ?_; rintro e w1 ⟨rfl, v1, hl1, hbt1, hfr1⟩
              have hfB : ¬ Foot (w.heap.size + 1) v B := by
                rintro (h | h)
                · omega
                · have := HVB.out _ h; omega
              have hf0 : ¬ Foot (w.heap.size + 1) v w.heap.size := by
                rintro (h | h)
                · omega
                · have := HVB.out _ h; omega
              have e0 := (hbt1.cell B (O + k * 2) lBr hfB).trans c0
              have e1 := (hbt1.cell B (O + k * 2 + 1) lBr hfB).trans c1
              have lB1 := Nat.lt_of_lt_of_le lBr hbt1.size
              have hbx1 : Ints2 w1 w.heap.size p q := ⟨(hbt1.cell _ 0 HBX.out.lt hf0).trans HBX.out.c0, (hbt1.cell _ 1 HBX.out.lt hf0).trans HBX.out.c1, (hbt1.frozen _ 0 HBX.out.lt hf0).trans HBX.out.f0, (hbt1.frozen _ 1 HBX.out.lt hf0).trans HBX.out.f1, Nat.lt_of_lt_of_le HBX.out.lt hbt1.size⟩
              have HR1 : Hid (HeldRel w p q (r + 1) (k + 1) w1) := by
                refine ⟨⟨v1, _, hl1, ?_, ?_, ?_, ?_⟩, hbx1, hb.trans (hbt1.below (fun i hi => ?_) hb.size)⟩
                · have := HRL.out; simp; omega
                · simp; omega
                · intro y hy
                  rcases List.mem_append.1 hy with h | h
                  · have := HID.out y h; omega
                  · simp at h; subst h; show r < r + 1; omega
                · intro i hi
                  rcases hfr1 i hi with h | h
                  · exact HVB.out i h
                  · have := HBX.out.lt; have := hlsz.out; omega
                · rcases hi with rfl | hi
                  · omega
                  · have := HVB.out i hi; omega
              have HL1 := Lib.hid hl1
              have HB1 := HR1.out.hb
              clear c0 c1 hl1 hbt1 hfr1 hfB hf0 hb
              go_wp2_with fail
              refine (ref10_is m cc _).mono ?_; rw [hs]; rintro e w2 ⟨rfl, hb2⟩
              have HL2 := Lib.hid (HL1.out.below hb2)
              have HR2 := Lib.hid (hb2)
              have e0 := (hb2.cell (p := ⟨B, O + k * 2, none⟩) lB1).trans e0
              have e1 := (hb2.cell (p := ⟨B, O + k * 2 + 1, none⟩) lB1).trans e1
              have lB2 := Nat.lt_of_lt_of_le lB1 hb2.size
              have hbx2 := hbx1.below hb2 hbx1.lt
              clear hb2 hbx1 HB1
              go_wp2_with fail
              have t9 : decide (u ≤ now) = true := by simp only [decide_eq_true_eq]; omega
              refine (ls_At_old (w.heap.size + 1) v1 _ (r + 1) r now L.length ⟨r, m, cc, u⟩ w2 HL2.out hll HF.out HAT.out (by show u ≤ now; omega)).mono ?_; rintro e w3 ⟨rfl, hb3⟩
              have HR3 : Hid (HeldRel w p q (r + 1) (k + 1) (w3.alloc (.cells #[.int .i64 0, .int .i64 0] 30))) := by
                have hbb := (HR2.out.trans (hb3.mono HR2.out.size)).trans ((show Below w3.heap.size w3 (w3.alloc (.cells #[.int .i64 0, .int .i64 0] 30)) from (by (repeat' (first | (with_reducible exact Below.refl _ _) | (with_reducible assumption) | (with_reducible refine Below.trans ?_ (Below.mono (by with_reducible assumption) ?_)) | (with_reducible refine Below.alloc ?_ ?_ _) | (with_reducible refine Below.setCell ?_ ?_ _) | (with_reducible refine below_drewN ?_ _) | (with_reducible refine Below.drew ?_) | go_size)))).mono (HR2.out.trans (hb3.mono HR2.out.size)).size)
                obtain ⟨⟨v', L', a1, a2, a3, a4, a5⟩, a6, a7⟩ := HR1.out
                exact ⟨⟨v', L', a1.below hbb, a2, a3, a4, a5⟩, a6.below hbb a6.lt, a7.trans (hbb.mono a7.size)⟩
              clear hb3 e0 e1 hbx2
              go_wp2
              go_roundw
              case rel => exact ⟨k + 1, r + 1, by omega, by go_num, rfl, HR3.out⟩
              case measure => simp [intOf]; omega
            · obtain ⟨hfa, hat⟩ := find_last (L := L) (nx := r) (m := m) (c := cc) (u := u) hid
              have hr0 : 0 ≤ r := by omega
              have hw : IntKind.i64.wrap (r + 1) = r + 1 := IntWalk.i64_in _ (by omega)
              have HO := Lib.hid (ls_open (w.heap.size + 1) v L r m cc u wr hls hs (by omega) (by omega) (by omega) (by omega))
              have HF := Lib.hid hfa
              have HAT := Lib.hid hat
              have HID := Lib.hid hid
              have HVB := Lib.hid hvb
              have HRL := Lib.hid hrl
              have hll : (L ++ [(⟨r, m, cc, u⟩ : Le)]).length ≤ 1000 := by simp; omega
              have HBX := Lib.hid hbx
              have HFL := Lib.hid ((flo_le (L ++ [⟨r, m, cc, u⟩]) (p, q)).2 ⟨r, m, cc, u⟩ (by simp))
              clear hls hid hvb hbx hfa hat hrl
              go_wp2_with fail
              refine HO.out.mono ?_; rintro e w1 ⟨rfl, v1, hl1, hbt1, hfr1⟩
              have hfB : ¬ Foot (w.heap.size + 1) v B := by
                rintro (h | h)
                · omega
                · have := HVB.out _ h; omega
              have hf0 : ¬ Foot (w.heap.size + 1) v w.heap.size := by
                rintro (h | h)
                · omega
                · have := HVB.out _ h; omega
              have e0 := (hbt1.cell B (O + k * 2) lBr hfB).trans c0
              have e1 := (hbt1.cell B (O + k * 2 + 1) lBr hfB).trans c1
              have lB1 := Nat.lt_of_lt_of_le lBr hbt1.size
              have hbx1 : Ints2 w1 w.heap.size p q := ⟨(hbt1.cell _ 0 HBX.out.lt hf0).trans HBX.out.c0, (hbt1.cell _ 1 HBX.out.lt hf0).trans HBX.out.c1, (hbt1.frozen _ 0 HBX.out.lt hf0).trans HBX.out.f0, (hbt1.frozen _ 1 HBX.out.lt hf0).trans HBX.out.f1, Nat.lt_of_lt_of_le HBX.out.lt hbt1.size⟩
              have HR1 : Hid (HeldRel w p q (r + 1) (k + 1) w1) := by
                refine ⟨⟨v1, _, hl1, ?_, ?_, ?_, ?_⟩, hbx1, hb.trans (hbt1.below (fun i hi => ?_) hb.size)⟩
                · have := HRL.out; simp; omega
                · simp; omega
                · intro y hy
                  rcases List.mem_append.1 hy with h | h
                  · have := HID.out y h; omega
                  · simp at h; subst h; show r < r + 1; omega
                · intro i hi
                  rcases hfr1 i hi with h | h
                  · exact HVB.out i h
                  · have := HBX.out.lt; have := hlsz.out; omega
                · rcases hi with rfl | hi
                  · omega
                  · have := HVB.out i hi; omega
              have HL1 := Lib.hid hl1
              have HB1 := HR1.out.hb
              clear c0 c1 hl1 hbt1 hfr1 hfB hf0 hb
              go_wp2_with fail
              refine (ref10_is m cc _).mono ?_; rw [hs]; rintro e w2 ⟨rfl, hb2⟩
              have HL2 := Lib.hid (HL1.out.below hb2)
              have HR2 := Lib.hid (hb2)
              have e0 := (hb2.cell (p := ⟨B, O + k * 2, none⟩) lB1).trans e0
              have e1 := (hb2.cell (p := ⟨B, O + k * 2 + 1, none⟩) lB1).trans e1
              have lB2 := Nat.lt_of_lt_of_le lB1 hb2.size
              have hbx2 := hbx1.below hb2 hbx1.lt
              clear hb2 hbx1 HB1
              go_wp2_with fail
              have t9 : decide (u ≤ now) = false := by simp only [decide_eq_false_iff_not]; omega
              refine (ls_At_ok (w.heap.size + 1) v1 _ (r + 1) r now L.length ⟨r, m, cc, u⟩ w2 HL2.out hll HF.out HAT.out (by show now < u; omega)).mono ?_; rintro e w3 ⟨rfl, hb3⟩
              have B3 : Below w3.heap.size w3 (w3.alloc (.cells #[.int .i64 m, .int .i64 cc] 30)) := by (repeat' (first | (with_reducible exact Below.refl _ _) | (with_reducible assumption) | (with_reducible refine Below.trans ?_ (Below.mono (by with_reducible assumption) ?_)) | (with_reducible refine Below.alloc ?_ ?_ _) | (with_reducible refine Below.setCell ?_ ?_ _) | (with_reducible refine below_drewN ?_ _) | (with_reducible refine Below.drew ?_) | go_size))
              have hb34 := hb3.trans (B3.mono hb3.size)
              have HL4 := Lib.hid (HL2.out.below hb34)
              have HB24 := HR2.out.trans (hb34.mono HR2.out.size)
              have HR4 : Hid (HeldRel w p q (r + 1) (k + 1) (w3.alloc (.cells #[.int .i64 m, .int .i64 cc] 30))) := by
                obtain ⟨⟨v', L', a1, a2, a3, a4, a5⟩, a6, a7⟩ := HR1.out
                exact ⟨⟨v', L', a1.below HB24, a2, a3, a4, a5⟩, a6.below HB24 a6.lt, a7.trans (HB24.mono a7.size)⟩
              have hbx4 := hbx2.below hb34 hbx2.lt
              obtain ⟨g0, g1, _, _, lg⟩ := hbx4
              have e0 := (hb34.cell (p := ⟨B, O + k * 2, none⟩) lB2).trans e0
              have e1 := (hb34.cell (p := ⟨B, O + k * 2 + 1, none⟩) lB2).trans e1
              have lB4 := Nat.lt_of_lt_of_le lB2 hb34.size
              have s0 : (w3.alloc (.cells #[.int .i64 m, .int .i64 cc] 30)).cell? ⟨w3.heap.size, 0, none⟩ = some (.int .i64 m) := by simp
              have s1 : (w3.alloc (.cells #[.int .i64 m, .int .i64 cc] 30)).cell? ⟨w3.heap.size, 1, none⟩ = some (.int .i64 cc) := by simp
              have ls : w3.heap.size < (w3.alloc (.cells #[.int .i64 m, .int .i64 cc] 30)).heap.size := by simp
              clear hb3 B3 hb34 HB24 hbx2
              go_wp2_with fail
              generalize w3.alloc (.cells #[.int .i64 m, .int .i64 cc] 30) = w4 at *
              have hfl := HFL.out
              generalize hflo : flo (L ++ [(⟨r, m, cc, u⟩ : Le)]) (p, q) = F at *
              obtain ⟨F1, F2⟩ := F
              have HFLO := Lib.hid hflo
              have hfl' : cmp2 F1 F2 m cc ≤ 0 := hfl
              have tt : decide (0 < cmp2 F1 F2 m cc) = false := by simp only [decide_eq_false_iff_not]; omega
              clear hflo hfl HFL
              go_region_held3 (fun w' => w'.cell? ⟨w.heap.size, 0, none⟩ = some (.int .i64 p) ∧ w'.cell? ⟨w.heap.size, 1, none⟩ = some (.int .i64 q) ∧ w'.cell? ⟨w3.heap.size, 0, none⟩ = some (.int .i64 m) ∧ w'.cell? ⟨w3.heap.size, 1, none⟩ = some (.int .i64 cc) ∧ w'.cell? ⟨B, O + k * 2, none⟩ = some (.int .i64 m) ∧ w'.cell? ⟨B, O + k * 2 + 1, none⟩ = some (.int .i64 cc)) (exact ⟨g0, g1, s0, s1, e0, e1⟩)
                (first
                  | (go_at_call 21; refine (ls_floor (w.heap.size + 1) v1 _ (r + 1) p q _ (HL4.out.below (by (repeat' (first | (with_reducible exact Below.refl _ _) | (with_reducible assumption) | (with_reducible refine Below.trans ?_ (Below.mono (by with_reducible assumption) ?_)) | (with_reducible refine Below.alloc ?_ ?_ _) | (with_reducible refine Below.setCell ?_ ?_ _) | (with_reducible refine below_drewN ?_ _) | (with_reducible refine Below.drew ?_) | go_size)))) hll).mono ?_; rw [HFLO.out]; rintro e w5 ⟨rfl, hb5⟩; have g0 := (hb5.cell (p := ⟨w.heap.size, 0, none⟩) lg).trans g0; have g1 := (hb5.cell (p := ⟨w.heap.size, 1, none⟩) lg).trans g1; have s0 := (hb5.cell (p := ⟨w3.heap.size, 0, none⟩) ls).trans s0; have s1 := (hb5.cell (p := ⟨w3.heap.size, 1, none⟩) ls).trans s1; have e0 := (hb5.cell (p := ⟨B, O + k * 2, none⟩) lB4).trans e0; have e1 := (hb5.cell (p := ⟨B, O + k * 2 + 1, none⟩) lB4).trans e1; have lg := Nat.lt_of_lt_of_le lg hb5.size; have ls := Nat.lt_of_lt_of_le ls hb5.size; have lB4 := Nat.lt_of_lt_of_le lB4 hb5.size; have HX : Below w4.heap.size w4 w5 := Below.trans (by (repeat' (first | (with_reducible exact Below.refl _ _) | (with_reducible assumption) | (with_reducible refine Below.trans ?_ (Below.mono (by with_reducible assumption) ?_)) | (with_reducible refine Below.alloc ?_ ?_ _) | (with_reducible refine Below.setCell ?_ ?_ _) | (with_reducible refine below_drewN ?_ _) | (with_reducible refine Below.drew ?_) | go_size))) (hb5.mono (Below.size (show Below w4.heap.size w4 _ from (by (repeat' (first | (with_reducible exact Below.refl _ _) | (with_reducible assumption) | (with_reducible refine Below.trans ?_ (Below.mono (by with_reducible assumption) ?_)) | (with_reducible refine Below.alloc ?_ ?_ _) | (with_reducible refine Below.setCell ?_ ?_ _) | (with_reducible refine below_drewN ?_ _) | (with_reducible refine Below.drew ?_) | go_size)))))))
                  | (go_at_call 25; refine (ref10_compare F1 F2 m cc _).mono ?_; rintro e w5 ⟨rfl, hb5⟩; have g0 := (hb5.cell (p := ⟨w.heap.size, 0, none⟩) lg).trans g0; have g1 := (hb5.cell (p := ⟨w.heap.size, 1, none⟩) lg).trans g1; have s0 := (hb5.cell (p := ⟨w3.heap.size, 0, none⟩) ls).trans s0; have s1 := (hb5.cell (p := ⟨w3.heap.size, 1, none⟩) ls).trans s1; have e0 := (hb5.cell (p := ⟨B, O + k * 2, none⟩) lB4).trans e0; have e1 := (hb5.cell (p := ⟨B, O + k * 2 + 1, none⟩) lB4).trans e1; have lg := Nat.lt_of_lt_of_le lg hb5.size; have ls := Nat.lt_of_lt_of_le ls hb5.size; have lB4 := Nat.lt_of_lt_of_le lB4 hb5.size; have HX : Below w4.heap.size w4 w5 := Below.trans (by (repeat' (first | (with_reducible exact Below.refl _ _) | (with_reducible assumption) | (with_reducible refine Below.trans ?_ (Below.mono (by with_reducible assumption) ?_)) | (with_reducible refine Below.alloc ?_ ?_ _) | (with_reducible refine Below.setCell ?_ ?_ _) | (with_reducible refine below_drewN ?_ _) | (with_reducible refine Below.drew ?_) | go_size))) (hb5.mono (Below.size (show Below w4.heap.size w4 _ from (by (repeat' (first | (with_reducible exact Below.refl _ _) | (with_reducible assumption) | (with_reducible refine Below.trans ?_ (Below.mono (by with_reducible assumption) ?_)) | (with_reducible refine Below.alloc ?_ ?_ _) | (with_reducible refine Below.setCell ?_ ?_ _) | (with_reducible refine below_drewN ?_ _) | (with_reducible refine Below.drew ?_) | go_size))))))))
              go_wp2
              go_roundw
              case rel => exact ⟨k + 1, r + 1, by omega, by go_num, rfl, HR4.out.same HX⟩
              case measure => simp [intOf]; omega
        · have hs : isStampB m cc = false := by simpa using hs
          have hdone := hs
          have HO := Lib.hid (ls_open_bad (.pointer (some ⟨w.heap.size + 1, 0, none⟩)) m cc u wr ⟨_, rfl⟩ (.inl hs))
          clear hls hid hvb hbx hrl
          go_wp2_with fail
          refine HO.out.mono ?_; rintro e w1 ⟨rfl, hb1⟩
          have e0 := (hb1.cell (p := ⟨B, O + k * 2, none⟩) lBr).trans c0
          have e1 := (hb1.cell (p := ⟨B, O + k * 2 + 1, none⟩) lBr).trans c1
          clear c0 c1
          go_wp2_with fail
          refine (ref10_is m cc _).mono ?_; rw [hs]; rintro e w2 ⟨rfl, hb2⟩
          have HR2 := Lib.hid (HR.out.below (hb1.trans (hb2.mono hb1.size)))
          clear hb1 hb2 e0 e1 hb
          go_wp2
          go_roundw
          case rel => exact ⟨k + 1, r, by omega, by go_num, rfl, HR2.out⟩
          case measure => simp [intOf]; omega
      · by_cases hs : isStampB m cc = true
        · by_cases hu : (5 : Int) < 0
          · have tu : decide ((5 : Int) < 0) = true := decide_eq_true hu
            have hdone := hs
            have HO := Lib.hid (ls_open_bad (.pointer (some ⟨w.heap.size + 1, 0, none⟩)) m cc (5 : Int) wr ⟨_, rfl⟩ (.inr ⟨hs, hu⟩))
            clear hls hid hvb hbx hrl
            go_wp2_with fail
            refine HO.out.mono ?_; rintro e w1 ⟨rfl, hb1⟩
            have e0 := (hb1.cell (p := ⟨B, O + k * 2, none⟩) lBr).trans c0
            have e1 := (hb1.cell (p := ⟨B, O + k * 2 + 1, none⟩) lBr).trans c1
            clear c0 c1
            go_wp2_with fail
            refine (ref10_is m cc _).mono ?_; rw [hs]; rintro e w2 ⟨rfl, hb2⟩
            have HR2 := Lib.hid (HR.out.below (hb1.trans (hb2.mono hb1.size)))
            clear hb1 hb2 e0 e1 hb
            go_wp2
            go_roundw
            case rel => exact ⟨k + 1, r, by omega, by go_num, rfl, HR2.out⟩
            case measure => simp [intOf]; omega
          · have tu : decide ((5 : Int) < 0) = false := decide_eq_false hu
            by_cases hnow : (5 : Int) ≤ now
            · obtain ⟨hfa, hat⟩ := find_last (L := L) (nx := r) (m := m) (c := cc) (u := (5 : Int)) hid
              have hr0 : 0 ≤ r := by omega
              have hw : IntKind.i64.wrap (r + 1) = r + 1 := IntWalk.i64_in _ (by omega)
              have HO := Lib.hid (ls_open (w.heap.size + 1) v L r m cc (5 : Int) wr hls hs (by omega) (by omega) (by omega) (by omega))
              have HF := Lib.hid hfa
              have HAT := Lib.hid hat
              have HID := Lib.hid hid
              have HVB := Lib.hid hvb
              have HRL := Lib.hid hrl
              have hll : (L ++ [(⟨r, m, cc, (5 : Int)⟩ : Le)]).length ≤ 1000 := by simp; omega
              have HBX := Lib.hid hbx
              have HFL := Lib.hid ((flo_le (L ++ [⟨r, m, cc, (5 : Int)⟩]) (p, q)).2 ⟨r, m, cc, (5 : Int)⟩ (by simp))
              clear hls hid hvb hbx hfa hat hrl
              go_wp2_with fail
              refine HO.out.mono ?_; rintro e w1 ⟨rfl, v1, hl1, hbt1, hfr1⟩
              have hfB : ¬ Foot (w.heap.size + 1) v B := by
                rintro (h | h)
                · omega
                · have := HVB.out _ h; omega
              have hf0 : ¬ Foot (w.heap.size + 1) v w.heap.size := by
                rintro (h | h)
                · omega
                · have := HVB.out _ h; omega
              have e0 := (hbt1.cell B (O + k * 2) lBr hfB).trans c0
              have e1 := (hbt1.cell B (O + k * 2 + 1) lBr hfB).trans c1
              have lB1 := Nat.lt_of_lt_of_le lBr hbt1.size
              have hbx1 : Ints2 w1 w.heap.size p q := ⟨(hbt1.cell _ 0 HBX.out.lt hf0).trans HBX.out.c0, (hbt1.cell _ 1 HBX.out.lt hf0).trans HBX.out.c1, (hbt1.frozen _ 0 HBX.out.lt hf0).trans HBX.out.f0, (hbt1.frozen _ 1 HBX.out.lt hf0).trans HBX.out.f1, Nat.lt_of_lt_of_le HBX.out.lt hbt1.size⟩
              have HR1 : Hid (HeldRel w p q (r + 1) (k + 1) w1) := by
                refine ⟨⟨v1, _, hl1, ?_, ?_, ?_, ?_⟩, hbx1, hb.trans (hbt1.below (fun i hi => ?_) hb.size)⟩
                · have := HRL.out; simp; omega
                · simp; omega
                · intro y hy
                  rcases List.mem_append.1 hy with h | h
                  · have := HID.out y h; omega
                  · simp at h; subst h; show r < r + 1; omega
                · intro i hi
                  rcases hfr1 i hi with h | h
                  · exact HVB.out i h
                  · have := HBX.out.lt; have := hlsz.out; omega
                · rcases hi with rfl | hi
                  · omega
                  · have := HVB.out i hi; omega
              have HL1 := Lib.hid hl1
              have HB1 := HR1.out.hb
              clear c0 c1 hl1 hbt1 hfr1 hfB hf0 hb
              go_wp2_with fail
              refine (ref10_is m cc _).mono ?_; rw [hs]; rintro e w2 ⟨rfl, hb2⟩
              have HL2 := Lib.hid (HL1.out.below hb2)
              have HR2 := Lib.hid (hb2)
              have e0 := (hb2.cell (p := ⟨B, O + k * 2, none⟩) lB1).trans e0
              have e1 := (hb2.cell (p := ⟨B, O + k * 2 + 1, none⟩) lB1).trans e1
              have lB2 := Nat.lt_of_lt_of_le lB1 hb2.size
              have hbx2 := hbx1.below hb2 hbx1.lt
              clear hb2 hbx1 HB1
              go_wp2_with fail
              have t9 : decide ((5 : Int) ≤ now) = true := by simp only [decide_eq_true_eq]; omega
              refine (ls_At_old (w.heap.size + 1) v1 _ (r + 1) r now L.length ⟨r, m, cc, (5 : Int)⟩ w2 HL2.out hll HF.out HAT.out (by show (5 : Int) ≤ now; omega)).mono ?_; rintro e w3 ⟨rfl, hb3⟩
              have HR3 : Hid (HeldRel w p q (r + 1) (k + 1) (w3.alloc (.cells #[.int .i64 0, .int .i64 0] 30))) := by
                have hbb := (HR2.out.trans (hb3.mono HR2.out.size)).trans ((show Below w3.heap.size w3 (w3.alloc (.cells #[.int .i64 0, .int .i64 0] 30)) from (by (repeat' (first | (with_reducible exact Below.refl _ _) | (with_reducible assumption) | (with_reducible refine Below.trans ?_ (Below.mono (by with_reducible assumption) ?_)) | (with_reducible refine Below.alloc ?_ ?_ _) | (with_reducible refine Below.setCell ?_ ?_ _) | (with_reducible refine below_drewN ?_ _) | (with_reducible refine Below.drew ?_) | go_size)))).mono (HR2.out.trans (hb3.mono HR2.out.size)).size)
                obtain ⟨⟨v', L', a1, a2, a3, a4, a5⟩, a6, a7⟩ := HR1.out
                exact ⟨⟨v', L', a1.below hbb, a2, a3, a4, a5⟩, a6.below hbb a6.lt, a7.trans (hbb.mono a7.size)⟩
              clear hb3 e0 e1 hbx2
              go_wp2
              go_roundw
              case rel => exact ⟨k + 1, r + 1, by omega, by go_num, rfl, HR3.out⟩
              case measure => simp [intOf]; omega
            · obtain ⟨hfa, hat⟩ := find_last (L := L) (nx := r) (m := m) (c := cc) (u := (5 : Int)) hid
              have hr0 : 0 ≤ r := by omega
              have hw : IntKind.i64.wrap (r + 1) = r + 1 := IntWalk.i64_in _ (by omega)
              have HO := Lib.hid (ls_open (w.heap.size + 1) v L r m cc (5 : Int) wr hls hs (by omega) (by omega) (by omega) (by omega))
              have HF := Lib.hid hfa
              have HAT := Lib.hid hat
              have HID := Lib.hid hid
              have HVB := Lib.hid hvb
              have HRL := Lib.hid hrl
              have hll : (L ++ [(⟨r, m, cc, (5 : Int)⟩ : Le)]).length ≤ 1000 := by simp; omega
              have HBX := Lib.hid hbx
              have HFL := Lib.hid ((flo_le (L ++ [⟨r, m, cc, (5 : Int)⟩]) (p, q)).2 ⟨r, m, cc, (5 : Int)⟩ (by simp))
              clear hls hid hvb hbx hfa hat hrl
              go_wp2_with fail
              refine HO.out.mono ?_; rintro e w1 ⟨rfl, v1, hl1, hbt1, hfr1⟩
              have hfB : ¬ Foot (w.heap.size + 1) v B := by
                rintro (h | h)
                · omega
                · have := HVB.out _ h; omega
              have hf0 : ¬ Foot (w.heap.size + 1) v w.heap.size := by
                rintro (h | h)
                · omega
                · have := HVB.out _ h; omega
              have e0 := (hbt1.cell B (O + k * 2) lBr hfB).trans c0
              have e1 := (hbt1.cell B (O + k * 2 + 1) lBr hfB).trans c1
              have lB1 := Nat.lt_of_lt_of_le lBr hbt1.size
              have hbx1 : Ints2 w1 w.heap.size p q := ⟨(hbt1.cell _ 0 HBX.out.lt hf0).trans HBX.out.c0, (hbt1.cell _ 1 HBX.out.lt hf0).trans HBX.out.c1, (hbt1.frozen _ 0 HBX.out.lt hf0).trans HBX.out.f0, (hbt1.frozen _ 1 HBX.out.lt hf0).trans HBX.out.f1, Nat.lt_of_lt_of_le HBX.out.lt hbt1.size⟩
              have HR1 : Hid (HeldRel w p q (r + 1) (k + 1) w1) := by
                refine ⟨⟨v1, _, hl1, ?_, ?_, ?_, ?_⟩, hbx1, hb.trans (hbt1.below (fun i hi => ?_) hb.size)⟩
                · have := HRL.out; simp; omega
                · simp; omega
                · intro y hy
                  rcases List.mem_append.1 hy with h | h
                  · have := HID.out y h; omega
                  · simp at h; subst h; show r < r + 1; omega
                · intro i hi
                  rcases hfr1 i hi with h | h
                  · exact HVB.out i h
                  · have := HBX.out.lt; have := hlsz.out; omega
                · rcases hi with rfl | hi
                  · omega
                  · have := HVB.out i hi; omega
              have HL1 := Lib.hid hl1
              have HB1 := HR1.out.hb
              clear c0 c1 hl1 hbt1 hfr1 hfB hf0 hb
              go_wp2_with fail
              refine (ref10_is m cc _).mono ?_; rw [hs]; rintro e w2 ⟨rfl, hb2⟩
              have HL2 := Lib.hid (HL1.out.below hb2)
              have HR2 := Lib.hid (hb2)
              have e0 := (hb2.cell (p := ⟨B, O + k * 2, none⟩) lB1).trans e0
              have e1 := (hb2.cell (p := ⟨B, O + k * 2 + 1, none⟩) lB1).trans e1
              have lB2 := Nat.lt_of_lt_of_le lB1 hb2.size
              have hbx2 := hbx1.below hb2 hbx1.lt
              clear hb2 hbx1 HB1
              go_wp2_with fail
              have t9 : decide ((5 : Int) ≤ now) = false := by simp only [decide_eq_false_iff_not]; omega
              refine (ls_At_ok (w.heap.size + 1) v1 _ (r + 1) r now L.length ⟨r, m, cc, (5 : Int)⟩ w2 HL2.out hll HF.out HAT.out (by show now < (5 : Int); omega)).mono ?_; rintro e w3 ⟨rfl, hb3⟩
              have B3 : Below w3.heap.size w3 (w3.alloc (.cells #[.int .i64 m, .int .i64 cc] 30)) := by (repeat' (first | (with_reducible exact Below.refl _ _) | (with_reducible assumption) | (with_reducible refine Below.trans ?_ (Below.mono (by with_reducible assumption) ?_)) | (with_reducible refine Below.alloc ?_ ?_ _) | (with_reducible refine Below.setCell ?_ ?_ _) | (with_reducible refine below_drewN ?_ _) | (with_reducible refine Below.drew ?_) | go_size))
              have hb34 := hb3.trans (B3.mono hb3.size)
              have HL4 := Lib.hid (HL2.out.below hb34)
              have HB24 := HR2.out.trans (hb34.mono HR2.out.size)
              have HR4 : Hid (HeldRel w p q (r + 1) (k + 1) (w3.alloc (.cells #[.int .i64 m, .int .i64 cc] 30))) := by
                obtain ⟨⟨v', L', a1, a2, a3, a4, a5⟩, a6, a7⟩ := HR1.out
                exact ⟨⟨v', L', a1.below HB24, a2, a3, a4, a5⟩, a6.below HB24 a6.lt, a7.trans (HB24.mono a7.size)⟩
              have hbx4 := hbx2.below hb34 hbx2.lt
              obtain ⟨g0, g1, _, _, lg⟩ := hbx4
              have e0 := (hb34.cell (p := ⟨B, O + k * 2, none⟩) lB2).trans e0
              have e1 := (hb34.cell (p := ⟨B, O + k * 2 + 1, none⟩) lB2).trans e1
              have lB4 := Nat.lt_of_lt_of_le lB2 hb34.size
              have s0 : (w3.alloc (.cells #[.int .i64 m, .int .i64 cc] 30)).cell? ⟨w3.heap.size, 0, none⟩ = some (.int .i64 m) := by simp
              have s1 : (w3.alloc (.cells #[.int .i64 m, .int .i64 cc] 30)).cell? ⟨w3.heap.size, 1, none⟩ = some (.int .i64 cc) := by simp
              have ls : w3.heap.size < (w3.alloc (.cells #[.int .i64 m, .int .i64 cc] 30)).heap.size := by simp
              clear hb3 B3 hb34 HB24 hbx2
              go_wp2_with fail
              generalize w3.alloc (.cells #[.int .i64 m, .int .i64 cc] 30) = w4 at *
              have hfl := HFL.out
              generalize hflo : flo (L ++ [(⟨r, m, cc, (5 : Int)⟩ : Le)]) (p, q) = F at *
              obtain ⟨F1, F2⟩ := F
              have HFLO := Lib.hid hflo
              have hfl' : cmp2 F1 F2 m cc ≤ 0 := hfl
              have tt : decide (0 < cmp2 F1 F2 m cc) = false := by simp only [decide_eq_false_iff_not]; omega
              clear hflo hfl HFL
              go_region_held3 (fun w' => w'.cell? ⟨w.heap.size, 0, none⟩ = some (.int .i64 p) ∧ w'.cell? ⟨w.heap.size, 1, none⟩ = some (.int .i64 q) ∧ w'.cell? ⟨w3.heap.size, 0, none⟩ = some (.int .i64 m) ∧ w'.cell? ⟨w3.heap.size, 1, none⟩ = some (.int .i64 cc) ∧ w'.cell? ⟨B, O + k * 2, none⟩ = some (.int .i64 m) ∧ w'.cell? ⟨B, O + k * 2 + 1, none⟩ = some (.int .i64 cc)) (exact ⟨g0, g1, s0, s1, e0, e1⟩)
                (first
                  | (go_at_call 21; refine (ls_floor (w.heap.size + 1) v1 _ (r + 1) p q _ (HL4.out.below (by (repeat' (first | (with_reducible exact Below.refl _ _) | (with_reducible assumption) | (with_reducible refine Below.trans ?_ (Below.mono (by with_reducible assumption) ?_)) | (with_reducible refine Below.alloc ?_ ?_ _) | (with_reducible refine Below.setCell ?_ ?_ _) | (with_reducible refine below_drewN ?_ _) | (with_reducible refine Below.drew ?_) | go_size)))) hll).mono ?_; rw [HFLO.out]; rintro e w5 ⟨rfl, hb5⟩; have g0 := (hb5.cell (p := ⟨w.heap.size, 0, none⟩) lg).trans g0; have g1 := (hb5.cell (p := ⟨w.heap.size, 1, none⟩) lg).trans g1; have s0 := (hb5.cell (p := ⟨w3.heap.size, 0, none⟩) ls).trans s0; have s1 := (hb5.cell (p := ⟨w3.heap.size, 1, none⟩) ls).trans s1; have e0 := (hb5.cell (p := ⟨B, O + k * 2, none⟩) lB4).trans e0; have e1 := (hb5.cell (p := ⟨B, O + k * 2 + 1, none⟩) lB4).trans e1; have lg := Nat.lt_of_lt_of_le lg hb5.size; have ls := Nat.lt_of_lt_of_le ls hb5.size; have lB4 := Nat.lt_of_lt_of_le lB4 hb5.size; have HX : Below w4.heap.size w4 w5 := Below.trans (by (repeat' (first | (with_reducible exact Below.refl _ _) | (with_reducible assumption) | (with_reducible refine Below.trans ?_ (Below.mono (by with_reducible assumption) ?_)) | (with_reducible refine Below.alloc ?_ ?_ _) | (with_reducible refine Below.setCell ?_ ?_ _) | (with_reducible refine below_drewN ?_ _) | (with_reducible refine Below.drew ?_) | go_size))) (hb5.mono (Below.size (show Below w4.heap.size w4 _ from (by (repeat' (first | (with_reducible exact Below.refl _ _) | (with_reducible assumption) | (with_reducible refine Below.trans ?_ (Below.mono (by with_reducible assumption) ?_)) | (with_reducible refine Below.alloc ?_ ?_ _) | (with_reducible refine Below.setCell ?_ ?_ _) | (with_reducible refine below_drewN ?_ _) | (with_reducible refine Below.drew ?_) | go_size)))))))
                  | (go_at_call 25; refine (ref10_compare F1 F2 m cc _).mono ?_; rintro e w5 ⟨rfl, hb5⟩; have g0 := (hb5.cell (p := ⟨w.heap.size, 0, none⟩) lg).trans g0; have g1 := (hb5.cell (p := ⟨w.heap.size, 1, none⟩) lg).trans g1; have s0 := (hb5.cell (p := ⟨w3.heap.size, 0, none⟩) ls).trans s0; have s1 := (hb5.cell (p := ⟨w3.heap.size, 1, none⟩) ls).trans s1; have e0 := (hb5.cell (p := ⟨B, O + k * 2, none⟩) lB4).trans e0; have e1 := (hb5.cell (p := ⟨B, O + k * 2 + 1, none⟩) lB4).trans e1; have lg := Nat.lt_of_lt_of_le lg hb5.size; have ls := Nat.lt_of_lt_of_le ls hb5.size; have lB4 := Nat.lt_of_lt_of_le lB4 hb5.size; have HX : Below w4.heap.size w4 w5 := Below.trans (by (repeat' (first | (with_reducible exact Below.refl _ _) | (with_reducible assumption) | (with_reducible refine Below.trans ?_ (Below.mono (by with_reducible assumption) ?_)) | (with_reducible refine Below.alloc ?_ ?_ _) | (with_reducible refine Below.setCell ?_ ?_ _) | (with_reducible refine below_drewN ?_ _) | (with_reducible refine Below.drew ?_) | go_size))) (hb5.mono (Below.size (show Below w4.heap.size w4 _ from (by (repeat' (first | (with_reducible exact Below.refl _ _) | (with_reducible assumption) | (with_reducible refine Below.trans ?_ (Below.mono (by with_reducible assumption) ?_)) | (with_reducible refine Below.alloc ?_ ?_ _) | (with_reducible refine Below.setCell ?_ ?_ _) | (with_reducible refine below_drewN ?_ _) | (with_reducible refine Below.drew ?_) | go_size))))))))
              go_wp2
              go_roundw
              case rel => exact ⟨k + 1, r + 1, by omega, by go_num, rfl, HR4.out.same HX⟩
              case measure => simp [intOf]; omega
        · have hs : isStampB m cc = false := by simpa using hs
          have hdone := hs
          have HO := Lib.hid (ls_open_bad (.pointer (some ⟨w.heap.size + 1, 0, none⟩)) m cc (5 : Int) wr ⟨_, rfl⟩ (.inl hs))
          clear hls hid hvb hbx hrl
          go_wp2_with fail
          refine HO.out.mono ?_; rintro e w1 ⟨rfl, hb1⟩
          have e0 := (hb1.cell (p := ⟨B, O + k * 2, none⟩) lBr).trans c0
          have e1 := (hb1.cell (p := ⟨B, O + k * 2 + 1, none⟩) lBr).trans c1
          clear c0 c1
          go_wp2_with fail
          refine (ref10_is m cc _).mono ?_; rw [hs]; rintro e w2 ⟨rfl, hb2⟩
          have HR2 := Lib.hid (HR.out.below (hb1.trans (hb2.mono hb1.size)))
          clear hb1 hb2 e0 e1 hb
          go_wp2
          go_roundw
          case rel => exact ⟨k + 1, r, by omega, by go_num, rfl, HR2.out⟩
          case measure => simp [intOf]; omega
    · obtain rfl : k = n := by omega
      have hkl := (keep_sub now L).length_le
      have HE := Lib.hid (ls_expire (w.heap.size + 1) v L r now wr hls (by omega))
      have HVB := Lib.hid hvb
      have t2 : decide (((keep now L).length : Int) ≤ r) = true := by simp only [decide_eq_true_eq]; omega
      have hkl' : (keep now L).length ≤ 1000 := by omega
      have HFL := Lib.hid (flo_le (keep now L) (p, q)).1
      have HBX := Lib.hid hbx
      have T2 := Lib.hid t2
      have HBB := Lib.hid hb
      clear hls hid hvb hbx hrl hkl t2 hb
      go_wp2_with fail
      refine HE.out.mono ?_; rintro e w1 ⟨rfl, v1, hl1, hbt1, hvo1⟩
      have hf0 : ¬ Foot (w.heap.size + 1) v w.heap.size := by
        rintro (h | h)
        · omega
        · have := HVB.out _ h; omega
      have hbx1 : Ints2 w1 w.heap.size p q := ⟨(hbt1.cell _ 0 HBX.out.lt hf0).trans HBX.out.c0, (hbt1.cell _ 1 HBX.out.lt hf0).trans HBX.out.c1, (hbt1.frozen _ 0 HBX.out.lt hf0).trans HBX.out.f0, (hbt1.frozen _ 1 HBX.out.lt hf0).trans HBX.out.f1, Nat.lt_of_lt_of_le HBX.out.lt hbt1.size⟩
      have HB1 := HBB.out.trans (hbt1.below (fun i hi => by
        rcases hi with rfl | hi
        · omega
        · have := HVB.out i hi; omega) HBB.out.size)
      have HL1 := Lib.hid hl1
      obtain ⟨x0, x1, _, _, lx⟩ := hbx1
      clear hl1 hbt1 hvo1 hf0
      go_wp2_with fail
      refine (ls_floor (w.heap.size + 1) v1 _ r p q w1 HL1.out hkl').mono ?_; rintro e w2 ⟨rfl, hb2⟩
      have hfl := HFL.out
      generalize flo (keep now L) (p, q) = F at *
      obtain ⟨F1, F2⟩ := F
      have hfl' : cmp2 F1 F2 p q ≤ 0 := hfl
      have tt : decide (cmp2 F1 F2 p q ≤ 0) = true := decide_eq_true hfl'
      have HL2 := Lib.hid (HL1.out.below hb2)
      have x0 := (hb2.cell (p := ⟨w.heap.size, 0, none⟩) lx).trans x0
      have x1 := (hb2.cell (p := ⟨w.heap.size, 1, none⟩) lx).trans x1
      have lx := Nat.lt_of_lt_of_le lx hb2.size
      have HB2 := HB1.trans (hb2.mono HB1.size)
      clear hfl hfl' HFL hb2 HB1
      go_wp2_with fail
      refine (ref10_compare F1 F2 p q _).mono ?_; rintro e w3 ⟨rfl, hb3⟩
      have B2 : Below w2.heap.size w2 (w2.alloc (.cells #[.int .i64 F1, .int .i64 F2] 30)) := by (repeat' (first | (with_reducible exact Below.refl _ _) | (with_reducible assumption) | (with_reducible refine Below.trans ?_ (Below.mono (by with_reducible assumption) ?_)) | (with_reducible refine Below.alloc ?_ ?_ _) | (with_reducible refine Below.setCell ?_ ?_ _) | (with_reducible refine below_drewN ?_ _) | (with_reducible refine Below.drew ?_) | go_size))
      have hb23 := B2.trans (hb3.mono B2.size)
      have HL3 := Lib.hid (HL2.out.below hb23)
      have HB3 := HB2.trans (hb23.mono HB2.size)
      have t2 := T2.out
      clear hb3 B2 hb23 x0 x1 HB2
      go_wp2_with fail
      refine (ls_len (w.heap.size + 1) v1 _ r w3 HL3.out).mono ?_; rintro e w' ⟨rfl, rfl⟩
      have z3 := HB3.size
      go_wp2_with (go_at_call 23; refine (known21 _).mono ?_; rintro e w5 ⟨rfl, hb5⟩; obtain ⟨hc5, hf5⟩ := bcell hb5; have hz5 := hb5.size; (try simp only [World.size_alloc, World.size_setCell, World.heap_drewN] at hb5 hc5 hf5 hz5); (try have ha05 : w.heap.size < w5.heap.size := by omega); (try have ha15 : w.heap.size + 1 < w5.heap.size := by omega); (try have ha25 : w.heap.size + 2 < w5.heap.size := by omega); (try have hal5 : w.heap.size ≤ w5.heap.size := by omega); (try have ham5 : w.heap.size < w5.heap.size + 2 := by omega); (try have hb05 : w3.heap.size < w5.heap.size := by omega); (try have hb15 : w3.heap.size + 1 < w5.heap.size := by omega); (try have hb25 : w3.heap.size + 2 < w5.heap.size := by omega); (try have hbl5 : w3.heap.size ≤ w5.heap.size := by omega); (try have hbm5 : w3.heap.size < w5.heap.size + 2 := by omega))
      go_ret
      go_light
      exact ⟨rfl, by (repeat' (first | (with_reducible exact Below.refl _ _) | (with_reducible assumption) | (with_reducible refine Below.trans ?_ (Below.mono (by with_reducible assumption) ?_)) | (with_reducible refine Below.alloc ?_ ?_ _) | (with_reducible refine Below.setCell ?_ ?_ _) | (with_reducible refine below_drewN ?_ _) | (with_reducible refine Below.drew ?_) | go_size))⟩
set_option maxRecDepth 100000 in
theorem leaseHeld_lifted (os : Os) (started : os.Started) (H : Type) (enc : TypeId × Value → H) :
    ReturnsInHanded {} Try.checked os 4 .any (Rows.leaseHeldSpec.pre6 enc Try.prog Try.f4 Rows.leaseHeldRow.domain false) (Rows.leaseHeldSpec.post enc Try.prog Try.f4 false true false false) := by
  refine returnsInHanded_of_change_sized (C := Try.checked) law_own started (by kernel_rfl) Try.func4
    (ChangeSpec.witness6 (enc := enc) (C := Try.checked) false ⟨#[], #[.slice none 0 0, .slice none 0 0, .int .i64 0, .agg #[.int .i64 0, .int .i64 0]], []⟩ 8 (by kernel_rfl) (by kernel_rfl) (by kernel_rfl) (by kernel_rfl)) ?_
  intro W base args ds gs before hval0 hW hcnd hsz0 _
  have hval : ∀ (j : Nat) t v, Try.f4.params[j]? = some t → args[j]? = some v → Value.okWide Try.prog W .any base t v := hval0
  have hsz : (DataW.weightsEach Try.prog (Try.f4.params.toList ++ Rows.leaseHeldSpec.plain.varTypes Try.prog) (ds ++ gs)).all (· ≤ reachBytes) = true := hsz0
  have hW' := hW
  obtain ⟨p, q, hA0, hV, rfl, hfz, hnd⟩ := hW
  have hA : DataW.TrodAll enc Try.prog W 0 (fun _ => true) true Try.f4.params.toList args.toList ds p := hA0
  rw [Try.params4] at hA hval hsz
  have hsame : (Rows.leaseHeldSpec.fn H (ds ++ gs)).results = [.lit (.bool true)] ∧ (Rows.leaseHeldSpec.fn H (ds ++ gs)).args = ds ∧ (Rows.leaseHeldSpec.fn H (ds ++ gs)).vars = [] → ∀ W', Below W.heap.size W W' → Rows.leaseHeldSpec.post enc Try.prog Try.f4 false true false false W args (.bool true) W' :=
    fun h W' hb => law_post (tb := 4) hW' law_laid (by kernel_rfl) rfl Try.underlying4 h.1 h.2.1 rfl h.2.2 hb
  obtain ⟨v0, vs0, d0, ds0, p0, q0, hargs, rfl, rfl, h0, r0⟩ := trodAll_cons hA
  obtain ⟨v1, vs1, d1, ds1, p1, q1, rfl, rfl, rfl, h1, r1⟩ := trodAll_cons r0
  obtain ⟨v2, vs2, d2, ds2, p2, q2, rfl, rfl, rfl, h2, r2⟩ := trodAll_cons r1
  obtain ⟨v3, vs3, d3, ds3, p3, q3, rfl, rfl, rfl, h3, r3⟩ := trodAll_cons r2
  obtain ⟨rfl, rfl, rfl⟩ := trodAll_nil r3
  obtain rfl : args = #[v0, v1, v2, v3] := by cases args; simp_all
  obtain ⟨rfl, rfl⟩ := trodVars_none hV
  have hpost := hsame ⟨rfl, rfl, rfl⟩
  clear hsame hA0 hval0 hsz0
  obtain ⟨A, n, c, z, rfl, hn, hz⟩ := open_flat_slice (m := 2) Try.underlying50 (by kernel_rfl) stamp_cells (by omega) (hval 0 50 v0 rfl rfl) h0
  obtain ⟨A', n', c', t, rfl, hn', ht⟩ := open_int_slice (hval 1 51 v1 rfl rfl) h1
  obtain ⟨now, rfl, rfl, rfl, _⟩ := open_int Try.underlying3 (hval 2 3 v2 rfl rfl) h2
  obtain ⟨p, q, rfl, _, _⟩ := open_stamp (hval 3 30 v3 rfl rfl) h3
  by_cases h : n ≤ 64
  · exact (held_in A A' n c n' c' now p q z t W hz ht h hn').mono fun e W' ⟨he, hb⟩ => ⟨_, he, hpost W' hb⟩
  · exact (held_long A A' n c n' c' now p q W (by omega)).mono fun e W' ⟨he, hb⟩ => ⟨_, he, hpost W' hb⟩
theorem leaseHeld_holds : Rows.LeaseHeldSaid :=
  OpenClaim.holds_of_wide 4 Try.f4 rfl rfl rfl rfl rfl rfl rfl ⟨rfl, rfl, rfl, rfl, rfl⟩ rfl rfl rfl rfl rfl (by kernel_rfl) Try.func4 (by kernel_rfl)
    (of_decide_eq_true (by kernel_rfl)) (by unfold Func.isWrapper; first | (rw [if_pos (by decide +kernel)]; kernel_rfl) | (rw [if_neg (by decide +kernel)]; exact ⟨rfl, rfl⟩))
    (fun os started H enc _ => leaseHeld_lifted os started H enc)
end Go.Proofs.Ytacchkokbibeaaa
