/- Stage 21: LeasePlays: of every script of acts each answer of the leases is the document's, and so are the floor and how many are held (written by gen/s21p.py). -/
import Derived.Test.YtacchkokbibeaaaLrPair
import Derived.Test.YtacchkokbibeaaaStampArg
import Derived.Test.YtacchkokbibeaaaArgFlat
import Derived.Deep.RegionHeld
set_option linter.unusedSimpArgs false
set_option linter.unusedVariables false
namespace Go.Proofs.Ytacchkokbibeaaa
open Go.ChangeShapes Go.WideShapes Go.ChangeAt Go.RowKit Go.Joins Go.Deep Go.Sort

theorem rise_find {L : List Le} {nx : Int} {k : Nat} (h : LeG L nx k) (id : Int) : ∃ q bb, FindAns L id q bb := find_ex h.rise id
set_option maxRecDepth 100000 in
set_option maxHeartbeats 16000000 in
theorem leasePlays_in (A : Option Addr) (n c : Nat) (z : Nat → Int) (w : World) (hz : FlatAt w A 6 n z) (hn : n ≤ maxLen) :
    Calls Try.prog 3 #[.slice A n c] w fun e w' => e = .returned (.bool true) ∧ Below w.heap.size w w' := by
  have HZ := Lib.hid hz
  have hnl : (n : Int) ≤ 9223372036854775807 := by unfold maxLen at hn; omega
  have R0 : Hid (LpRel w w.heap.size (w.heap.size + 1) 0 ((w.alloc (.cells #[.slice none 0 0, .int .i64 0] 60)).alloc (.cells #[.slice none 0 0, .int .i64 0] 28))) := by
    have h1 := (ls_new w).alloc (.cells #[.slice none 0 0, .int .i64 0] 28)
    have h2 := lr_new (w.alloc (.cells #[.slice none 0 0, .int .i64 0] 60))
    rw [World.size_alloc] at h2
    refine ⟨⟨.slice none 0 0, .slice none 0 0, [], 0, h1, h2, ⟨List.Pairwise.nil, fun y h => (by cases h), by simp, by omega, by omega⟩, by omega, ?_, ?_, ?_, by omega, by omega, ?_, ?_⟩, by (repeat' (first | (with_reducible exact Below.refl _ _) | (with_reducible assumption) | (with_reducible refine Below.trans ?_ (Below.mono (by with_reducible assumption) ?_)) | (with_reducible refine Below.alloc ?_ ?_ _) | (with_reducible refine Below.setCell ?_ ?_ _) | (with_reducible refine below_drewN ?_ _) | (with_reducible refine Below.drew ?_) | go_size))⟩ <;> simp [Value.ownBlock]
  clear hz hn
  go_enter Try.func3, Try.ntmps3
  go_wp2_with fail
  refine (lease_new _).mono ?_; rintro e w' ⟨rfl, rfl⟩
  go_wp2_with fail
  go_loopw [5] (fun i wr => ∃ (k : Nat), k ≤ n ∧ k ≤ 200 ∧ i = .int .i64 k ∧ LpRel w w.heap.size (w.heap.size + 1) k wr) (fun i _ => n - (intOf i).toNat)
  case atStart => exact ⟨0, Nat.zero_le _, Nat.zero_le _, rfl, R0.out⟩
  case round =>
    obtain ⟨k, hk, hk2, rfl, hr⟩ := hrel
    clear R0
    by_cases hlt : k < n
    rotate_left
    · obtain rfl : k = n := by omega
      have t1 : decide ((k : Int) < (k : Int)) = false := by simp
      have HB := Lib.hid hr.hb
      clear hr
      go_wp2_with fail
      refine (known21 _).mono ?_; rintro e w1 ⟨rfl, hb1⟩
      have HB1 := Lib.hid (HB.out.trans (hb1.mono HB.out.size))
      clear hb1
      go_wp2
      go_ret
      exact ⟨rfl, HB1.out⟩
    have t1 : decide ((k : Int) < (n : Int)) = true := by simpa using hlt
    by_cases hlt2 : k < 200
    rotate_left
    · have t2 : decide ((k : Int) < 200) = false := by simp only [decide_eq_false_iff_not]; omega
      have HB := Lib.hid hr.hb
      clear hr
      go_wp2_with fail
      refine (known21 _).mono ?_; rintro e w1 ⟨rfl, hb1⟩
      have HB1 := Lib.hid (HB.out.trans (hb1.mono HB.out.size))
      clear hb1
      go_wp2
      go_ret
      exact ⟨rfl, HB1.out⟩
    have t2 : decide ((k : Int) < 200) = true := by simp only [decide_eq_true_eq]; omega
    have wk : IntKind.i64.wrap ((k : Int) + 1) = (k : Int) + 1 := IntWalk.i64_in _ (by omega)
    have lkn : (k : Int) < (n : Int) := by omega
    obtain ⟨B, O, rfl, lB, hc⟩ := HZ.out (by omega)
    have q0 := (hr.hb.cell (p := ⟨B, O + k * 6, none⟩) lB).trans (hc (k * 6) (by omega)).1
    have q1 := (hr.hb.cell (p := ⟨B, O + k * 6 + 1, none⟩) lB).trans (hc (k * 6 + 1) (by omega)).1
    have q2 := (hr.hb.cell (p := ⟨B, O + k * 6 + 2, none⟩) lB).trans (hc (k * 6 + 2) (by omega)).1
    have q3 := (hr.hb.cell (p := ⟨B, O + k * 6 + 3, none⟩) lB).trans (hc (k * 6 + 3) (by omega)).1
    have q4 := (hr.hb.cell (p := ⟨B, O + k * 6 + 4, none⟩) lB).trans (hc (k * 6 + 4) (by omega)).1
    have q5 := (hr.hb.cell (p := ⟨B, O + k * 6 + 5, none⟩) lB).trans (hc (k * 6 + 5) (by omega)).1
    generalize z (k * 6) = a0 at *
    generalize z (k * 6 + 1) = a1 at *
    generalize z (k * 6 + 2) = a2 at *
    generalize z (k * 6 + 3) = a3 at *
    generalize z (k * 6 + 4) = a4 at *
    generalize z (k * 6 + 5) = a5 at *
    have S0 := Lib.hid (Six.new wr a0 a1 a2 a3 a4 a5 32)
    obtain ⟨v, v', L, nx, hp, hg⟩ := hr.start (.cells #[.int .i64 a0, .int .i64 a1, .int .i64 a2, .int .i64 a3, .int .i64 a4, .int .i64 a5] 32)
    have P0 := Lib.hid hp
    have G0 := Lib.hid hg
    have HKN := Lib.hid (And.intro hlt hlt2)
    clear hr hc lB hp hg hlt hlt2 hk2
    obtain ⟨sb, hsb⟩ : ∃ sb, sb = wr.heap.size := ⟨_, rfl⟩
    have HSB := Lib.hid hsb
    clear hsb
    by_cases hk1 : a0 = 1
    · subst hk1
      have C1 := Lib.hid (ls_open_any w.heap.size v L nx a4 a5 a2 _ P0.out.c G0.out.n0 (by have h1 := G0.out.n1; have h2 := HKN.out.2; omega))
      obtain ⟨id9, e9, L9, n9, hop⟩ : ∃ id9 e9 L9 n9, opnE L nx a4 a5 a2 = (id9, e9, L9, n9) := ⟨_, _, _, _, rfl⟩
      have G9 : Hid (LeG L9 n9 (k + 1)) := Lib.hid (by have := G0.out.open (m := a4) (c := a5) (u := a2); rw [hop] at this; exact this)
      have HN0 := Lib.hid (And.intro G0.out.n0 (show nx ≤ 1099511627776 by have h1 := G0.out.n1; have h2 := HKN.out.2; omega))
      rw [hop] at C1
      have HOP := Lib.hid hop
      have c0 := S0.out.c0
      have c2 := S0.out.c2
      have c4 := S0.out.c4
      have c5 := S0.out.c5
      have u8 : (id9 == id9) = true := by simp
      have u9 : (e9 == e9) = true := by simp
      clear hop
      go_wp2_with fail
      refine C1.out.mono ?_; rintro e w1 ⟨rfl, hst⟩
      obtain ⟨⟨v9, hp1⟩, hbt1⟩ := P0.out.callC hst
      have P1 := Lib.hid hp1
      have S1 := Lib.hid (S0.out.but hbt1 P0.out.nC)
      have C2 := Lib.hid (lr_open_any (w.heap.size + 1) v' L nx a4 a5 a2 _ P1.out.x HN0.out.1 HN0.out.2)
      rw [HOP.out] at C2
      clear hst hp1 hbt1 c0 c2 c4 c5 C1 S0 P0
      have c2 := S1.out.c2
      have c4 := S1.out.c4
      have c5 := S1.out.c5
      go_wp2_with fail
      refine C2.out.mono ?_; rintro e W9 ⟨rfl, hst⟩
      obtain ⟨⟨x9, hp1⟩, hbt1⟩ := P1.out.callX hst
      have P9 := Lib.hid hp1
      have S9 := Lib.hid (S1.out.but hbt1 P1.out.nX)
      clear hst hp1 hbt1 c2 c4 c5 C2 S1 P1 HOP HN0 q0 q1 q2 q3 q4 q5
      have s4 := fun d os => cell_regrown S9.out.c4 d os
      have s5 := fun d os => cell_regrown S9.out.c5 d os
      have hlen9 : L9.length ≤ 1000 := by have := G9.out.len; omega
      obtain ⟨m9, hm9⟩ : ∃ m : Int, (L9.length : Int) = m := ⟨_, rfl⟩
      obtain ⟨f9, hf9⟩ : ∃ f, flo L9 (a4, a5) = f := ⟨_, rfl⟩
      obtain ⟨fm9, fc9⟩ := f9
      have A1 := Lib.hid fun (d' : Nat) (os : Array Obj) => Calls.regrown_of ((ls_len w.heap.size v9 L9 n9 (grow (redrawn W9 d') os) (P9.out.c.below (below_regrown W9 d' os))).mono fun e w' ⟨h1, h2⟩ => (⟨by rw [h1, hm9], by rw [← h2]; exact Below.refl _ _⟩ : e = .returned (.int .i64 m9) ∧ Below (grow (redrawn W9 d') os).heap.size (grow (redrawn W9 d') os) w'))
      have A2 := Lib.hid fun (d' : Nat) (os : Array Obj) => Calls.regrown_of ((lr_len (w.heap.size + 1) x9 L9 n9 (grow (redrawn W9 d') os) (P9.out.x.below (below_regrown W9 d' os))).mono fun e w' ⟨h1, h2⟩ => (⟨by rw [h1, hm9], by rw [← h2]; exact Below.refl _ _⟩ : e = .returned (.int .i64 m9) ∧ Below (grow (redrawn W9 d') os).heap.size (grow (redrawn W9 d') os) w'))
      have A3 := Lib.hid fun (d' : Nat) (os : Array Obj) => Calls.regrown_of ((ls_floor w.heap.size v9 L9 n9 a4 a5 (grow (redrawn W9 d') os) (P9.out.c.below (below_regrown W9 d' os)) hlen9).mono fun e w' ⟨h1, h2⟩ => (⟨by rw [h1, hf9], h2⟩ : e = .returned (.agg #[.int .i64 fm9, .int .i64 fc9]) ∧ Below (grow (redrawn W9 d') os).heap.size (grow (redrawn W9 d') os) w'))
      have A4 := Lib.hid fun (d' : Nat) (os : Array Obj) => Calls.regrown_of ((lr_floor (w.heap.size + 1) x9 L9 n9 a4 a5 (grow (redrawn W9 d') os) (P9.out.x.below (below_regrown W9 d' os)) hlen9).mono fun e w' ⟨h1, h2⟩ => (⟨by rw [h1, hf9], h2⟩ : e = .returned (.agg #[.int .i64 fm9, .int .i64 fc9]) ∧ Below (grow (redrawn W9 d') os).heap.size (grow (redrawn W9 d') os) w'))
      have u1 : (m9 != m9) = false := by simp
      have u2 : (fm9 == fm9) = true := by simp
      have u3 : (fc9 == fc9) = true := by simp
      clear hm9 hf9 hlen9
      go_wp2_with fail
      refine wp_region_quiet_below (by kernel_rfl) (by kernel_rfl) ?_
      repeat (go_big_quiet_step ((first | (go_at_call 19; exact A1.out _ _) | (go_at_call 20; exact A2.out _ _) | (go_at_call 21; exact A3.out _ _) | (go_at_call 22; exact A4.out _ _))))
      refine wpQuiet_nil ?_
      intro _ hw'
      obtain ⟨⟨dq, osq⟩, hw''⟩ := hw'
      subst hw''
      have PF := Lib.hid ((P9.out.below (below_regrown W9 dq osq)).fin G9.out)
      clear s4 s5 A1 A2 A3 A4 P9 S9 G9
      generalize hgw : grow (redrawn W9 dq) osq = WW at *
      clear hgw
      go_wp2
      go_roundw
      case rel => exact ⟨k + 1, by have := HKN.out.1; omega, by have := HKN.out.2; omega, by go_num, PF.out⟩
      case measure => have := HKN.out.1; simp [intOf]; omega
    have p1 : (a0 == 1) = false := by simpa using hk1
    by_cases hk2 : a0 = 2
    · subst hk2
      obtain ⟨qf, bf, hfa⟩ := rise_find G0.out a1
      have hlen0 : L.length ≤ 1000 := by have := G0.out.len; omega
      have C1 := Lib.hid (ls_At_any w.heap.size v L nx a1 a2 qf bf _ P0.out.c hlen0 hfa)
      have C2 := Lib.hid (fun (W : World) (hb : Below (wr.alloc (.cells #[.int .i64 2, .int .i64 a1, .int .i64 a2, .int .i64 a3, .int .i64 a4, .int .i64 a5] 32)).heap.size (wr.alloc (.cells #[.int .i64 2, .int .i64 a1, .int .i64 a2, .int .i64 a3, .int .i64 a4, .int .i64 a5] 32)) W) => lr_At_any (w.heap.size + 1) v' L nx a1 a2 qf bf W (P0.out.x.below hb) hlen0 hfa G0.out.rise)
      obtain ⟨m8, c8, e8, hat⟩ : ∃ m8 c8 e8, atA L a2 qf bf = (m8, c8, e8) := ⟨_, _, _, rfl⟩
      rw [hat] at C1 C2
      have c0 := S0.out.c0
      have c1 := S0.out.c1
      have c2 := S0.out.c2
      have u7 : (m8 == m8) = true := by simp
      have u8 : (c8 == c8) = true := by simp
      have u9 : (e8 == e8) = true := by simp
      clear hat hfa hlen0
      go_wp2_with fail
      refine C1.out.mono ?_; rintro e w1 ⟨rfl, hb1⟩
      have hb1' : Below (wr.alloc (.cells #[.int .i64 2, .int .i64 a1, .int .i64 a2, .int .i64 a3, .int .i64 a4, .int .i64 a5] 32)).heap.size (wr.alloc (.cells #[.int .i64 2, .int .i64 a1, .int .i64 a2, .int .i64 a3, .int .i64 a4, .int .i64 a5] 32)) (w1.alloc (.cells #[.int .i64 m8, .int .i64 c8] 30)) := hb1.alloc hb1.size _
      have S1 := Lib.hid (S0.out.but (But.of_below (S := fun _ => False) hb1') (fun h => h))
      have P1 := Lib.hid (P0.out.below hb1')
      have C3 := Lib.hid (C2.out _ hb1')
      have J1 : Ints2 (w1.alloc (.cells #[.int .i64 m8, .int .i64 c8] 30)) w1.heap.size m8 c8 := Ints2.new w1 m8 c8 _
      clear hb1 hb1' c0 c1 c2 C1 C2 S0 P0
      have c1 := S1.out.c1
      have c2 := S1.out.c2
      go_wp2_with fail
      refine C3.out.mono ?_; rintro e w2 ⟨rfl, hb2⟩
      have hb2' : Below (w1.alloc (.cells #[.int .i64 m8, .int .i64 c8] 30)).heap.size (w1.alloc (.cells #[.int .i64 m8, .int .i64 c8] 30)) (w2.alloc (.cells #[.int .i64 m8, .int .i64 c8] 30)) := hb2.alloc hb2.size _
      have S9 := Lib.hid (S1.out.but (But.of_below (S := fun _ => False) hb2') (fun h => h))
      have P9 := Lib.hid (P1.out.below hb2')
      have J2 : Ints2 (w2.alloc (.cells #[.int .i64 m8, .int .i64 c8] 30)) w2.heap.size m8 c8 := Ints2.new w2 m8 c8 _
      have J1 := J1.below hb2' J1.lt
      have G9 := Lib.hid G0.out.step
      obtain ⟨x0, x1, _, _, xl⟩ := J1
      obtain ⟨y0, y1, _, _, yl⟩ := J2
      clear hb2 hb2' c1 c2 C3 S1 P1 G0 q0 q1 q2 q3 q4 q5
      go_wp2_with fail
      clear x0 x1 y0 y1 xl yl
      generalize (w2.alloc (.cells #[.int .i64 m8, .int .i64 c8] 30)) = W9 at *
      obtain ⟨v9, hv9⟩ : ∃ v9, v9 = v := ⟨_, rfl⟩
      obtain ⟨x9, hx9⟩ : ∃ x9, x9 = v' := ⟨_, rfl⟩
      obtain ⟨L9, hl9⟩ : ∃ L9, L9 = L := ⟨_, rfl⟩
      obtain ⟨n9, hn9⟩ : ∃ n9, n9 = nx := ⟨_, rfl⟩
      subst hv9 hx9 hl9 hn9
      have s4 := fun d os => cell_regrown S9.out.c4 d os
      have s5 := fun d os => cell_regrown S9.out.c5 d os
      have hlen9 : L9.length ≤ 1000 := by have := G9.out.len; omega
      obtain ⟨m9, hm9⟩ : ∃ m : Int, (L9.length : Int) = m := ⟨_, rfl⟩
      obtain ⟨f9, hf9⟩ : ∃ f, flo L9 (a4, a5) = f := ⟨_, rfl⟩
      obtain ⟨fm9, fc9⟩ := f9
      have A1 := Lib.hid fun (d' : Nat) (os : Array Obj) => Calls.regrown_of ((ls_len w.heap.size v9 L9 n9 (grow (redrawn W9 d') os) (P9.out.c.below (below_regrown W9 d' os))).mono fun e w' ⟨h1, h2⟩ => (⟨by rw [h1, hm9], by rw [← h2]; exact Below.refl _ _⟩ : e = .returned (.int .i64 m9) ∧ Below (grow (redrawn W9 d') os).heap.size (grow (redrawn W9 d') os) w'))
      have A2 := Lib.hid fun (d' : Nat) (os : Array Obj) => Calls.regrown_of ((lr_len (w.heap.size + 1) x9 L9 n9 (grow (redrawn W9 d') os) (P9.out.x.below (below_regrown W9 d' os))).mono fun e w' ⟨h1, h2⟩ => (⟨by rw [h1, hm9], by rw [← h2]; exact Below.refl _ _⟩ : e = .returned (.int .i64 m9) ∧ Below (grow (redrawn W9 d') os).heap.size (grow (redrawn W9 d') os) w'))
      have A3 := Lib.hid fun (d' : Nat) (os : Array Obj) => Calls.regrown_of ((ls_floor w.heap.size v9 L9 n9 a4 a5 (grow (redrawn W9 d') os) (P9.out.c.below (below_regrown W9 d' os)) hlen9).mono fun e w' ⟨h1, h2⟩ => (⟨by rw [h1, hf9], h2⟩ : e = .returned (.agg #[.int .i64 fm9, .int .i64 fc9]) ∧ Below (grow (redrawn W9 d') os).heap.size (grow (redrawn W9 d') os) w'))
      have A4 := Lib.hid fun (d' : Nat) (os : Array Obj) => Calls.regrown_of ((lr_floor (w.heap.size + 1) x9 L9 n9 a4 a5 (grow (redrawn W9 d') os) (P9.out.x.below (below_regrown W9 d' os)) hlen9).mono fun e w' ⟨h1, h2⟩ => (⟨by rw [h1, hf9], h2⟩ : e = .returned (.agg #[.int .i64 fm9, .int .i64 fc9]) ∧ Below (grow (redrawn W9 d') os).heap.size (grow (redrawn W9 d') os) w'))
      have u1 : (m9 != m9) = false := by simp
      have u2 : (fm9 == fm9) = true := by simp
      have u3 : (fc9 == fc9) = true := by simp
      clear hm9 hf9 hlen9
      go_wp2_with fail
      refine wp_region_quiet_below (by kernel_rfl) (by kernel_rfl) ?_
      repeat (go_big_quiet_step ((first | (go_at_call 19; exact A1.out _ _) | (go_at_call 20; exact A2.out _ _) | (go_at_call 21; exact A3.out _ _) | (go_at_call 22; exact A4.out _ _))))
      refine wpQuiet_nil ?_
      intro _ hw'
      obtain ⟨⟨dq, osq⟩, hw''⟩ := hw'
      subst hw''
      have PF := Lib.hid ((P9.out.below (below_regrown W9 dq osq)).fin G9.out)
      clear s4 s5 A1 A2 A3 A4 P9 S9 G9
      generalize hgw : grow (redrawn W9 dq) osq = WW at *
      clear hgw
      go_wp2
      go_roundw
      case rel => exact ⟨k + 1, by have := HKN.out.1; omega, by have := HKN.out.2; omega, by go_num, PF.out⟩
      case measure => have := HKN.out.1; simp [intOf]; omega
    have p2 : (a0 == 2) = false := by simpa using hk2
    by_cases hk3 : a0 = 3
    · subst hk3
      obtain ⟨qf, bf, hfa⟩ := rise_find G0.out a1
      have hlen0 : L.length ≤ 1000 := by have := G0.out.len; omega
      have C1 := Lib.hid (fun (W : World) (h : Ls W w.heap.size v L nx) => ls_renew_any w.heap.size v L nx a1 a2 a3 qf bf W h hlen0 hfa)
      have C2 := Lib.hid (fun (W : World) (h : Lr W (w.heap.size + 1) v' L nx) => lr_renew_any (w.heap.size + 1) v' L nx a1 a2 a3 qf bf W h hlen0 hfa G0.out.rise)
      obtain ⟨e8, L9, hat⟩ : ∃ e8 L9, renE L a2 a3 qf bf = (e8, L9) := ⟨_, _, rfl⟩
      have G9 : Hid (LeG L9 nx (k + 1)) := Lib.hid (by have := G0.out.renew (now := a2) (u := a3) (j := qf) (bb := bf); rw [hat] at this; exact this)
      rw [hat] at C1 C2
      have u9 : (e8 == e8) = true := by simp
      clear hat hfa hlen0 G0
      have c0 := S0.out.c0
      have c1 := S0.out.c1
      have c2 := S0.out.c2
      have c3 := S0.out.c3
      go_wp2_with fail
      have hdr : Below (wr.alloc (.cells #[.int .i64 3, .int .i64 a1, .int .i64 a2, .int .i64 a3, .int .i64 a4, .int .i64 a5] 32)).heap.size (wr.alloc (.cells #[.int .i64 3, .int .i64 a1, .int .i64 a2, .int .i64 a3, .int .i64 a4, .int .i64 a5] 32)) (wr.alloc (.cells #[.int .i64 3, .int .i64 a1, .int .i64 a2, .int .i64 a3, .int .i64 a4, .int .i64 a5] 32)).drew := (Below.refl _ _).drew
      have S0 := Lib.hid (S0.out.but (But.of_below (S := fun _ => False) hdr) (fun h => h))
      have P0 := Lib.hid (P0.out.below hdr)
      clear hdr q0 q1 q2 q3 q4 q5
      refine wp_region_held_drew (S := (fun w' => w'.cell? ⟨wr.heap.size, 1, none⟩ = some (.int .i64 a1) ∧ w'.cell? ⟨wr.heap.size, 2, none⟩ = some (.int .i64 a2) ∧ w'.cell? ⟨wr.heap.size, 3, none⟩ = some (.int .i64 a3))) (by kernel_rfl) ?_ (fun hHeld => ?_)
      · exact ⟨S0.out.c1, S0.out.c2, S0.out.c3⟩
      clear c0 c1 c2 c3
      refine wpAnyH_take (i := 0) (v := ?_) rfl (by kernel_rfl) (by kernel_rfl) (by kernel_rfl) (fun _ _ _ h => h) (Or.inl ⟨by rfl, ?_⟩) (by assumption) ?_
      rotate_left
      · intro w' hSw; (try dsimp only at hSw); go_simp; (try with_reducible rfl)
      (try simp only [Act.put, List.setIfInBounds_toArray, List.set_cons_zero, List.set_cons_succ, List.getElem_toArray, List.getElem_cons_succ, List.getElem_cons_zero])
      refine wpAnyH_take (i := 1) (v := ?_) rfl (by kernel_rfl) (by kernel_rfl) (by kernel_rfl) (fun _ _ _ h => h) (Or.inl ⟨by rfl, ?_⟩) (by assumption) ?_
      rotate_left
      · intro w' hSw; (try dsimp only at hSw); go_simp; (try with_reducible rfl)
      (try simp only [Act.put, List.setIfInBounds_toArray, List.set_cons_zero, List.set_cons_succ, List.getElem_toArray, List.getElem_cons_succ, List.getElem_cons_zero])
      refine wpAnyH_take (i := 2) (v := ?_) rfl (by kernel_rfl) (by kernel_rfl) (by kernel_rfl) (fun _ _ _ h => h) (Or.inl ⟨by rfl, ?_⟩) (by assumption) ?_
      rotate_left
      · intro w' hSw; (try dsimp only at hSw); go_simp; (try with_reducible rfl)
      (try simp only [Act.put, List.setIfInBounds_toArray, List.set_cons_zero, List.set_cons_succ, List.getElem_toArray, List.getElem_cons_succ, List.getElem_cons_zero])
      refine wpAnyH_take (i := 3) (v := ?_) rfl (by kernel_rfl) (by kernel_rfl) (by kernel_rfl) (fun _ _ _ h => h) (Or.inl ⟨by rfl, ?_⟩) (by assumption) ?_
      rotate_left
      · intro w' hSw; (try dsimp only at hSw); go_simp; (try with_reducible rfl)
      (try simp only [Act.put, List.setIfInBounds_toArray, List.set_cons_zero, List.set_cons_succ, List.getElem_toArray, List.getElem_cons_succ, List.getElem_cons_zero])
      refine wpAnyH_take (i := 4) (v := ?_) rfl (by kernel_rfl) (by kernel_rfl) (by kernel_rfl) (fun _ _ _ h => h) (Or.inl ⟨by rfl, ?_⟩) (by assumption) ?_
      rotate_left
      · intro w' hSw; (try dsimp only at hSw); go_simp; (try with_reducible rfl)
      (try simp only [Act.put, List.setIfInBounds_toArray, List.set_cons_zero, List.set_cons_succ, List.getElem_toArray, List.getElem_cons_succ, List.getElem_cons_zero])
      refine wpAnyH_take (i := 5) (v := ?_) rfl (by kernel_rfl) (by kernel_rfl) (by kernel_rfl) (fun _ _ _ h => h) (Or.inl ⟨by rfl, ?_⟩) (by assumption) ?_
      rotate_left
      · intro w' hSw; (try dsimp only at hSw); go_simp; (try with_reducible rfl)
      (try simp only [Act.put, List.setIfInBounds_toArray, List.set_cons_zero, List.set_cons_succ, List.getElem_toArray, List.getElem_cons_succ, List.getElem_cons_zero])
      refine wpAnyH_take (i := 6) (v := ?_) rfl (by kernel_rfl) (by kernel_rfl) (by kernel_rfl) (fun _ _ _ h => h) (Or.inl ⟨by rfl, ?_⟩) (by assumption) ?_
      rotate_left
      · intro w' hSw; (try dsimp only at hSw); go_simp; (try with_reducible rfl)
      (try simp only [Act.put, List.setIfInBounds_toArray, List.set_cons_zero, List.set_cons_succ, List.getElem_toArray, List.getElem_cons_succ, List.getElem_cons_zero])
      refine wpAnyH_take (i := 8) (v := ?_) rfl (by kernel_rfl) (by kernel_rfl) (by kernel_rfl) (fun _ _ _ h => h) (Or.inl ⟨by rfl, ?_⟩) (by assumption) ?_
      rotate_left
      · intro w' hSw; (try dsimp only at hSw); go_simp; (try with_reducible rfl)
      (try simp only [Act.put, List.setIfInBounds_toArray, List.set_cons_zero, List.set_cons_succ, List.getElem_toArray, List.getElem_cons_succ, List.getElem_cons_zero])
      refine wpAnyH_take (i := 9) (v := ?_) rfl (by kernel_rfl) (by kernel_rfl) (by kernel_rfl) (fun _ _ _ h => h) (Or.inl ⟨by rfl, ?_⟩) (by assumption) ?_
      rotate_left
      · intro w' hSw; (try dsimp only at hSw); go_simp; (try with_reducible rfl)
      (try simp only [Act.put, List.setIfInBounds_toArray, List.set_cons_zero, List.set_cons_succ, List.getElem_toArray, List.getElem_cons_succ, List.getElem_cons_zero])
      refine wpAnyH_take (i := 10) (v := ?_) rfl (by kernel_rfl) (by kernel_rfl) (by kernel_rfl) (fun _ _ _ h => h) (Or.inl ⟨by rfl, ?_⟩) (by assumption) ?_
      rotate_left
      · intro w' hSw; (try dsimp only at hSw); go_simp; (try with_reducible rfl)
      (try simp only [Act.put, List.setIfInBounds_toArray, List.set_cons_zero, List.set_cons_succ, List.getElem_toArray, List.getElem_cons_succ, List.getElem_cons_zero])
      refine wpAnyH_take (i := 11) (v := ?_) rfl (by kernel_rfl) (by kernel_rfl) (by kernel_rfl) (fun _ _ _ h => h) (Or.inl ⟨by rfl, ?_⟩) (by assumption) ?_
      rotate_left
      · intro w' hSw; (try dsimp only at hSw); go_simp; (try with_reducible rfl)
      (try simp only [Act.put, List.setIfInBounds_toArray, List.set_cons_zero, List.set_cons_succ, List.getElem_toArray, List.getElem_cons_succ, List.getElem_cons_zero])
      refine wpAnyH_take (i := 12) (v := ?_) rfl (by kernel_rfl) (by kernel_rfl) (by kernel_rfl) (fun _ _ _ h => h) (Or.inl ⟨by rfl, ?_⟩) (by assumption) ?_
      rotate_left
      · intro w' hSw; (try dsimp only at hSw); go_simp; (try with_reducible rfl)
      (try simp only [Act.put, List.setIfInBounds_toArray, List.set_cons_zero, List.set_cons_succ, List.getElem_toArray, List.getElem_cons_succ, List.getElem_cons_zero])
      refine wpAnyH_take (i := 13) (v := ?_) rfl (by kernel_rfl) (by kernel_rfl) (by kernel_rfl) (fun _ _ _ h => h) (Or.inl ⟨by rfl, ?_⟩) (by assumption) ?_
      rotate_left
      · intro w' hSw; (try dsimp only at hSw); go_simp; (try with_reducible rfl)
      (try simp only [Act.put, List.setIfInBounds_toArray, List.set_cons_zero, List.set_cons_succ, List.getElem_toArray, List.getElem_cons_succ, List.getElem_cons_zero])
      refine wpAnyH_take (i := 14) (v := ?_) rfl (by kernel_rfl) (by kernel_rfl) (by kernel_rfl) (fun _ _ _ h => h) (Or.inl ⟨by rfl, ?_⟩) (by assumption) ?_
      rotate_left
      · intro w' hSw; (try dsimp only at hSw); go_simp; (try with_reducible rfl)
      (try simp only [Act.put, List.setIfInBounds_toArray, List.set_cons_zero, List.set_cons_succ, List.getElem_toArray, List.getElem_cons_succ, List.getElem_cons_zero])
      refine wpAnyH_ready (rs := [7]) (by kernel_rfl) (by simp) ?_
      refine AllReadyH.cons rfl (fun K hK => ?_) (AllReadyH.nil)
      go_simp
      (go_at_call 13; refine (C1.out _ P0.out.c).mono ?_; rintro e w1 ⟨rfl, hst⟩; obtain ⟨⟨v9, hp1⟩, hbt1⟩ := P0.out.callC hst; have P1 := Lib.hid hp1; have S1 := Lib.hid (S0.out.but hbt1 P0.out.nC); clear hst hp1 hbt1)
      (try dsimp only)
      refine hK.out _ _ ?_ (fun hHeld => ?_)
      · exact ⟨S1.out.c1, S1.out.c2, S1.out.c3⟩
      clear hK K
      (try simp only [Act.put, List.setIfInBounds_toArray, List.set_cons_zero, List.set_cons_succ, List.getElem_toArray, List.getElem_cons_succ, List.getElem_cons_zero])
      refine wpAnyH_ready (rs := [15]) (by kernel_rfl) (by simp) ?_
      refine AllReadyH.cons rfl (fun K hK => ?_) (AllReadyH.nil)
      go_simp
      (go_at_call 14; refine (C2.out _ P1.out.x).mono ?_; rintro e W9 ⟨rfl, hst⟩; obtain ⟨⟨x9, hp1⟩, hbt1⟩ := P1.out.callX hst; have P9 := Lib.hid hp1; have S9 := Lib.hid (S1.out.but hbt1 P1.out.nX); clear hst hp1 hbt1)
      (try dsimp only)
      refine hK.out _ _ ?_ (fun hHeld => ?_)
      · exact ⟨S9.out.c1, S9.out.c2, S9.out.c3⟩
      clear hK K
      (try simp only [Act.put, List.setIfInBounds_toArray, List.set_cons_zero, List.set_cons_succ, List.getElem_toArray, List.getElem_cons_succ, List.getElem_cons_zero])
      refine wpAnyH_take (i := 16) (v := ?_) rfl (by kernel_rfl) (by kernel_rfl) (by kernel_rfl) (fun _ _ _ h => h) (Or.inl ⟨by rfl, ?_⟩) (by assumption) ?_
      rotate_left
      · intro w' hSw; (try dsimp only at hSw); go_simp; (try with_reducible rfl)
      (try simp only [Act.put, List.setIfInBounds_toArray, List.set_cons_zero, List.set_cons_succ, List.getElem_toArray, List.getElem_cons_succ, List.getElem_cons_zero])
      refine wpAnyH_take (i := 17) (v := ?_) rfl (by kernel_rfl) (by kernel_rfl) (by kernel_rfl) (fun _ _ _ h => h) (Or.inl ⟨by rfl, ?_⟩) (by assumption) ?_
      rotate_left
      · intro w' hSw; (try dsimp only at hSw); go_simp; (try with_reducible rfl)
      (try simp only [Act.put, List.setIfInBounds_toArray, List.set_cons_zero, List.set_cons_succ, List.getElem_toArray, List.getElem_cons_succ, List.getElem_cons_zero])
      refine wpAnyH_done (by kernel_rfl) ?_ _
      clear C1 C2 S0 P0 S1 P1 hHeld
      obtain ⟨n9, hn9⟩ : ∃ n9, n9 = nx := ⟨_, rfl⟩
      subst hn9
      have s4 := fun d os => cell_regrown S9.out.c4 d os
      have s5 := fun d os => cell_regrown S9.out.c5 d os
      have hlen9 : L9.length ≤ 1000 := by have := G9.out.len; omega
      obtain ⟨m9, hm9⟩ : ∃ m : Int, (L9.length : Int) = m := ⟨_, rfl⟩
      obtain ⟨f9, hf9⟩ : ∃ f, flo L9 (a4, a5) = f := ⟨_, rfl⟩
      obtain ⟨fm9, fc9⟩ := f9
      have A1 := Lib.hid fun (d' : Nat) (os : Array Obj) => Calls.regrown_of ((ls_len w.heap.size v9 L9 n9 (grow (redrawn W9 d') os) (P9.out.c.below (below_regrown W9 d' os))).mono fun e w' ⟨h1, h2⟩ => (⟨by rw [h1, hm9], by rw [← h2]; exact Below.refl _ _⟩ : e = .returned (.int .i64 m9) ∧ Below (grow (redrawn W9 d') os).heap.size (grow (redrawn W9 d') os) w'))
      have A2 := Lib.hid fun (d' : Nat) (os : Array Obj) => Calls.regrown_of ((lr_len (w.heap.size + 1) x9 L9 n9 (grow (redrawn W9 d') os) (P9.out.x.below (below_regrown W9 d' os))).mono fun e w' ⟨h1, h2⟩ => (⟨by rw [h1, hm9], by rw [← h2]; exact Below.refl _ _⟩ : e = .returned (.int .i64 m9) ∧ Below (grow (redrawn W9 d') os).heap.size (grow (redrawn W9 d') os) w'))
      have A3 := Lib.hid fun (d' : Nat) (os : Array Obj) => Calls.regrown_of ((ls_floor w.heap.size v9 L9 n9 a4 a5 (grow (redrawn W9 d') os) (P9.out.c.below (below_regrown W9 d' os)) hlen9).mono fun e w' ⟨h1, h2⟩ => (⟨by rw [h1, hf9], h2⟩ : e = .returned (.agg #[.int .i64 fm9, .int .i64 fc9]) ∧ Below (grow (redrawn W9 d') os).heap.size (grow (redrawn W9 d') os) w'))
      have A4 := Lib.hid fun (d' : Nat) (os : Array Obj) => Calls.regrown_of ((lr_floor (w.heap.size + 1) x9 L9 n9 a4 a5 (grow (redrawn W9 d') os) (P9.out.x.below (below_regrown W9 d' os)) hlen9).mono fun e w' ⟨h1, h2⟩ => (⟨by rw [h1, hf9], h2⟩ : e = .returned (.agg #[.int .i64 fm9, .int .i64 fc9]) ∧ Below (grow (redrawn W9 d') os).heap.size (grow (redrawn W9 d') os) w'))
      have u1 : (m9 != m9) = false := by simp
      have u2 : (fm9 == fm9) = true := by simp
      have u3 : (fc9 == fc9) = true := by simp
      clear hm9 hf9 hlen9
      go_wp2_with fail
      refine wp_region_quiet_below (by kernel_rfl) (by kernel_rfl) ?_
      repeat (go_big_quiet_step ((first | (go_at_call 19; exact A1.out _ _) | (go_at_call 20; exact A2.out _ _) | (go_at_call 21; exact A3.out _ _) | (go_at_call 22; exact A4.out _ _))))
      refine wpQuiet_nil ?_
      intro _ hw'
      obtain ⟨⟨dq, osq⟩, hw''⟩ := hw'
      subst hw''
      have PF := Lib.hid ((P9.out.below (below_regrown W9 dq osq)).fin G9.out)
      clear s4 s5 A1 A2 A3 A4 P9 S9 G9
      generalize hgw : grow (redrawn W9 dq) osq = WW at *
      clear hgw
      go_wp2
      go_roundw
      case rel => exact ⟨k + 1, by have := HKN.out.1; omega, by have := HKN.out.2; omega, by go_num, PF.out⟩
      case measure => have := HKN.out.1; simp [intOf]; omega
    have p3 : (a0 == 3) = false := by simpa using hk3
    by_cases hk4 : a0 = 4
    · subst hk4
      have hlen0 : L.length ≤ 1000 := by have := G0.out.len; omega
      have C1 := Lib.hid (fun (W : World) (D : Nat) (h : Ls W w.heap.size v L nx) (t : Tri W D a1 a3) (hD : ¬ Foot w.heap.size v D) => (ls_close w.heap.size D 3 v L nx [a1, a3, a1] W h G0.out.rise hlen0 (by simp) t.ids hD t.lt).mono fun e w' ⟨h1, h2⟩ => And.intro h1 (stC_close h2))
      have C2 := Lib.hid (fun (W : World) (D : Nat) (h : Lr W (w.heap.size + 1) v' L nx) (t : Tri W D a1 a3) (hD : ¬ Foot (w.heap.size + 1) v' D) => lr_close (w.heap.size + 1) D 3 v' L nx [a1, a3, a1] W h G0.out.rise hlen0 (by simp) t.ids hD t.lt)
      obtain ⟨L9, hat⟩ : ∃ L9, closeL L [a1, a3, a1] = L9 := ⟨_, rfl⟩
      have G9 : Hid (LeG L9 nx (k + 1)) := Lib.hid (by rw [← hat]; exact G0.out.sub (closeL_sub _ _))
      rw [hat] at C1 C2
      obtain ⟨e8, he8⟩ : ∃ e8 : Int, (L.length : Int) - (L9.length : Int) = e8 := ⟨_, rfl⟩
      rw [he8] at C1 C2
      have u9 : (e8 == e8) = true := by simp
      clear hat hlen0 G0 he8
      have c0 := S0.out.c0
      have c1 := S0.out.c1
      have c2 := S0.out.c2
      have c3 := S0.out.c3
      go_wp2_with fail
      have hdr : Below (wr.alloc (.cells #[.int .i64 4, .int .i64 a1, .int .i64 a2, .int .i64 a3, .int .i64 a4, .int .i64 a5] 32)).heap.size (wr.alloc (.cells #[.int .i64 4, .int .i64 a1, .int .i64 a2, .int .i64 a3, .int .i64 a4, .int .i64 a5] 32)) (wr.alloc (.cells #[.int .i64 4, .int .i64 a1, .int .i64 a2, .int .i64 a3, .int .i64 a4, .int .i64 a5] 32)).drew := (Below.refl _ _).drew
      have S0 := Lib.hid (S0.out.but (But.of_below (S := fun _ => False) hdr) (fun h => h))
      have P0 := Lib.hid (P0.out.below hdr)
      clear hdr q0 q1 q2 q3 q4 q5
      refine wp_region_held_drew (S := (fun w' => w'.cell? ⟨wr.heap.size, 1, none⟩ = some (.int .i64 a1) ∧ w'.cell? ⟨wr.heap.size, 2, none⟩ = some (.int .i64 a2) ∧ w'.cell? ⟨wr.heap.size, 3, none⟩ = some (.int .i64 a3))) (by kernel_rfl) ?_ (fun hHeld => ?_)
      · exact ⟨S0.out.c1, S0.out.c2, S0.out.c3⟩
      clear c0 c1 c2 c3
      generalize (wr.alloc (.cells #[.int .i64 4, .int .i64 a1, .int .i64 a2, .int .i64 a3, .int .i64 a4, .int .i64 a5] 32)).drew = V0 at *
      refine wpAnyH_take (i := 0) (v := ?_) rfl (by kernel_rfl) (by kernel_rfl) (by kernel_rfl) (fun _ _ _ h => h) (Or.inl ⟨by rfl, ?_⟩) (by assumption) ?_
      rotate_left
      · intro w' hSw; (try dsimp only at hSw); go_simp; (try with_reducible rfl)
      (try simp only [Act.put, List.setIfInBounds_toArray, List.set_cons_zero, List.set_cons_succ, List.getElem_toArray, List.getElem_cons_succ, List.getElem_cons_zero])
      refine wpAnyH_take (i := 1) (v := ?_) rfl (by kernel_rfl) (by kernel_rfl) (by kernel_rfl) (fun _ _ _ h => h) (Or.inl ⟨by rfl, ?_⟩) (by assumption) ?_
      rotate_left
      · intro w' hSw; (try dsimp only at hSw); go_simp; (try with_reducible rfl)
      (try simp only [Act.put, List.setIfInBounds_toArray, List.set_cons_zero, List.set_cons_succ, List.getElem_toArray, List.getElem_cons_succ, List.getElem_cons_zero])
      refine wpAnyH_take (i := 2) (v := ?_) rfl (by kernel_rfl) (by kernel_rfl) (by kernel_rfl) (fun _ _ _ h => h) (Or.inl ⟨by rfl, ?_⟩) (by assumption) ?_
      rotate_left
      · intro w' hSw; (try dsimp only at hSw); go_simp; (try with_reducible rfl)
      (try simp only [Act.put, List.setIfInBounds_toArray, List.set_cons_zero, List.set_cons_succ, List.getElem_toArray, List.getElem_cons_succ, List.getElem_cons_zero])
      refine wpAnyH_take (i := 3) (v := ?_) rfl (by kernel_rfl) (by kernel_rfl) (by kernel_rfl) (fun _ _ _ h => h) (Or.inl ⟨by rfl, ?_⟩) (by assumption) ?_
      rotate_left
      · intro w' hSw; (try dsimp only at hSw); go_simp; (try with_reducible rfl)
      (try simp only [Act.put, List.setIfInBounds_toArray, List.set_cons_zero, List.set_cons_succ, List.getElem_toArray, List.getElem_cons_succ, List.getElem_cons_zero])
      refine wpAnyH_take (i := 4) (v := ?_) rfl (by kernel_rfl) (by kernel_rfl) (by kernel_rfl) (fun _ _ _ h => h) (Or.inl ⟨by rfl, ?_⟩) (by assumption) ?_
      rotate_left
      · intro w' hSw; (try dsimp only at hSw); go_simp; (try with_reducible rfl)
      (try simp only [Act.put, List.setIfInBounds_toArray, List.set_cons_zero, List.set_cons_succ, List.getElem_toArray, List.getElem_cons_succ, List.getElem_cons_zero])
      refine wpAnyH_take (i := 5) (v := ?_) rfl (by kernel_rfl) (by kernel_rfl) (by kernel_rfl) (fun _ _ _ h => h) (Or.inl ⟨by rfl, ?_⟩) (by assumption) ?_
      rotate_left
      · intro w' hSw; (try dsimp only at hSw); go_simp; (try with_reducible rfl)
      (try simp only [Act.put, List.setIfInBounds_toArray, List.set_cons_zero, List.set_cons_succ, List.getElem_toArray, List.getElem_cons_succ, List.getElem_cons_zero])
      refine wpAnyH_take (i := 6) (v := ?_) rfl (by kernel_rfl) (by kernel_rfl) (by kernel_rfl) (fun _ _ _ h => h) (Or.inl ⟨by rfl, ?_⟩) (by assumption) ?_
      rotate_left
      · intro w' hSw; (try dsimp only at hSw); go_simp; (try with_reducible rfl)
      (try simp only [Act.put, List.setIfInBounds_toArray, List.set_cons_zero, List.set_cons_succ, List.getElem_toArray, List.getElem_cons_succ, List.getElem_cons_zero])
      refine wpAnyH_take (i := 9) (v := ?_) rfl (by kernel_rfl) (by kernel_rfl) (by kernel_rfl) (fun _ _ _ h => h) (Or.inl ⟨by rfl, ?_⟩) (by assumption) ?_
      rotate_left
      · intro w' hSw; (try dsimp only at hSw); go_simp; (try with_reducible rfl)
      (try simp only [Act.put, List.setIfInBounds_toArray, List.set_cons_zero, List.set_cons_succ, List.getElem_toArray, List.getElem_cons_succ, List.getElem_cons_zero])
      refine wpAnyH_take (i := 10) (v := ?_) rfl (by kernel_rfl) (by kernel_rfl) (by kernel_rfl) (fun _ _ _ h => h) (Or.inl ⟨by rfl, ?_⟩) (by assumption) ?_
      rotate_left
      · intro w' hSw; (try dsimp only at hSw); go_simp; (try with_reducible rfl)
      (try simp only [Act.put, List.setIfInBounds_toArray, List.set_cons_zero, List.set_cons_succ, List.getElem_toArray, List.getElem_cons_succ, List.getElem_cons_zero])
      refine wpAnyH_take (i := 11) (v := ?_) rfl (by kernel_rfl) (by kernel_rfl) (by kernel_rfl) (fun _ _ _ h => h) (Or.inl ⟨by rfl, ?_⟩) (by assumption) ?_
      rotate_left
      · intro w' hSw; (try dsimp only at hSw); go_simp; (try with_reducible rfl)
      (try simp only [Act.put, List.setIfInBounds_toArray, List.set_cons_zero, List.set_cons_succ, List.getElem_toArray, List.getElem_cons_succ, List.getElem_cons_zero])
      refine wpAnyH_take (i := 12) (v := ?_) rfl (by kernel_rfl) (by kernel_rfl) (by kernel_rfl) (fun _ _ _ h => h) (Or.inl ⟨by rfl, ?_⟩) (by assumption) ?_
      rotate_left
      · intro w' hSw; (try dsimp only at hSw); go_simp; (try with_reducible rfl)
      (try simp only [Act.put, List.setIfInBounds_toArray, List.set_cons_zero, List.set_cons_succ, List.getElem_toArray, List.getElem_cons_succ, List.getElem_cons_zero])
      refine wpAnyH_take (i := 13) (v := ?_) rfl (by kernel_rfl) (by kernel_rfl) (by kernel_rfl) (fun _ _ _ h => h) (Or.inl ⟨by rfl, ?_⟩) (by assumption) ?_
      rotate_left
      · intro w' hSw; (try dsimp only at hSw); go_simp; (try with_reducible rfl)
      (try simp only [Act.put, List.setIfInBounds_toArray, List.set_cons_zero, List.set_cons_succ, List.getElem_toArray, List.getElem_cons_succ, List.getElem_cons_zero])
      refine wpAnyH_take (i := 14) (v := ?_) rfl (by kernel_rfl) (by kernel_rfl) (by kernel_rfl) (fun _ _ _ h => h) (Or.inl ⟨by rfl, ?_⟩) (by assumption) ?_
      rotate_left
      · intro w' hSw; (try dsimp only at hSw); go_simp; (try with_reducible rfl)
      (try simp only [Act.put, List.setIfInBounds_toArray, List.set_cons_zero, List.set_cons_succ, List.getElem_toArray, List.getElem_cons_succ, List.getElem_cons_zero])
      refine wpAnyH_take (i := 15) (v := ?_) rfl (by kernel_rfl) (by kernel_rfl) (by kernel_rfl) (fun _ _ _ h => h) (Or.inl ⟨by rfl, ?_⟩) (by assumption) ?_
      rotate_left
      · intro w' hSw; (try dsimp only at hSw); go_simp; (try with_reducible rfl)
      (try simp only [Act.put, List.setIfInBounds_toArray, List.set_cons_zero, List.set_cons_succ, List.getElem_toArray, List.getElem_cons_succ, List.getElem_cons_zero])
      refine wpAnyH_ready (rs := [7, 16]) (by kernel_rfl) (by simp) ?_
      refine AllReadyH.cons rfl (fun K hK => ?_) (AllReadyH.cons rfl (fun K hK => ?_) (AllReadyH.nil))
      · skip
        go_simp
        have hba : Below V0.heap.size V0 (V0.alloc (.cells #[.int .i64 a1, .int .i64 a3, .int .i64 a1] 3)) := (Below.refl _ _).alloc (Nat.le_refl _) _
        have T1 := Lib.hid (Tri.new V0 a1 a3 3)
        have HD1 : Hid (¬ Foot w.heap.size v V0.heap.size) := Lib.hid (fun hf => by have := P0.out.ltC _ hf; omega)
        have P1 := Lib.hid (P0.out.below hba)
        have S1 := Lib.hid (S0.out.but (But.of_below (S := fun _ => False) hba) (fun h => h))
        clear hba
        generalize V0.heap.size = D1 at *
        generalize V0.alloc (.cells #[.int .i64 a1, .int .i64 a3, .int .i64 a1] 3) = V1 at *
        (try dsimp only)
        refine hK.out _ _ ?_ (fun hHeld => ?_)
        · exact ⟨S1.out.c1, S1.out.c2, S1.out.c3⟩
        clear hK K
        (try simp only [Act.put, List.setIfInBounds_toArray, List.set_cons_zero, List.set_cons_succ, List.getElem_toArray, List.getElem_cons_succ, List.getElem_cons_zero])
        refine wpAnyH_ready (rs := [8, 16]) (by kernel_rfl) (by simp) ?_
        refine AllReadyH.cons rfl (fun K hK => ?_) (AllReadyH.cons rfl (fun K hK => ?_) (AllReadyH.nil))
        · skip
          go_simp
          (go_at_call 15; refine (C1.out _ D1 P1.out.c T1.out HD1.out).mono ?_; rintro e V2 ⟨rfl, hst⟩; obtain ⟨⟨v9, hp1⟩, hbt1⟩ := P1.out.callC hst; have P2 := Lib.hid hp1; have S2 := Lib.hid (S1.out.but hbt1 P1.out.nC))
          clear hst hp1 hbt1
          (try dsimp only)
          refine hK.out _ _ ?_ (fun hHeld => ?_)
          · exact ⟨S2.out.c1, S2.out.c2, S2.out.c3⟩
          clear hK K
          (try simp only [Act.put, List.setIfInBounds_toArray, List.set_cons_zero, List.set_cons_succ, List.getElem_toArray, List.getElem_cons_succ, List.getElem_cons_zero])
          refine wpAnyH_ready (rs := [16]) (by kernel_rfl) (by simp) ?_
          refine AllReadyH.cons rfl (fun K hK => ?_) (AllReadyH.nil)
          go_simp
          have hba : Below V2.heap.size V2 (V2.alloc (.cells #[.int .i64 a1, .int .i64 a3, .int .i64 a1] 3)) := (Below.refl _ _).alloc (Nat.le_refl _) _
          have T2 := Lib.hid (Tri.new V2 a1 a3 3)
          have HD2 : Hid (¬ Foot (w.heap.size + 1) v' V2.heap.size) := Lib.hid (fun hf => by have := P2.out.ltX _ hf; omega)
          have P3 := Lib.hid (P2.out.below hba)
          have S3 := Lib.hid (S2.out.but (But.of_below (S := fun _ => False) hba) (fun h => h))
          clear hba
          generalize V2.heap.size = D2 at *
          generalize V2.alloc (.cells #[.int .i64 a1, .int .i64 a3, .int .i64 a1] 3) = V3 at *
          (try dsimp only)
          refine hK.out _ _ ?_ (fun hHeld => ?_)
          · exact ⟨S3.out.c1, S3.out.c2, S3.out.c3⟩
          clear hK K
          (try simp only [Act.put, List.setIfInBounds_toArray, List.set_cons_zero, List.set_cons_succ, List.getElem_toArray, List.getElem_cons_succ, List.getElem_cons_zero])
          refine wpAnyH_ready (rs := [17]) (by kernel_rfl) (by simp) ?_
          refine AllReadyH.cons rfl (fun K hK => ?_) (AllReadyH.nil)
          go_simp
          (go_at_call 16; refine (C2.out _ D2 P3.out.x T2.out HD2.out).mono ?_; rintro e V4 ⟨rfl, hst⟩; obtain ⟨⟨x9, hp1⟩, hbt1⟩ := P3.out.callX hst; have P4 := Lib.hid hp1; have S4 := Lib.hid (S3.out.but hbt1 P3.out.nX); clear hst hp1 hbt1)
          (try dsimp only)
          refine hK.out _ _ ?_ (fun hHeld => ?_)
          · exact ⟨S4.out.c1, S4.out.c2, S4.out.c3⟩
          clear hK K
          (try simp only [Act.put, List.setIfInBounds_toArray, List.set_cons_zero, List.set_cons_succ, List.getElem_toArray, List.getElem_cons_succ, List.getElem_cons_zero])
          refine wpAnyH_take (i := 18) (v := ?_) rfl (by kernel_rfl) (by kernel_rfl) (by kernel_rfl) (fun _ _ _ h => h) (Or.inl ⟨by rfl, ?_⟩) (by assumption) ?_
          rotate_left
          · intro w' hSw; (try dsimp only at hSw); go_simp; (try with_reducible rfl)
          (try simp only [Act.put, List.setIfInBounds_toArray, List.set_cons_zero, List.set_cons_succ, List.getElem_toArray, List.getElem_cons_succ, List.getElem_cons_zero])
          refine wpAnyH_take (i := 19) (v := ?_) rfl (by kernel_rfl) (by kernel_rfl) (by kernel_rfl) (fun _ _ _ h => h) (Or.inl ⟨by rfl, ?_⟩) (by assumption) ?_
          rotate_left
          · intro w' hSw; (try dsimp only at hSw); go_simp; (try with_reducible rfl)
          (try simp only [Act.put, List.setIfInBounds_toArray, List.set_cons_zero, List.set_cons_succ, List.getElem_toArray, List.getElem_cons_succ, List.getElem_cons_zero])
          refine wpAnyH_done (by kernel_rfl) ?_ _
          clear C1 C2 hHeld
          have P9 := P4
          have S9 := S4
          generalize V4 = W9 at *
          obtain ⟨n9, hn9⟩ : ∃ n9, n9 = nx := ⟨_, rfl⟩
          subst hn9
          have s4 := fun d os => cell_regrown S9.out.c4 d os
          have s5 := fun d os => cell_regrown S9.out.c5 d os
          have hlen9 : L9.length ≤ 1000 := by have := G9.out.len; omega
          obtain ⟨m9, hm9⟩ : ∃ m : Int, (L9.length : Int) = m := ⟨_, rfl⟩
          obtain ⟨f9, hf9⟩ : ∃ f, flo L9 (a4, a5) = f := ⟨_, rfl⟩
          obtain ⟨fm9, fc9⟩ := f9
          have A1 := Lib.hid fun (d' : Nat) (os : Array Obj) => Calls.regrown_of ((ls_len w.heap.size v9 L9 n9 (grow (redrawn W9 d') os) (P9.out.c.below (below_regrown W9 d' os))).mono fun e w' ⟨h1, h2⟩ => (⟨by rw [h1, hm9], by rw [← h2]; exact Below.refl _ _⟩ : e = .returned (.int .i64 m9) ∧ Below (grow (redrawn W9 d') os).heap.size (grow (redrawn W9 d') os) w'))
          have A2 := Lib.hid fun (d' : Nat) (os : Array Obj) => Calls.regrown_of ((lr_len (w.heap.size + 1) x9 L9 n9 (grow (redrawn W9 d') os) (P9.out.x.below (below_regrown W9 d' os))).mono fun e w' ⟨h1, h2⟩ => (⟨by rw [h1, hm9], by rw [← h2]; exact Below.refl _ _⟩ : e = .returned (.int .i64 m9) ∧ Below (grow (redrawn W9 d') os).heap.size (grow (redrawn W9 d') os) w'))
          have A3 := Lib.hid fun (d' : Nat) (os : Array Obj) => Calls.regrown_of ((ls_floor w.heap.size v9 L9 n9 a4 a5 (grow (redrawn W9 d') os) (P9.out.c.below (below_regrown W9 d' os)) hlen9).mono fun e w' ⟨h1, h2⟩ => (⟨by rw [h1, hf9], h2⟩ : e = .returned (.agg #[.int .i64 fm9, .int .i64 fc9]) ∧ Below (grow (redrawn W9 d') os).heap.size (grow (redrawn W9 d') os) w'))
          have A4 := Lib.hid fun (d' : Nat) (os : Array Obj) => Calls.regrown_of ((lr_floor (w.heap.size + 1) x9 L9 n9 a4 a5 (grow (redrawn W9 d') os) (P9.out.x.below (below_regrown W9 d' os)) hlen9).mono fun e w' ⟨h1, h2⟩ => (⟨by rw [h1, hf9], h2⟩ : e = .returned (.agg #[.int .i64 fm9, .int .i64 fc9]) ∧ Below (grow (redrawn W9 d') os).heap.size (grow (redrawn W9 d') os) w'))
          have u1 : (m9 != m9) = false := by simp
          have u2 : (fm9 == fm9) = true := by simp
          have u3 : (fc9 == fc9) = true := by simp
          clear hm9 hf9 hlen9
          go_wp2_with fail
          refine wp_region_quiet_below (by kernel_rfl) (by kernel_rfl) ?_
          repeat (go_big_quiet_step ((first | (go_at_call 19; exact A1.out _ _) | (go_at_call 20; exact A2.out _ _) | (go_at_call 21; exact A3.out _ _) | (go_at_call 22; exact A4.out _ _))))
          refine wpQuiet_nil ?_
          intro _ hw'
          obtain ⟨⟨dq, osq⟩, hw''⟩ := hw'
          subst hw''
          have PF := Lib.hid ((P9.out.below (below_regrown W9 dq osq)).fin G9.out)
          clear s4 s5 A1 A2 A3 A4 P9 S9 G9
          generalize hgw : grow (redrawn W9 dq) osq = WW at *
          clear hgw
          go_wp2
          go_roundw
          case rel => exact ⟨k + 1, by have := HKN.out.1; omega, by have := HKN.out.2; omega, by go_num, PF.out⟩
          case measure => have := HKN.out.1; simp [intOf]; omega
        · skip
          go_simp
          have hba : Below V1.heap.size V1 (V1.alloc (.cells #[.int .i64 a1, .int .i64 a3, .int .i64 a1] 3)) := (Below.refl _ _).alloc (Nat.le_refl _) _
          have T2 := Lib.hid (Tri.new V1 a1 a3 3)
          have HD2 : Hid (¬ Foot (w.heap.size + 1) v' V1.heap.size) := Lib.hid (fun hf => by have := P1.out.ltX _ hf; omega)
          have HE2 : Hid (∀ y, v = y → ¬ Foot w.heap.size y V1.heap.size) := Lib.hid (fun y hy hf => by have := P1.out.ltC _ (hy ▸ hf); omega)
          have T1 := Lib.hid (T1.out.but (But.of_below (S := fun _ => False) hba) (fun h => h))
          have P2 := Lib.hid (P1.out.below hba)
          have S2 := Lib.hid (S1.out.but (But.of_below (S := fun _ => False) hba) (fun h => h))
          clear hba
          generalize V1.heap.size = D2 at *
          generalize V1.alloc (.cells #[.int .i64 a1, .int .i64 a3, .int .i64 a1] 3) = V2 at *
          (try dsimp only)
          refine hK.out _ _ ?_ (fun hHeld => ?_)
          · exact ⟨S2.out.c1, S2.out.c2, S2.out.c3⟩
          clear hK K
          (try simp only [Act.put, List.setIfInBounds_toArray, List.set_cons_zero, List.set_cons_succ, List.getElem_toArray, List.getElem_cons_succ, List.getElem_cons_zero])
          refine wpAnyH_ready (rs := [8]) (by kernel_rfl) (by simp) ?_
          refine AllReadyH.cons rfl (fun K hK => ?_) (AllReadyH.nil)
          go_simp
          (go_at_call 15; refine (C1.out _ D1 P2.out.c T1.out HD1.out).mono ?_; rintro e V3 ⟨rfl, hst⟩; obtain ⟨⟨v9, hp1⟩, hbt1⟩ := P2.out.callC hst; have P3 := Lib.hid hp1; have S3 := Lib.hid (S2.out.but hbt1 P2.out.nC))
          have T2 := Lib.hid (T2.out.but hbt1 (HE2.out _ rfl))
          clear hst hp1 hbt1
          (try dsimp only)
          refine hK.out _ _ ?_ (fun hHeld => ?_)
          · exact ⟨S3.out.c1, S3.out.c2, S3.out.c3⟩
          clear hK K
          (try simp only [Act.put, List.setIfInBounds_toArray, List.set_cons_zero, List.set_cons_succ, List.getElem_toArray, List.getElem_cons_succ, List.getElem_cons_zero])
          refine wpAnyH_ready (rs := [17]) (by kernel_rfl) (by simp) ?_
          refine AllReadyH.cons rfl (fun K hK => ?_) (AllReadyH.nil)
          go_simp
          (go_at_call 16; refine (C2.out _ D2 P3.out.x T2.out HD2.out).mono ?_; rintro e V4 ⟨rfl, hst⟩; obtain ⟨⟨x9, hp1⟩, hbt1⟩ := P3.out.callX hst; have P4 := Lib.hid hp1; have S4 := Lib.hid (S3.out.but hbt1 P3.out.nX); clear hst hp1 hbt1)
          (try dsimp only)
          refine hK.out _ _ ?_ (fun hHeld => ?_)
          · exact ⟨S4.out.c1, S4.out.c2, S4.out.c3⟩
          clear hK K
          (try simp only [Act.put, List.setIfInBounds_toArray, List.set_cons_zero, List.set_cons_succ, List.getElem_toArray, List.getElem_cons_succ, List.getElem_cons_zero])
          refine wpAnyH_take (i := 18) (v := ?_) rfl (by kernel_rfl) (by kernel_rfl) (by kernel_rfl) (fun _ _ _ h => h) (Or.inl ⟨by rfl, ?_⟩) (by assumption) ?_
          rotate_left
          · intro w' hSw; (try dsimp only at hSw); go_simp; (try with_reducible rfl)
          (try simp only [Act.put, List.setIfInBounds_toArray, List.set_cons_zero, List.set_cons_succ, List.getElem_toArray, List.getElem_cons_succ, List.getElem_cons_zero])
          refine wpAnyH_take (i := 19) (v := ?_) rfl (by kernel_rfl) (by kernel_rfl) (by kernel_rfl) (fun _ _ _ h => h) (Or.inl ⟨by rfl, ?_⟩) (by assumption) ?_
          rotate_left
          · intro w' hSw; (try dsimp only at hSw); go_simp; (try with_reducible rfl)
          (try simp only [Act.put, List.setIfInBounds_toArray, List.set_cons_zero, List.set_cons_succ, List.getElem_toArray, List.getElem_cons_succ, List.getElem_cons_zero])
          refine wpAnyH_done (by kernel_rfl) ?_ _
          clear C1 C2 hHeld
          have P9 := P4
          have S9 := S4
          generalize V4 = W9 at *
          obtain ⟨n9, hn9⟩ : ∃ n9, n9 = nx := ⟨_, rfl⟩
          subst hn9
          have s4 := fun d os => cell_regrown S9.out.c4 d os
          have s5 := fun d os => cell_regrown S9.out.c5 d os
          have hlen9 : L9.length ≤ 1000 := by have := G9.out.len; omega
          obtain ⟨m9, hm9⟩ : ∃ m : Int, (L9.length : Int) = m := ⟨_, rfl⟩
          obtain ⟨f9, hf9⟩ : ∃ f, flo L9 (a4, a5) = f := ⟨_, rfl⟩
          obtain ⟨fm9, fc9⟩ := f9
          have A1 := Lib.hid fun (d' : Nat) (os : Array Obj) => Calls.regrown_of ((ls_len w.heap.size v9 L9 n9 (grow (redrawn W9 d') os) (P9.out.c.below (below_regrown W9 d' os))).mono fun e w' ⟨h1, h2⟩ => (⟨by rw [h1, hm9], by rw [← h2]; exact Below.refl _ _⟩ : e = .returned (.int .i64 m9) ∧ Below (grow (redrawn W9 d') os).heap.size (grow (redrawn W9 d') os) w'))
          have A2 := Lib.hid fun (d' : Nat) (os : Array Obj) => Calls.regrown_of ((lr_len (w.heap.size + 1) x9 L9 n9 (grow (redrawn W9 d') os) (P9.out.x.below (below_regrown W9 d' os))).mono fun e w' ⟨h1, h2⟩ => (⟨by rw [h1, hm9], by rw [← h2]; exact Below.refl _ _⟩ : e = .returned (.int .i64 m9) ∧ Below (grow (redrawn W9 d') os).heap.size (grow (redrawn W9 d') os) w'))
          have A3 := Lib.hid fun (d' : Nat) (os : Array Obj) => Calls.regrown_of ((ls_floor w.heap.size v9 L9 n9 a4 a5 (grow (redrawn W9 d') os) (P9.out.c.below (below_regrown W9 d' os)) hlen9).mono fun e w' ⟨h1, h2⟩ => (⟨by rw [h1, hf9], h2⟩ : e = .returned (.agg #[.int .i64 fm9, .int .i64 fc9]) ∧ Below (grow (redrawn W9 d') os).heap.size (grow (redrawn W9 d') os) w'))
          have A4 := Lib.hid fun (d' : Nat) (os : Array Obj) => Calls.regrown_of ((lr_floor (w.heap.size + 1) x9 L9 n9 a4 a5 (grow (redrawn W9 d') os) (P9.out.x.below (below_regrown W9 d' os)) hlen9).mono fun e w' ⟨h1, h2⟩ => (⟨by rw [h1, hf9], h2⟩ : e = .returned (.agg #[.int .i64 fm9, .int .i64 fc9]) ∧ Below (grow (redrawn W9 d') os).heap.size (grow (redrawn W9 d') os) w'))
          have u1 : (m9 != m9) = false := by simp
          have u2 : (fm9 == fm9) = true := by simp
          have u3 : (fc9 == fc9) = true := by simp
          clear hm9 hf9 hlen9
          go_wp2_with fail
          refine wp_region_quiet_below (by kernel_rfl) (by kernel_rfl) ?_
          repeat (go_big_quiet_step ((first | (go_at_call 19; exact A1.out _ _) | (go_at_call 20; exact A2.out _ _) | (go_at_call 21; exact A3.out _ _) | (go_at_call 22; exact A4.out _ _))))
          refine wpQuiet_nil ?_
          intro _ hw'
          obtain ⟨⟨dq, osq⟩, hw''⟩ := hw'
          subst hw''
          have PF := Lib.hid ((P9.out.below (below_regrown W9 dq osq)).fin G9.out)
          clear s4 s5 A1 A2 A3 A4 P9 S9 G9
          generalize hgw : grow (redrawn W9 dq) osq = WW at *
          clear hgw
          go_wp2
          go_roundw
          case rel => exact ⟨k + 1, by have := HKN.out.1; omega, by have := HKN.out.2; omega, by go_num, PF.out⟩
          case measure => have := HKN.out.1; simp [intOf]; omega
      · skip
        go_simp
        have hba : Below V0.heap.size V0 (V0.alloc (.cells #[.int .i64 a1, .int .i64 a3, .int .i64 a1] 3)) := (Below.refl _ _).alloc (Nat.le_refl _) _
        have T2 := Lib.hid (Tri.new V0 a1 a3 3)
        have HD2 : Hid (¬ Foot (w.heap.size + 1) v' V0.heap.size) := Lib.hid (fun hf => by have := P0.out.ltX _ hf; omega)
        have HE2 : Hid (∀ y, v = y → ¬ Foot w.heap.size y V0.heap.size) := Lib.hid (fun y hy hf => by have := P0.out.ltC _ (hy ▸ hf); omega)
        have P1 := Lib.hid (P0.out.below hba)
        have S1 := Lib.hid (S0.out.but (But.of_below (S := fun _ => False) hba) (fun h => h))
        clear hba
        generalize V0.heap.size = D2 at *
        generalize V0.alloc (.cells #[.int .i64 a1, .int .i64 a3, .int .i64 a1] 3) = V1 at *
        (try dsimp only)
        refine hK.out _ _ ?_ (fun hHeld => ?_)
        · exact ⟨S1.out.c1, S1.out.c2, S1.out.c3⟩
        clear hK K
        (try simp only [Act.put, List.setIfInBounds_toArray, List.set_cons_zero, List.set_cons_succ, List.getElem_toArray, List.getElem_cons_succ, List.getElem_cons_zero])
        refine wpAnyH_ready (rs := [7]) (by kernel_rfl) (by simp) ?_
        refine AllReadyH.cons rfl (fun K hK => ?_) (AllReadyH.nil)
        go_simp
        have hba : Below V1.heap.size V1 (V1.alloc (.cells #[.int .i64 a1, .int .i64 a3, .int .i64 a1] 3)) := (Below.refl _ _).alloc (Nat.le_refl _) _
        have T1 := Lib.hid (Tri.new V1 a1 a3 3)
        have HD1 : Hid (¬ Foot w.heap.size v V1.heap.size) := Lib.hid (fun hf => by have := P1.out.ltC _ hf; omega)
        have T2 := Lib.hid (T2.out.but (But.of_below (S := fun _ => False) hba) (fun h => h))
        have P2 := Lib.hid (P1.out.below hba)
        have S2 := Lib.hid (S1.out.but (But.of_below (S := fun _ => False) hba) (fun h => h))
        clear hba
        generalize V1.heap.size = D1 at *
        generalize V1.alloc (.cells #[.int .i64 a1, .int .i64 a3, .int .i64 a1] 3) = V2 at *
        (try dsimp only)
        refine hK.out _ _ ?_ (fun hHeld => ?_)
        · exact ⟨S2.out.c1, S2.out.c2, S2.out.c3⟩
        clear hK K
        (try simp only [Act.put, List.setIfInBounds_toArray, List.set_cons_zero, List.set_cons_succ, List.getElem_toArray, List.getElem_cons_succ, List.getElem_cons_zero])
        refine wpAnyH_ready (rs := [8]) (by kernel_rfl) (by simp) ?_
        refine AllReadyH.cons rfl (fun K hK => ?_) (AllReadyH.nil)
        go_simp
        (go_at_call 15; refine (C1.out _ D1 P2.out.c T1.out HD1.out).mono ?_; rintro e V3 ⟨rfl, hst⟩; obtain ⟨⟨v9, hp1⟩, hbt1⟩ := P2.out.callC hst; have P3 := Lib.hid hp1; have S3 := Lib.hid (S2.out.but hbt1 P2.out.nC))
        have T2 := Lib.hid (T2.out.but hbt1 (HE2.out _ rfl))
        clear hst hp1 hbt1
        (try dsimp only)
        refine hK.out _ _ ?_ (fun hHeld => ?_)
        · exact ⟨S3.out.c1, S3.out.c2, S3.out.c3⟩
        clear hK K
        (try simp only [Act.put, List.setIfInBounds_toArray, List.set_cons_zero, List.set_cons_succ, List.getElem_toArray, List.getElem_cons_succ, List.getElem_cons_zero])
        refine wpAnyH_ready (rs := [17]) (by kernel_rfl) (by simp) ?_
        refine AllReadyH.cons rfl (fun K hK => ?_) (AllReadyH.nil)
        go_simp
        (go_at_call 16; refine (C2.out _ D2 P3.out.x T2.out HD2.out).mono ?_; rintro e V4 ⟨rfl, hst⟩; obtain ⟨⟨x9, hp1⟩, hbt1⟩ := P3.out.callX hst; have P4 := Lib.hid hp1; have S4 := Lib.hid (S3.out.but hbt1 P3.out.nX); clear hst hp1 hbt1)
        (try dsimp only)
        refine hK.out _ _ ?_ (fun hHeld => ?_)
        · exact ⟨S4.out.c1, S4.out.c2, S4.out.c3⟩
        clear hK K
        (try simp only [Act.put, List.setIfInBounds_toArray, List.set_cons_zero, List.set_cons_succ, List.getElem_toArray, List.getElem_cons_succ, List.getElem_cons_zero])
        refine wpAnyH_take (i := 18) (v := ?_) rfl (by kernel_rfl) (by kernel_rfl) (by kernel_rfl) (fun _ _ _ h => h) (Or.inl ⟨by rfl, ?_⟩) (by assumption) ?_
        rotate_left
        · intro w' hSw; (try dsimp only at hSw); go_simp; (try with_reducible rfl)
        (try simp only [Act.put, List.setIfInBounds_toArray, List.set_cons_zero, List.set_cons_succ, List.getElem_toArray, List.getElem_cons_succ, List.getElem_cons_zero])
        refine wpAnyH_take (i := 19) (v := ?_) rfl (by kernel_rfl) (by kernel_rfl) (by kernel_rfl) (fun _ _ _ h => h) (Or.inl ⟨by rfl, ?_⟩) (by assumption) ?_
        rotate_left
        · intro w' hSw; (try dsimp only at hSw); go_simp; (try with_reducible rfl)
        (try simp only [Act.put, List.setIfInBounds_toArray, List.set_cons_zero, List.set_cons_succ, List.getElem_toArray, List.getElem_cons_succ, List.getElem_cons_zero])
        refine wpAnyH_done (by kernel_rfl) ?_ _
        clear C1 C2 hHeld
        have P9 := P4
        have S9 := S4
        generalize V4 = W9 at *
        obtain ⟨n9, hn9⟩ : ∃ n9, n9 = nx := ⟨_, rfl⟩
        subst hn9
        have s4 := fun d os => cell_regrown S9.out.c4 d os
        have s5 := fun d os => cell_regrown S9.out.c5 d os
        have hlen9 : L9.length ≤ 1000 := by have := G9.out.len; omega
        obtain ⟨m9, hm9⟩ : ∃ m : Int, (L9.length : Int) = m := ⟨_, rfl⟩
        obtain ⟨f9, hf9⟩ : ∃ f, flo L9 (a4, a5) = f := ⟨_, rfl⟩
        obtain ⟨fm9, fc9⟩ := f9
        have A1 := Lib.hid fun (d' : Nat) (os : Array Obj) => Calls.regrown_of ((ls_len w.heap.size v9 L9 n9 (grow (redrawn W9 d') os) (P9.out.c.below (below_regrown W9 d' os))).mono fun e w' ⟨h1, h2⟩ => (⟨by rw [h1, hm9], by rw [← h2]; exact Below.refl _ _⟩ : e = .returned (.int .i64 m9) ∧ Below (grow (redrawn W9 d') os).heap.size (grow (redrawn W9 d') os) w'))
        have A2 := Lib.hid fun (d' : Nat) (os : Array Obj) => Calls.regrown_of ((lr_len (w.heap.size + 1) x9 L9 n9 (grow (redrawn W9 d') os) (P9.out.x.below (below_regrown W9 d' os))).mono fun e w' ⟨h1, h2⟩ => (⟨by rw [h1, hm9], by rw [← h2]; exact Below.refl _ _⟩ : e = .returned (.int .i64 m9) ∧ Below (grow (redrawn W9 d') os).heap.size (grow (redrawn W9 d') os) w'))
        have A3 := Lib.hid fun (d' : Nat) (os : Array Obj) => Calls.regrown_of ((ls_floor w.heap.size v9 L9 n9 a4 a5 (grow (redrawn W9 d') os) (P9.out.c.below (below_regrown W9 d' os)) hlen9).mono fun e w' ⟨h1, h2⟩ => (⟨by rw [h1, hf9], h2⟩ : e = .returned (.agg #[.int .i64 fm9, .int .i64 fc9]) ∧ Below (grow (redrawn W9 d') os).heap.size (grow (redrawn W9 d') os) w'))
        have A4 := Lib.hid fun (d' : Nat) (os : Array Obj) => Calls.regrown_of ((lr_floor (w.heap.size + 1) x9 L9 n9 a4 a5 (grow (redrawn W9 d') os) (P9.out.x.below (below_regrown W9 d' os)) hlen9).mono fun e w' ⟨h1, h2⟩ => (⟨by rw [h1, hf9], h2⟩ : e = .returned (.agg #[.int .i64 fm9, .int .i64 fc9]) ∧ Below (grow (redrawn W9 d') os).heap.size (grow (redrawn W9 d') os) w'))
        have u1 : (m9 != m9) = false := by simp
        have u2 : (fm9 == fm9) = true := by simp
        have u3 : (fc9 == fc9) = true := by simp
        clear hm9 hf9 hlen9
        go_wp2_with fail
        refine wp_region_quiet_below (by kernel_rfl) (by kernel_rfl) ?_
        repeat (go_big_quiet_step ((first | (go_at_call 19; exact A1.out _ _) | (go_at_call 20; exact A2.out _ _) | (go_at_call 21; exact A3.out _ _) | (go_at_call 22; exact A4.out _ _))))
        refine wpQuiet_nil ?_
        intro _ hw'
        obtain ⟨⟨dq, osq⟩, hw''⟩ := hw'
        subst hw''
        have PF := Lib.hid ((P9.out.below (below_regrown W9 dq osq)).fin G9.out)
        clear s4 s5 A1 A2 A3 A4 P9 S9 G9
        generalize hgw : grow (redrawn W9 dq) osq = WW at *
        clear hgw
        go_wp2
        go_roundw
        case rel => exact ⟨k + 1, by have := HKN.out.1; omega, by have := HKN.out.2; omega, by go_num, PF.out⟩
        case measure => have := HKN.out.1; simp [intOf]; omega
    have p4 : (a0 == 4) = false := by simpa using hk4
    by_cases hk5 : a0 = 5
    · subst hk5
      have hlen0 : L.length ≤ 1000 := by have := G0.out.len; omega
      have C1 := Lib.hid (fun (W : World) (h : Ls W w.heap.size v L nx) => (ls_expire w.heap.size v L nx a2 W h hlen0).mono fun e w' ⟨h1, h2⟩ => And.intro h1 (stC_exp h2))
      have C2 := Lib.hid (fun (W : World) (h : Lr W (w.heap.size + 1) v' L nx) => lr_expire (w.heap.size + 1) v' L nx a2 W h hlen0)
      obtain ⟨L9, hat⟩ : ∃ L9, keep a2 L = L9 := ⟨_, rfl⟩
      have G9 : Hid (LeG L9 nx (k + 1)) := Lib.hid (by rw [← hat]; exact G0.out.sub (keep_sub _ _))
      rw [hat] at C1 C2
      obtain ⟨e8, he8⟩ : ∃ e8 : Int, (L.length : Int) - (L9.length : Int) = e8 := ⟨_, rfl⟩
      rw [he8] at C1 C2
      have u9 : (e8 == e8) = true := by simp
      clear hat hlen0 G0 he8
      have c0 := S0.out.c0
      have c1 := S0.out.c1
      have c2 := S0.out.c2
      have c3 := S0.out.c3
      go_wp2_with fail
      have hdr : Below (wr.alloc (.cells #[.int .i64 5, .int .i64 a1, .int .i64 a2, .int .i64 a3, .int .i64 a4, .int .i64 a5] 32)).heap.size (wr.alloc (.cells #[.int .i64 5, .int .i64 a1, .int .i64 a2, .int .i64 a3, .int .i64 a4, .int .i64 a5] 32)) (wr.alloc (.cells #[.int .i64 5, .int .i64 a1, .int .i64 a2, .int .i64 a3, .int .i64 a4, .int .i64 a5] 32)).drew := (Below.refl _ _).drew
      have S0 := Lib.hid (S0.out.but (But.of_below (S := fun _ => False) hdr) (fun h => h))
      have P0 := Lib.hid (P0.out.below hdr)
      clear hdr q0 q1 q2 q3 q4 q5
      refine wp_region_held_drew (S := (fun w' => w'.cell? ⟨wr.heap.size, 1, none⟩ = some (.int .i64 a1) ∧ w'.cell? ⟨wr.heap.size, 2, none⟩ = some (.int .i64 a2) ∧ w'.cell? ⟨wr.heap.size, 3, none⟩ = some (.int .i64 a3))) (by kernel_rfl) ?_ (fun hHeld => ?_)
      · exact ⟨S0.out.c1, S0.out.c2, S0.out.c3⟩
      clear c0 c1 c2 c3
      refine wpAnyH_take (i := 0) (v := ?_) rfl (by kernel_rfl) (by kernel_rfl) (by kernel_rfl) (fun _ _ _ h => h) (Or.inl ⟨by rfl, ?_⟩) (by assumption) ?_
      rotate_left
      · intro w' hSw; (try dsimp only at hSw); go_simp; (try with_reducible rfl)
      (try simp only [Act.put, List.setIfInBounds_toArray, List.set_cons_zero, List.set_cons_succ, List.getElem_toArray, List.getElem_cons_succ, List.getElem_cons_zero])
      refine wpAnyH_take (i := 1) (v := ?_) rfl (by kernel_rfl) (by kernel_rfl) (by kernel_rfl) (fun _ _ _ h => h) (Or.inl ⟨by rfl, ?_⟩) (by assumption) ?_
      rotate_left
      · intro w' hSw; (try dsimp only at hSw); go_simp; (try with_reducible rfl)
      (try simp only [Act.put, List.setIfInBounds_toArray, List.set_cons_zero, List.set_cons_succ, List.getElem_toArray, List.getElem_cons_succ, List.getElem_cons_zero])
      refine wpAnyH_take (i := 2) (v := ?_) rfl (by kernel_rfl) (by kernel_rfl) (by kernel_rfl) (fun _ _ _ h => h) (Or.inl ⟨by rfl, ?_⟩) (by assumption) ?_
      rotate_left
      · intro w' hSw; (try dsimp only at hSw); go_simp; (try with_reducible rfl)
      (try simp only [Act.put, List.setIfInBounds_toArray, List.set_cons_zero, List.set_cons_succ, List.getElem_toArray, List.getElem_cons_succ, List.getElem_cons_zero])
      refine wpAnyH_take (i := 4) (v := ?_) rfl (by kernel_rfl) (by kernel_rfl) (by kernel_rfl) (fun _ _ _ h => h) (Or.inl ⟨by rfl, ?_⟩) (by assumption) ?_
      rotate_left
      · intro w' hSw; (try dsimp only at hSw); go_simp; (try with_reducible rfl)
      (try simp only [Act.put, List.setIfInBounds_toArray, List.set_cons_zero, List.set_cons_succ, List.getElem_toArray, List.getElem_cons_succ, List.getElem_cons_zero])
      refine wpAnyH_take (i := 5) (v := ?_) rfl (by kernel_rfl) (by kernel_rfl) (by kernel_rfl) (fun _ _ _ h => h) (Or.inl ⟨by rfl, ?_⟩) (by assumption) ?_
      rotate_left
      · intro w' hSw; (try dsimp only at hSw); go_simp; (try with_reducible rfl)
      (try simp only [Act.put, List.setIfInBounds_toArray, List.set_cons_zero, List.set_cons_succ, List.getElem_toArray, List.getElem_cons_succ, List.getElem_cons_zero])
      refine wpAnyH_take (i := 6) (v := ?_) rfl (by kernel_rfl) (by kernel_rfl) (by kernel_rfl) (fun _ _ _ h => h) (Or.inl ⟨by rfl, ?_⟩) (by assumption) ?_
      rotate_left
      · intro w' hSw; (try dsimp only at hSw); go_simp; (try with_reducible rfl)
      (try simp only [Act.put, List.setIfInBounds_toArray, List.set_cons_zero, List.set_cons_succ, List.getElem_toArray, List.getElem_cons_succ, List.getElem_cons_zero])
      refine wpAnyH_ready (rs := [3]) (by kernel_rfl) (by simp) ?_
      refine AllReadyH.cons rfl (fun K hK => ?_) (AllReadyH.nil)
      go_simp
      (go_at_call 17; refine (C1.out _ P0.out.c).mono ?_; rintro e w1 ⟨rfl, hst⟩; obtain ⟨⟨v9, hp1⟩, hbt1⟩ := P0.out.callC hst; have P1 := Lib.hid hp1; have S1 := Lib.hid (S0.out.but hbt1 P0.out.nC); clear hst hp1 hbt1)
      (try dsimp only)
      refine hK.out _ _ ?_ (fun hHeld => ?_)
      · exact ⟨S1.out.c1, S1.out.c2, S1.out.c3⟩
      clear hK K
      (try simp only [Act.put, List.setIfInBounds_toArray, List.set_cons_zero, List.set_cons_succ, List.getElem_toArray, List.getElem_cons_succ, List.getElem_cons_zero])
      refine wpAnyH_ready (rs := [7]) (by kernel_rfl) (by simp) ?_
      refine AllReadyH.cons rfl (fun K hK => ?_) (AllReadyH.nil)
      go_simp
      (go_at_call 18; refine (C2.out _ P1.out.x).mono ?_; rintro e W9 ⟨rfl, hst⟩; obtain ⟨⟨x9, hp1⟩, hbt1⟩ := P1.out.callX hst; have P9 := Lib.hid hp1; have S9 := Lib.hid (S1.out.but hbt1 P1.out.nX); clear hst hp1 hbt1)
      (try dsimp only)
      refine hK.out _ _ ?_ (fun hHeld => ?_)
      · exact ⟨S9.out.c1, S9.out.c2, S9.out.c3⟩
      clear hK K
      (try simp only [Act.put, List.setIfInBounds_toArray, List.set_cons_zero, List.set_cons_succ, List.getElem_toArray, List.getElem_cons_succ, List.getElem_cons_zero])
      refine wpAnyH_take (i := 8) (v := ?_) rfl (by kernel_rfl) (by kernel_rfl) (by kernel_rfl) (fun _ _ _ h => h) (Or.inl ⟨by rfl, ?_⟩) (by assumption) ?_
      rotate_left
      · intro w' hSw; (try dsimp only at hSw); go_simp; (try with_reducible rfl)
      (try simp only [Act.put, List.setIfInBounds_toArray, List.set_cons_zero, List.set_cons_succ, List.getElem_toArray, List.getElem_cons_succ, List.getElem_cons_zero])
      refine wpAnyH_take (i := 9) (v := ?_) rfl (by kernel_rfl) (by kernel_rfl) (by kernel_rfl) (fun _ _ _ h => h) (Or.inl ⟨by rfl, ?_⟩) (by assumption) ?_
      rotate_left
      · intro w' hSw; (try dsimp only at hSw); go_simp; (try with_reducible rfl)
      (try simp only [Act.put, List.setIfInBounds_toArray, List.set_cons_zero, List.set_cons_succ, List.getElem_toArray, List.getElem_cons_succ, List.getElem_cons_zero])
      refine wpAnyH_done (by kernel_rfl) ?_ _
      clear C1 C2 S0 P0 S1 P1 hHeld
      obtain ⟨n9, hn9⟩ : ∃ n9, n9 = nx := ⟨_, rfl⟩
      subst hn9
      have s4 := fun d os => cell_regrown S9.out.c4 d os
      have s5 := fun d os => cell_regrown S9.out.c5 d os
      have hlen9 : L9.length ≤ 1000 := by have := G9.out.len; omega
      obtain ⟨m9, hm9⟩ : ∃ m : Int, (L9.length : Int) = m := ⟨_, rfl⟩
      obtain ⟨f9, hf9⟩ : ∃ f, flo L9 (a4, a5) = f := ⟨_, rfl⟩
      obtain ⟨fm9, fc9⟩ := f9
      have A1 := Lib.hid fun (d' : Nat) (os : Array Obj) => Calls.regrown_of ((ls_len w.heap.size v9 L9 n9 (grow (redrawn W9 d') os) (P9.out.c.below (below_regrown W9 d' os))).mono fun e w' ⟨h1, h2⟩ => (⟨by rw [h1, hm9], by rw [← h2]; exact Below.refl _ _⟩ : e = .returned (.int .i64 m9) ∧ Below (grow (redrawn W9 d') os).heap.size (grow (redrawn W9 d') os) w'))
      have A2 := Lib.hid fun (d' : Nat) (os : Array Obj) => Calls.regrown_of ((lr_len (w.heap.size + 1) x9 L9 n9 (grow (redrawn W9 d') os) (P9.out.x.below (below_regrown W9 d' os))).mono fun e w' ⟨h1, h2⟩ => (⟨by rw [h1, hm9], by rw [← h2]; exact Below.refl _ _⟩ : e = .returned (.int .i64 m9) ∧ Below (grow (redrawn W9 d') os).heap.size (grow (redrawn W9 d') os) w'))
      have A3 := Lib.hid fun (d' : Nat) (os : Array Obj) => Calls.regrown_of ((ls_floor w.heap.size v9 L9 n9 a4 a5 (grow (redrawn W9 d') os) (P9.out.c.below (below_regrown W9 d' os)) hlen9).mono fun e w' ⟨h1, h2⟩ => (⟨by rw [h1, hf9], h2⟩ : e = .returned (.agg #[.int .i64 fm9, .int .i64 fc9]) ∧ Below (grow (redrawn W9 d') os).heap.size (grow (redrawn W9 d') os) w'))
      have A4 := Lib.hid fun (d' : Nat) (os : Array Obj) => Calls.regrown_of ((lr_floor (w.heap.size + 1) x9 L9 n9 a4 a5 (grow (redrawn W9 d') os) (P9.out.x.below (below_regrown W9 d' os)) hlen9).mono fun e w' ⟨h1, h2⟩ => (⟨by rw [h1, hf9], h2⟩ : e = .returned (.agg #[.int .i64 fm9, .int .i64 fc9]) ∧ Below (grow (redrawn W9 d') os).heap.size (grow (redrawn W9 d') os) w'))
      have u1 : (m9 != m9) = false := by simp
      have u2 : (fm9 == fm9) = true := by simp
      have u3 : (fc9 == fc9) = true := by simp
      clear hm9 hf9 hlen9
      go_wp2_with fail
      refine wp_region_quiet_below (by kernel_rfl) (by kernel_rfl) ?_
      repeat (go_big_quiet_step ((first | (go_at_call 19; exact A1.out _ _) | (go_at_call 20; exact A2.out _ _) | (go_at_call 21; exact A3.out _ _) | (go_at_call 22; exact A4.out _ _))))
      refine wpQuiet_nil ?_
      intro _ hw'
      obtain ⟨⟨dq, osq⟩, hw''⟩ := hw'
      subst hw''
      have PF := Lib.hid ((P9.out.below (below_regrown W9 dq osq)).fin G9.out)
      clear s4 s5 A1 A2 A3 A4 P9 S9 G9
      generalize hgw : grow (redrawn W9 dq) osq = WW at *
      clear hgw
      go_wp2
      go_roundw
      case rel => exact ⟨k + 1, by have := HKN.out.1; omega, by have := HKN.out.2; omega, by go_num, PF.out⟩
      case measure => have := HKN.out.1; simp [intOf]; omega
    have p5 : (a0 == 5) = false := by simpa using hk5
    · clear hk1 hk2 hk3 hk4 hk5
      have c0 := S0.out.c0
      have S9 := S0
      have P9 := P0
      have G9 := Lib.hid G0.out.step
      clear S0 P0 G0
      go_wp2_with fail
      clear c0 q0 q1 q2 q3 q4 q5
      generalize (wr.alloc (.cells #[.int .i64 a0, .int .i64 a1, .int .i64 a2, .int .i64 a3, .int .i64 a4, .int .i64 a5] 32)) = W9 at *
      obtain ⟨v9, hv9⟩ : ∃ v9, v9 = v := ⟨_, rfl⟩
      obtain ⟨x9, hx9⟩ : ∃ x9, x9 = v' := ⟨_, rfl⟩
      obtain ⟨L9, hl9⟩ : ∃ L9, L9 = L := ⟨_, rfl⟩
      obtain ⟨n9, hn9⟩ : ∃ n9, n9 = nx := ⟨_, rfl⟩
      subst hv9 hx9 hl9 hn9
      have s4 := fun d os => cell_regrown S9.out.c4 d os
      have s5 := fun d os => cell_regrown S9.out.c5 d os
      have hlen9 : L9.length ≤ 1000 := by have := G9.out.len; omega
      obtain ⟨m9, hm9⟩ : ∃ m : Int, (L9.length : Int) = m := ⟨_, rfl⟩
      obtain ⟨f9, hf9⟩ : ∃ f, flo L9 (a4, a5) = f := ⟨_, rfl⟩
      obtain ⟨fm9, fc9⟩ := f9
      have A1 := Lib.hid fun (d' : Nat) (os : Array Obj) => Calls.regrown_of ((ls_len w.heap.size v9 L9 n9 (grow (redrawn W9 d') os) (P9.out.c.below (below_regrown W9 d' os))).mono fun e w' ⟨h1, h2⟩ => (⟨by rw [h1, hm9], by rw [← h2]; exact Below.refl _ _⟩ : e = .returned (.int .i64 m9) ∧ Below (grow (redrawn W9 d') os).heap.size (grow (redrawn W9 d') os) w'))
      have A2 := Lib.hid fun (d' : Nat) (os : Array Obj) => Calls.regrown_of ((lr_len (w.heap.size + 1) x9 L9 n9 (grow (redrawn W9 d') os) (P9.out.x.below (below_regrown W9 d' os))).mono fun e w' ⟨h1, h2⟩ => (⟨by rw [h1, hm9], by rw [← h2]; exact Below.refl _ _⟩ : e = .returned (.int .i64 m9) ∧ Below (grow (redrawn W9 d') os).heap.size (grow (redrawn W9 d') os) w'))
      have A3 := Lib.hid fun (d' : Nat) (os : Array Obj) => Calls.regrown_of ((ls_floor w.heap.size v9 L9 n9 a4 a5 (grow (redrawn W9 d') os) (P9.out.c.below (below_regrown W9 d' os)) hlen9).mono fun e w' ⟨h1, h2⟩ => (⟨by rw [h1, hf9], h2⟩ : e = .returned (.agg #[.int .i64 fm9, .int .i64 fc9]) ∧ Below (grow (redrawn W9 d') os).heap.size (grow (redrawn W9 d') os) w'))
      have A4 := Lib.hid fun (d' : Nat) (os : Array Obj) => Calls.regrown_of ((lr_floor (w.heap.size + 1) x9 L9 n9 a4 a5 (grow (redrawn W9 d') os) (P9.out.x.below (below_regrown W9 d' os)) hlen9).mono fun e w' ⟨h1, h2⟩ => (⟨by rw [h1, hf9], h2⟩ : e = .returned (.agg #[.int .i64 fm9, .int .i64 fc9]) ∧ Below (grow (redrawn W9 d') os).heap.size (grow (redrawn W9 d') os) w'))
      have u1 : (m9 != m9) = false := by simp
      have u2 : (fm9 == fm9) = true := by simp
      have u3 : (fc9 == fc9) = true := by simp
      clear hm9 hf9 hlen9
      go_wp2_with fail
      refine wp_region_quiet_below (by kernel_rfl) (by kernel_rfl) ?_
      repeat (go_big_quiet_step ((first | (go_at_call 19; exact A1.out _ _) | (go_at_call 20; exact A2.out _ _) | (go_at_call 21; exact A3.out _ _) | (go_at_call 22; exact A4.out _ _))))
      refine wpQuiet_nil ?_
      intro _ hw'
      obtain ⟨⟨dq, osq⟩, hw''⟩ := hw'
      subst hw''
      have PF := Lib.hid ((P9.out.below (below_regrown W9 dq osq)).fin G9.out)
      clear s4 s5 A1 A2 A3 A4 P9 S9 G9
      generalize hgw : grow (redrawn W9 dq) osq = WW at *
      clear hgw
      go_wp2
      go_roundw
      case rel => exact ⟨k + 1, by have := HKN.out.1; omega, by have := HKN.out.2; omega, by go_num, PF.out⟩
      case measure => have := HKN.out.1; simp [intOf]; omega
set_option maxRecDepth 100000 in
theorem leasePlays_lifted (os : Os) (started : os.Started) (H : Type) (enc : TypeId × Value → H) :
    ReturnsInHanded {} Try.checked os 3 .any (Rows.leasePlaysSpec.pre6 enc Try.prog Try.f3 Rows.leasePlaysRow.domain false) (Rows.leasePlaysSpec.post enc Try.prog Try.f3 false true false false) := by
  refine returnsInHanded_of_change_sized (C := Try.checked) law_own started (by kernel_rfl) Try.func3
    (ChangeSpec.witness6 (enc := enc) (C := Try.checked) false ⟨#[], #[.slice none 0 0], []⟩ 8 (by kernel_rfl) (by kernel_rfl) (by kernel_rfl) (by kernel_rfl)) ?_
  intro W base args ds gs before hval0 hW hcnd hsz0 _
  have hval : ∀ (j : Nat) t v, Try.f3.params[j]? = some t → args[j]? = some v → Value.okWide Try.prog W .any base t v := hval0
  have hsz : (DataW.weightsEach Try.prog (Try.f3.params.toList ++ Rows.leasePlaysSpec.plain.varTypes Try.prog) (ds ++ gs)).all (· ≤ reachBytes) = true := hsz0
  have hW' := hW
  obtain ⟨p, q, hA0, hV, rfl, hfz, hnd⟩ := hW
  have hA : DataW.TrodAll enc Try.prog W 0 (fun _ => true) true Try.f3.params.toList args.toList ds p := hA0
  rw [Try.params3] at hA hval hsz
  have hsame : (Rows.leasePlaysSpec.fn H (ds ++ gs)).results = [.lit (.bool true)] ∧ (Rows.leasePlaysSpec.fn H (ds ++ gs)).args = ds ∧ (Rows.leasePlaysSpec.fn H (ds ++ gs)).vars = [] → ∀ W', Below W.heap.size W W' → Rows.leasePlaysSpec.post enc Try.prog Try.f3 false true false false W args (.bool true) W' :=
    fun h W' hb => law_post (tb := 4) hW' law_laid (by kernel_rfl) rfl Try.underlying4 h.1 h.2.1 rfl h.2.2 hb
  obtain ⟨v0, vs0, d0, ds0, p0, q0, hargs, rfl, rfl, h0, r0⟩ := trodAll_cons hA
  obtain ⟨rfl, rfl, rfl⟩ := trodAll_nil r0
  obtain rfl : args = #[v0] := by cases args; simp_all
  obtain ⟨rfl, rfl⟩ := trodVars_none hV
  have hpost := hsame ⟨rfl, rfl, rfl⟩
  clear hsame hA0 hval0 hsz0
  obtain ⟨A, L, c, z, rfl, hn, hz⟩ := open_flat_slice (m := 6) Try.underlying22 (by kernel_rfl) (by kernel_rfl) (by omega) (hval 0 22 v0 rfl rfl) h0
  exact (leasePlays_in A L c z W hz (by omega)).mono fun e W' ⟨he, hb⟩ => ⟨_, he, hpost W' hb⟩
theorem leasePlays_holds : Rows.LeasePlaysSaid :=
  OpenClaim.holds_of_wide 3 Try.f3 rfl rfl rfl rfl rfl rfl rfl ⟨rfl, rfl, rfl, rfl, rfl⟩ rfl rfl rfl rfl rfl (by kernel_rfl) Try.func3 (by kernel_rfl)
    (of_decide_eq_true (by kernel_rfl)) (by unfold Func.isWrapper; first | (rw [if_pos (by decide +kernel)]; kernel_rfl) | (rw [if_neg (by decide +kernel)]; exact ⟨rfl, rfl⟩))
    (fun os started H enc _ => leasePlays_lifted os started H enc)
end Go.Proofs.Ytacchkokbibeaaa
