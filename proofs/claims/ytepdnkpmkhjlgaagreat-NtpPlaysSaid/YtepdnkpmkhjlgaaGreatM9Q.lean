/- NTP: the reference's settles: what most servers say (written by gen/rset.py). -/
import Derived.Test.YtepdnkpmkhjlgaaGreatM9L
import Derived.Test.YtepdnkpmkhjlgaaGreatRef4Tai
import Derived.BigGuard
import Derived.BigGuardPart
import Derived.BigCall
import Derived.Lib.QuietBelow
import Derived.Test.YtepdnkpmkhjlgaaGreatRef7
import Derived.Test.YtepdnkpmkhjlgaaGreatRef8Turn
import Derived.Laws.AppendOwn
/- NTP: the reference's moment and nanos (written by gen/rmom.py). -/
set_option linter.unusedSimpArgs false
set_option linter.unusedVariables false
namespace Go.Proofs.YtepdnkpmkhjlgaaGreat
open Go.RowKit Go.Sort

theorem r_nanos (p : Int) (w : World) (h0 : 0 ≤ p) (h1 : p ≤ 4294967295) : Calls Tryz.prog 50 #[.int .i64 p] w fun e w' => e = .returned (.int .i64 (nanV p)) ∧ w = w' := by
  have e1 : IntKind.i64.wrap (p * 1000000000) = p * 1000000000 := IntWalk.i64_in _ (by omega)
  have e2 : IntKind.i64.wrap (p * 1000000000 + 65535) = p * 1000000000 + 65535 := IntWalk.i64_in _ (by omega)
  have e4 : (p * 1000000000 + 65535).tdiv 65536 = nanV p := by rw [Int.tdiv_eq_ediv_of_nonneg (by omega)]; rfl
  have e5 := nan_bd p h0 h1
  have e6 : IntKind.i64.wrap (nanV p) = nanV p := IntWalk.i64_in _ (by omega)
  generalize nanV p = q at *
  go_enter Tryz.func50, Tryz.ntmps50
  go_wp2
  go_ret
  exact ⟨rfl, rfl⟩
theorem tdiv_two (a : Int) : (Int.tmod a 2 < 0 → Int.tdiv a 2 = a / 2 + 1) ∧ (¬ Int.tmod a 2 < 0 → Int.tdiv a 2 = a / 2) := by
  rcases Int.le_total 0 a with h | h
  · rw [Int.tdiv_eq_ediv_of_nonneg h, Int.tmod_eq_emod_of_nonneg h]
    omega
  · obtain ⟨b, hb⟩ : ∃ b, a = -b := ⟨-a, by omega⟩
    subst hb
    rw [Int.neg_tdiv, Int.neg_tmod, Int.tdiv_eq_ediv_of_nonneg (by omega), Int.tmod_eq_emod_of_nonneg (by omega)]
    omega
theorem ref4_floor2 (a : Int) (w : World) (h0 : -9223372036854775808 ≤ a) (h1 : a ≤ 9223372036854775807) : Calls Tryz.prog 49 #[.int .i64 a, .int .i64 2] w fun e w' => e = .returned (.int .i64 (a / 2)) ∧ w = w' := by
  by_cases hc : a.tmod 2 < 0
  · have t : decide (a.tmod 2 < 0) = true := by simpa using hc
    have q : a.tdiv 2 - 1 = a / 2 := by have := (tdiv_two a).1 hc; omega
    have HQ := Lib.hid q
    have b1 : -9223372036854775808 ≤ a.tdiv 2 - 1 ∧ a.tdiv 2 - 1 ≤ 9223372036854775807 := by omega
    have b2 : -9223372036854775808 ≤ a.tdiv 2 ∧ a.tdiv 2 ≤ 9223372036854775807 := by omega
    clear q hc
    go_enter Tryz.func49, Tryz.ntmps49
    go_wp2
    go_ret
    exact ⟨ret_int HQ.out, rfl⟩
  · have t : decide (a.tmod 2 < 0) = false := by simpa using hc
    have q : a.tdiv 2 = a / 2 := (tdiv_two a).2 hc
    have HQ := Lib.hid q
    have b2 : -9223372036854775808 ≤ a.tdiv 2 ∧ a.tdiv 2 ≤ 9223372036854775807 := by omega
    clear q hc
    go_enter Tryz.func49, Tryz.ntmps49
    go_wp2
    go_ret
    exact ⟨ret_int HQ.out, rfl⟩
set_option maxRecDepth 100000 in
set_option maxHeartbeats 4000000 in
theorem r_moment {w : World} {b bc bs : Nat} {A : Option Addr} {n cc : Nat} {x : Int} {z : Nat → Int} {N : Nat} {K : Cs} (h : Nc layR w b bc bs A n cc x z N K) (s day : Int) (s0 : 0 ≤ s) (s1 : s < 18446744073709551616) (d0 : -1 ≤ day) (d1 : day ≤ 106752) :
    Calls Tryz.prog 48 #[.pointer (some ⟨b, 0, none⟩), .int .u64 s, .int .i64 day] w fun e w' => e = .returned (.tuple #[.int .i64 (momV z n x s day).1, .int .i64 (momV z n x s day).2]) ∧ Below w.heap.size w w' := by
  have hn : n ≤ maxLen := by have := h.tb.2.1; unfold maxLen; omega
  have hdy : dayB day = true := dayB_mk (by omega) (by omega)
  have bN := nearDay_bd s day d0 d1
  have bM := nearNano_bd s day s0
  have HN0 := fun W : World => ref5_near s day W s0 s1
  have hNR : nearR s day = if dayB (nearDay s day) then .tuple #[.agg #[.int .i64 (nearDay s day), .int .i64 (nearNano s day)], .int .i64 0] else .tuple #[.agg #[.int .i64 0, .int .i64 0], .int .i64 11] := by unfold nearR; rw [if_pos hdy]
  have HZ := Lib.hid (fun (W : World) (k : Below w.heap.size w W) => h.below k)
  have hlb := h.lt
  by_cases hd : dayB (nearDay s day) = false
  · as_aux_lemma =>
    rw [hNR, hd] at HN0
    simp only [Bool.false_eq_true, if_false] at HN0
    have HN := Lib.hid HN0
    have hv : momV z n x s day = (0, 11) := by unfold momV; rw [if_pos hd]
    rw [hv]
    clear HN0 hNR hd bN bM hv
    go_enter Tryz.func48, Tryz.ntmps48
    go_wp2_with fail
    refine (HN.out w).mono ?_; rintro e w1 ⟨rfl, k1⟩
    have z1 := k1.size
    go_wp2_with fail
    go_ret2
    exact ⟨rfl, by (repeat' (first | (with_reducible exact Below.refl _ _) | (with_reducible assumption) | (with_reducible refine Below.trans ?_ (Below.mono (by with_reducible assumption) ?_)) | (with_reducible refine Below.alloc ?_ ?_ _) | (with_reducible refine Below.setCell ?_ ?_ _) | (with_reducible refine below_drewN ?_ _) | (with_reducible refine Below.drew ?_) | go_size))⟩
  · as_aux_lemma =>
    have hd' : dayB (nearDay s day) = true := by cases hq : dayB (nearDay s day) <;> simp_all
    rw [hNR, hd'] at HN0
    simp only [if_true] at HN0
    have HN := Lib.hid HN0
    have hdb := dayB_yes hd'
    have hv : momV z n x s day = if x ≤ nearDay s day then (0, 13) else if lenN z n (nearDay s day) * 1000000000 ≤ nearNano s day then (0, 11) else (taiN z n (nearDay s day) (nearNano s day), 0) := by unfold momV; rw [if_neg (by rw [hd']; simp)]
    rw [hv]
    have HLT := Lib.hid (fun (W : World) (k : Below w.heap.size w W) (q : lenN z n (nearDay s day) * 1000000000 ≤ nearNano s day) => ref4_tai_late A n cc x (nearDay s day) (nearNano s day) z W (h.below k).tab hn h.tb hdb.1 hdb.2 bM.1 q)
    have HOK := Lib.hid (fun (W : World) (k : Below w.heap.size w W) (q : nearNano s day < lenN z n (nearDay s day) * 1000000000) => ref4_tai_ok A n cc x (nearDay s day) (nearNano s day) z W (h.below k).tab hn h.tb hdb.1 hdb.2 bM.1 q)
    have hTV : taiN z n (nearDay s day) (nearNano s day) = addS (addS (mulS (nearDay s day) 86400000000000) (nearNano s day)) (mulS (offK z (nearDay s day) n) 1000000000) := rfl
    rw [← hTV] at HOK
    generalize taiN z n (nearDay s day) (nearNano s day) = tv at *
    generalize lenN z n (nearDay s day) = ln at *
    generalize nearNano s day = nn at *
    generalize nearDay s day = nd at *
    clear HN0 hNR hd hd' hv hTV hdb bM
    by_cases hx : x ≤ nd
    · rw [if_pos hx]
      have t1 : decide (nd ≥ x) = true := by simpa using hx
      have t2 : decide (x ≤ nd) = true := by simpa using hx
      clear HLT HOK
      go_enter Tryz.func48, Tryz.ntmps48
      go_wp2_with fail
      refine (HN.out w).mono ?_; rintro e w1 ⟨rfl, k1⟩
      have z1 := k1.size
      have kk : Below w.heap.size w (w1.alloc (.cells #[.int .i64 nd, .int .i64 nn] 105)) := by (repeat' (first | (with_reducible exact Below.refl _ _) | (with_reducible assumption) | (with_reducible refine Below.trans ?_ (Below.mono (by with_reducible assumption) ?_)) | (with_reducible refine Below.alloc ?_ ?_ _) | (with_reducible refine Below.setCell ?_ ?_ _) | (with_reducible refine below_drewN ?_ _) | (with_reducible refine Below.drew ?_) | go_size))
      have hK := HZ.out _ kk
      have c1 := hK.c1
      have c2 := hK.c2
      have KB := Lib.hid kk
      clear hK kk
      go_wp2_with fail
      go_quiet (fail)
      go_wp2_with fail
      go_ret2
      exact ⟨rfl, below_drewN KB.out _⟩
    · rw [if_neg hx]
      have t1 : decide (nd ≥ x) = false := by simpa using hx
      have t2 : decide (x ≤ nd) = false := by simpa using hx
      clear hx
      by_cases hl : ln * 1000000000 ≤ nn
      · rw [if_pos hl]
        have HL := Lib.hid hl
        clear hl HOK
        go_enter Tryz.func48, Tryz.ntmps48
        go_wp2_with fail
        refine (HN.out w).mono ?_; rintro e w1 ⟨rfl, k1⟩
        have z1 := k1.size
        have kk : Below w.heap.size w (w1.alloc (.cells #[.int .i64 nd, .int .i64 nn] 105)) := by (repeat' (first | (with_reducible exact Below.refl _ _) | (with_reducible assumption) | (with_reducible refine Below.trans ?_ (Below.mono (by with_reducible assumption) ?_)) | (with_reducible refine Below.alloc ?_ ?_ _) | (with_reducible refine Below.setCell ?_ ?_ _) | (with_reducible refine below_drewN ?_ _) | (with_reducible refine Below.drew ?_) | go_size))
        have hK := HZ.out _ kk
        have c1 := hK.c1
        have c2 := hK.c2
        have KB := Lib.hid kk
        clear hK kk
        go_wp2_with fail
        go_quiet (fail)
        have u0 : ((w1.alloc (.cells #[.int .i64 nd, .int .i64 nn] 105)).drewN nq).cell? ⟨w1.heap.size, 0, none⟩ = some (.int .i64 nd) := by simp
        have u1 : ((w1.alloc (.cells #[.int .i64 nd, .int .i64 nn] 105)).drewN nq).cell? ⟨w1.heap.size, 1, none⟩ = some (.int .i64 nn) := by simp
        have c1 : ((w1.alloc (.cells #[.int .i64 nd, .int .i64 nn] 105)).drewN nq).cell? ⟨b, 1, none⟩ = some (.slice A n cc) := c1
        have c2 : ((w1.alloc (.cells #[.int .i64 nd, .int .i64 nn] 105)).drewN nq).cell? ⟨b, 2, none⟩ = some (.int .i64 x) := c2
        have KD : Hid (Below w.heap.size w ((w1.alloc (.cells #[.int .i64 nd, .int .i64 nn] 105)).drewN nq)) := Lib.hid (below_drewN KB.out nq)
        clear KB
        generalize (w1.alloc (.cells #[.int .i64 nd, .int .i64 nn] 105)).drewN nq = V at *
        have AC := Lib.hid fun (d' : Nat) (os : Array Obj) => Calls.regrown_of (HLT.out (grow (redrawn V d') os) (KD.out.trans ((below_regrown V d' os).mono KD.out.size)) HL.out)
        have kc1 := fun d os => cell_regrown c1 d os
        have kc2 := fun d os => cell_regrown c2 d os
        have ku0 := fun d os => cell_regrown u0 d os
        have ku1 := fun d os => cell_regrown u1 d os
        clear c1 c2 u0 u1
        go_wp2_with fail
        refine wp_region_quiet_below (by kernel_rfl) (by kernel_rfl) ?_
        repeat (go_big_quiet_step ((go_at_call 73; exact AC.out _ _)))
        refine wpQuiet_nil ?_
        intro _ hw'
        obtain ⟨⟨dq, osq⟩, hw''⟩ := hw'
        subst hw''
        go_wp2_with fail
        go_ret2
        exact ⟨rfl, KD.out.trans ((below_regrown V dq osq).mono KD.out.size)⟩
      · rw [if_neg hl]
        have HL := Lib.hid (show nn < ln * 1000000000 from by omega)
        clear hl HLT
        go_enter Tryz.func48, Tryz.ntmps48
        go_wp2_with fail
        refine (HN.out w).mono ?_; rintro e w1 ⟨rfl, k1⟩
        have z1 := k1.size
        have kk : Below w.heap.size w (w1.alloc (.cells #[.int .i64 nd, .int .i64 nn] 105)) := by (repeat' (first | (with_reducible exact Below.refl _ _) | (with_reducible assumption) | (with_reducible refine Below.trans ?_ (Below.mono (by with_reducible assumption) ?_)) | (with_reducible refine Below.alloc ?_ ?_ _) | (with_reducible refine Below.setCell ?_ ?_ _) | (with_reducible refine below_drewN ?_ _) | (with_reducible refine Below.drew ?_) | go_size))
        have hK := HZ.out _ kk
        have c1 := hK.c1
        have c2 := hK.c2
        have KB := Lib.hid kk
        clear hK kk
        go_wp2_with fail
        go_quiet (fail)
        have u0 : ((w1.alloc (.cells #[.int .i64 nd, .int .i64 nn] 105)).drewN nq).cell? ⟨w1.heap.size, 0, none⟩ = some (.int .i64 nd) := by simp
        have u1 : ((w1.alloc (.cells #[.int .i64 nd, .int .i64 nn] 105)).drewN nq).cell? ⟨w1.heap.size, 1, none⟩ = some (.int .i64 nn) := by simp
        have c1 : ((w1.alloc (.cells #[.int .i64 nd, .int .i64 nn] 105)).drewN nq).cell? ⟨b, 1, none⟩ = some (.slice A n cc) := c1
        have c2 : ((w1.alloc (.cells #[.int .i64 nd, .int .i64 nn] 105)).drewN nq).cell? ⟨b, 2, none⟩ = some (.int .i64 x) := c2
        have KD : Hid (Below w.heap.size w ((w1.alloc (.cells #[.int .i64 nd, .int .i64 nn] 105)).drewN nq)) := Lib.hid (below_drewN KB.out nq)
        clear KB
        generalize (w1.alloc (.cells #[.int .i64 nd, .int .i64 nn] 105)).drewN nq = V at *
        have AC := Lib.hid fun (d' : Nat) (os : Array Obj) => Calls.regrown_of (HOK.out (grow (redrawn V d') os) (KD.out.trans ((below_regrown V d' os).mono KD.out.size)) HL.out)
        have kc1 := fun d os => cell_regrown c1 d os
        have kc2 := fun d os => cell_regrown c2 d os
        have ku0 := fun d os => cell_regrown u0 d os
        have ku1 := fun d os => cell_regrown u1 d os
        clear c1 c2 u0 u1
        go_wp2_with fail
        refine wp_region_quiet_below (by kernel_rfl) (by kernel_rfl) ?_
        repeat (go_big_quiet_step ((go_at_call 73; exact AC.out _ _)))
        refine wpQuiet_nil ?_
        intro _ hw'
        obtain ⟨⟨dq, osq⟩, hw''⟩ := hw'
        subst hw''
        go_wp2_with fail
        go_ret2
        exact ⟨rfl, KD.out.trans ((below_regrown V dq osq).mono KD.out.size)⟩
end Go.Proofs.YtepdnkpmkhjlgaaGreat

/- NTP: the reference's settles: what most servers say (written by gen/rset.py). -/
namespace Go.Proofs.YtepdnkpmkhjlgaaGreat
open Go.RowKit Go.Sort

theorem rmost_list {l : List (Int × Int)} {A : Option Addr} {c : Nat} {W : World} (hz : FlatAt W A 2 l.length (zl l)) (hn : l.length ≤ 100000) : Calls Tryz.prog 76 #[.slice A l.length c] W (SomeMost l W) := by
  have h := ref7_most (zl l) A l.length c W hn hz
  rwa [ivs_zl] at h
theorem rst_stepR (S : Nat → Srv) (k : Nat) : updS (updS (updS (rstTo rstR S k) k { S k with has := false }) k { S k with has := false, lo := 0 }) k { S k with has := false, lo := 0, hi := 0 } = rstTo rstR S (k + 1) := by
  funext j
  by_cases h : j = k
  · subst h
    simp [updS, rstTo, rstR]
  · simp only [updS_other _ _ _ h, rstTo]
    by_cases h2 : j < k
    · rw [if_pos h2, if_pos (by omega)]
    · rw [if_neg h2, if_neg (by omega)]
set_option maxRecDepth 100000 in
set_option maxHeartbeats 8000000 in
theorem r_settles {w : World} {b bc bs : Nat} {A : Option Addr} {n cc : Nat} {x : Int} {z : Nat → Int} {N : Nat} {K : Cs} (h : Nc layR w b bc bs A n cc x z N K) (hK : K.Ok N) (hN : N ≤ 8) (count : Int) (hc : count ≤ K.c) :
    Calls Tryz.prog 51 #[.pointer (some ⟨b, 0, none⟩), .int .i64 count, .int .i64 K.t] w fun e w' => e = .returned (.tuple #[]) ∧ Nc layR w' b bc bs A n cc x z N (turnK rstR K N K.t) ∧ But (Ft b bc bs) w w' := by
  obtain ⟨i0, hi0, hz0, hz1, hz2⟩ := info_parts iv_info
  have hlb := h.lt
  have hlc := h.clk.lt
  have hls := h.sl
  have ht0 : 0 ≤ K.t ∧ K.t ≤ 9223372036854775807 := by have := hK.clk; unfold Ok3 at this; omega
  obtain ⟨hd, hhd⟩ : ∃ hd, K.t = hd := ⟨_, rfl⟩
  have HHD := Lib.hid hhd
  rw [hhd] at ht0 ⊢
  have HH := Lib.hid (fun (W : World) (k : Below w.heap.size w W) => h.below k)
  have HKK := Lib.hid hK
  have HTL := Lib.hid (cand_tells (hd := hd) hK.srv)
  have HB0 := Lib.hid (Below.refl w.heap.size w)
  clear hhd
  have hN' : (N : Int) ≤ 8 := by omega
  go_enter Tryz.func51, Tryz.ntmps51
  go_wp2_with fail
  go_loopw [6, 7] (fun l i wr => ∃ k : Nat, k ≤ N ∧ i = .int .i64 k ∧ POwn w.heap.size wr l (cand K.S hd k) ∧ Below w.heap.size w wr) (fun _ i _ => N - (intOf i).toNat)
  case atStart => exact ⟨0, by omega, rfl, POwn.nil _ _, HB0.out⟩
  case round =>
    obtain ⟨k, hk, rfl, hP, HB⟩ := hrel
    clear HB0
    have hW := HH.out wr HB
    have c3 := hW.c3
    by_cases hlt : k < N
    · obtain ⟨x0, x1, x2, x3, x4, x5⟩ := hW.sixR k hlt
      have hok := HKK.out.srv k hlt
      have hh0 := hok.h0
      have hh1 := hok.h1
      have HCS := Lib.hid (show cand K.S hd (k + 1) = cand K.S hd k ++ (if frB (K.S k) hd then [((K.S k).lo, (K.S k).hi)] else []) from rfl)
      have hfr : frB (K.S k) hd = ((K.S k).has && decide (hd - (K.S k).h ≤ 1024000000000)) := rfl
      rw [hfr] at HCS
      have hlen := cand_len K.S hd k
      have lk : (k : Int) < (N : Int) := by omega
      have zr := HB.size
      have lsr : bs < wr.heap.size := by omega
      obtain ⟨C, hC⟩ : ∃ C, cand K.S hd k = C := ⟨_, rfl⟩
      have HCB := Lib.hid HB
      rw [hC] at hP HCS hlen
      obtain ⟨C', hC'⟩ : ∃ C', cand K.S hd (k + 1) = C' := ⟨_, rfl⟩
      rw [hC'] at HCS
      have HC' := Lib.hid hC'
      generalize (K.S k).q = q at *
      generalize (K.S k).a = a at *
      generalize (K.S k).h = hh at *
      generalize (K.S k).lo = lo at *
      generalize (K.S k).hi = hi at *
      have wh : IntKind.i64.wrap (hd - hh) = hd - hh := IntWalk.i64_in _ (by omega)
      clear hW hok hfr hC hC' HB
      cases hhas : (K.S k).has
      · as_aux_lemma =>
        rw [hhas] at x4 HCS
        simp only [Bool.false_and, Bool.false_eq_true, if_false, List.append_nil] at HCS
        have HPP := Lib.hid hP
        clear hP hhas
        go_wp2_with fail
        go_roundw
        case rel =>
          refine ⟨k + 1, by omega, by go_num, ?_, HCB.out⟩
          rw [HC'.out, HCS.out]
          exact HPP.out
        all_goals (simp [intOf]; omega)
      · rw [hhas] at x4 HCS
        simp only [Bool.true_and] at HCS
        by_cases hold : hd - hh ≤ 1024000000000
        · as_aux_lemma =>
          rw [if_pos (by simpa using hold)] at HCS
          have td2 : decide (hd - hh ≤ 1024000000000) = true := by simpa using hold
          have HP2 := Lib.hid hP
          clear hP hhas hold
          go_wp2_with (at_builtin; refine wpList_append_own _ rfl (.tmp 42) (.tmp 51) _ rfl w.heap.size 67 i0 _ 2 16 Tryz.underlying135 hi0 hz0 hz1 hz2 rfl (by decide) u6 C.length _ rfl (HP2.out.alloc _) ⟨wr.heap.size, 0, none⟩ 1 1 [.int .i64 lo, .int .i64 hi] rfl rfl (World.news_of_block (cs := #[.int .i64 lo, .int .i64 hi]) (t := 67) (fr := (0, 0)) (heap_alloc_new wr _)) (by simp [Value.oneCell']) (by unfold maxLen; omega) (by omega) (by simp; omega) ?_; intro v1 w1 hown1 hg1 hat1)
          have hP1 : POwn w.heap.size w1 v1 C' := by
            rw [HCS.out]
            exact POwn.snoc hown1
          have HB1 : Below w.heap.size w w1 := (HCB.out.alloc zr _).grown hg1 (by simp; omega) (fun j hj => by have := (World.ownsRow.lt HP2.out j hj).1; omega)
          have HP1 := Lib.hid hP1
          clear hP1 hown1 hg1 hat1 HP2 HCB
          go_wp2
          go_roundw
          case rel => exact ⟨k + 1, by omega, by go_num, by rw [HC'.out]; exact HP1.out, HB1⟩
          all_goals (simp [intOf]; omega)
        · as_aux_lemma =>
          rw [if_neg (by simpa using hold)] at HCS
          have HPP := Lib.hid hP
          have td : decide (hd - hh ≤ 1024000000000) = false := by simpa using hold
          clear hP hhas hold
          go_wp2_with fail
          go_roundw
          case rel =>
            refine ⟨k + 1, by omega, by go_num, ?_, HCB.out⟩
            rw [HC'.out, HCS.out, List.append_nil]
            exact HPP.out
          all_goals (simp [intOf]; omega)
    · obtain rfl : k = N := by omega
      obtain ⟨A1, c1, rfl, hf⟩ := hP.flat (HTL.out k (Nat.le_refl _))
      have HM := Lib.hid (rmost_list (c := c1) hf (by have := cand_len K.S hd k; omega))
      have HCB := Lib.hid HB
      have zr := HB.size
      clear hP hf HB hk hlt
      go_wp2_with fail
      refine HM.out.mono ?_; rintro e w2 ⟨ma, mb, mm, rfl, hmi, k2⟩
      have hmp := mostP_eq hmi
      have hml := most_le hmi
      have hcl := cand_len K.S hd k
      have kk : Below wr.heap.size wr (w2.alloc (.cells #[.int .i64 ma, .int .i64 mb] 67)) := k2.alloc k2.size _
      have HK2 := Lib.hid (hW.below kk)
      have HB2 := Lib.hid (HCB.out.trans (kk.mono HCB.out.size))
      have c3 := HK2.out.c3
      have c0 := HK2.out.c0
      have wm : IntKind.i64.wrap (2 * (mm : Int)) = 2 * (mm : Int) := IntWalk.i64_in _ (by omega)
      have y0 : (w2.alloc (.cells #[.int .i64 ma, .int .i64 mb] 67)).cell? ⟨w2.heap.size, 0, none⟩ = some (.int .i64 ma) := by simp
      have y1 : (w2.alloc (.cells #[.int .i64 ma, .int .i64 mb] 67)).cell? ⟨w2.heap.size, 1, none⟩ = some (.int .i64 mb) := by simp
      have hY : w2.heap.size < (w2.alloc (.cells #[.int .i64 ma, .int .i64 mb] 67)).heap.size := by simp
      have hab : I64 ma ∧ I64 mb := most_bd hmi (HTL.out k (Nat.le_refl _))
      obtain ⟨⟨ma0, ma1⟩, mb0, mb1⟩ := hab
      clear k2 kk HM hW hmi HCB
      by_cases hmaj : 2 * mm ≤ k
      · as_aux_lemma =>
        have tm : decide (2 * (mm : Int) ≤ (k : Int)) = true := by simp; omega
        have hv : turnK rstR K k hd = K := by unfold turnK; rw [hmp, if_pos hmaj]
        have HV := Lib.hid hv
        have HKO := Lib.hid (HK2.out)
        clear hmp hmaj hv
        go_wp2_with fail
        exact bodyPost_ret (v := .tuple #[]) (by simp [results, Tryz.results51, go_sem]) rfl ⟨rfl, by rw [HV.out]; exact HKO.out, But.of_below HB2.out⟩
      · have tm : decide (2 * (mm : Int) ≤ (k : Int)) = false := by simp; omega
        have hsb := addS_bd ma mb
        have hv : turnK rstR K k hd = { K with t := tt K.t (addS ma mb / 2), l := tl (addS ma mb / 2), syn := K.syn + 1, S := fun j => rstR (K.S j) } := by unfold turnK; rw [hmp, if_neg hmaj]
        have HA2 := Lib.hid fun (B : Nat) (W : World) q0 q1 => ref4_add2 ma mb B W ⟨ma0, ma1⟩ ⟨mb0, mb1⟩ q0 q1
        have HFL := Lib.hid fun W : World => ref4_floor2 (addS ma mb) W hsb.1 hsb.2
        generalize addS ma mb = sm at *
        have HV := Lib.hid hv
        have hmn : min (sm / 2) 4611686018427387904 = sm / 2 := by omega
        have hmx : max (-4611686018427387904) (sm / 2) = sm / 2 := by omega
        have kA : Below (w2.alloc (.cells #[.int .i64 ma, .int .i64 mb] 67)).heap.size (w2.alloc (.cells #[.int .i64 ma, .int .i64 mb] 67)) ((w2.alloc (.cells #[.int .i64 ma, .int .i64 mb] 67)).alloc (.cells #[.int .i64 ma, .int .i64 mb] 3)) := (Below.refl _ _).alloc (Nat.le_refl _) _
        have HK3 := Lib.hid (HK2.out.below kA)
        have HB3 := Lib.hid (HB2.out.trans (kA.mono HB2.out.size))
        have d0 := HK3.out.c0
        have hok := HKK.out.clk
        have HTN := Lib.hid fun (W : World) q => ref8_turn_all bc K.c K.t K.l count (sm / 2) W q hok (by unfold Ok3 at hok; omega) (by omega) (by omega)
        have hrc : rc K.c count = K.c := by unfold rc; rw [if_neg (by omega)]
        have hrt : rt K.c K.t K.l count = K.t := by unfold rt; rw [if_neg (by omega)]
        rw [hrc, hrt] at HTN
        clear hmp hmaj hv kA hok hrc hrt
        go_wp2_with fail
        refine (HA2.out _ _ ?_ ?_).mono ?_; iterate 2 (focus (simp [go_sem]; done))
        rintro e w' ⟨rfl, rfl⟩
        clear HA2 y0 y1 hY HK2 HB2
        generalize ((w2.alloc (.cells #[.int .i64 ma, .int .i64 mb] 67)).alloc (.cells #[.int .i64 ma, .int .i64 mb] 3)) = W3 at *
        go_wp2_with fail
        refine (HFL.out _).mono ?_; rintro e w' ⟨rfl, rfl⟩
        go_wp2_with fail
        refine (HTN.out _ HK3.out.clk).mono ?_; rintro e w4 ⟨rfl, ho4, k4⟩
        have HK4 := Lib.hid (HK3.out.clock ho4 k4)
        have HF4 : Hid (But (Ft b bc bs) w w4) := Lib.hid ((But.of_below HB3.out).trans (T := Ft b bc bs) (But.of_only ho4 (.inr (.inl rfl))) (fun _ _ q => q))
        clear ho4 k4 HK3 HB3 HTN d0 c0 c3
        go_wp2_with fail
        go_loopw [11] (fun i wr => ∃ j : Nat, j ≤ k ∧ i = .int .i64 j ∧ Nc layR wr b bc bs A n cc x z k { K with t := tt K.t (sm / 2), l := tl (sm / 2), S := rstTo rstR K.S j } ∧ But (Ft b bc bs) w wr) (fun i _ => k - (intOf i).toNat)
        case atStart => exact ⟨0, by omega, rfl, HK4.out.congr (fun i _ => by simp [rstTo]), HF4.out⟩
        case round =>
          obtain ⟨j, hj, rfl, hN4, hF⟩ := hrel
          have c3 := hN4.c3
          by_cases hlt : j < k
          · as_aux_lemma =>
            have lj : (j : Int) < (k : Int) := by omega
            have e1 : rstTo rstR K.S j j = K.S j := by simp [rstTo]
            obtain ⟨x0, x1, x2, x3, x4, x5⟩ := hN4.sixR j hlt
            have f2 := hN4.sf (j * 6 + 2)
            have f3 := hN4.sf (j * 6 + 3)
            have f4 := hN4.sf (j * 6 + 4)
            have r1 := hN4.store j 4 hlt (by omega) { K.S j with has := false } (.bool false) rfl (fun q hq hne => by show layR _ q = layR (rstTo rstR K.S j j) q; rw [e1]; unfold layR; simp [hne])
            have R1 := Lib.hid r1
            have r2 := r1.store j 2 hlt (by omega) { K.S j with has := false, lo := 0 } (.int .i64 0) rfl (fun q hq hne => by simp only [updS_same]; unfold layR; simp [hne])
            have r3 := r2.store j 3 hlt (by omega) { K.S j with has := false, lo := 0, hi := 0 } (.int .i64 0) rfl (fun q hq hne => by simp only [updS_same]; rcases (show q = 0 ∨ q = 1 ∨ q = 2 ∨ q = 4 ∨ q = 5 from by omega) with rfl | rfl | rfl | rfl | rfl <;> simp [layR])
            have HR := Lib.hid (r3.congr (S' := rstTo rstR K.S (j + 1)) (fun i _ => by simp only; rw [rst_stepR]))
            have HFF := Lib.hid (((hF.setCell (p := ⟨bs, j * 6 + 4, none⟩) (fun _ => .inr (.inr rfl)) (.bool false)).setCell (p := ⟨bs, j * 6 + 2, none⟩) (fun _ => .inr (.inr rfl)) (.int .i64 0)).setCell (p := ⟨bs, j * 6 + 3, none⟩) (fun _ => .inr (.inr rfl)) (.int .i64 0))
            have d3 := R1.out.c3
            clear r1 r2 r3 hF
            go_wp2_with fail
            go_roundw
            case rel => exact ⟨j + 1, by omega, by go_num, HR.out, HFF.out⟩
            all_goals (simp [intOf]; omega)
          · as_aux_lemma =>
            obtain rfl : j = k := by omega
            have c5 := hN4.c5
            have f5 := hN4.f 5
            have s0 := HKK.out.s0
            have s1 := HKK.out.s1
            have ws : IntKind.i64.wrap (K.syn + 1) = K.syn + 1 := IntWalk.i64_in _ (by omega)
            have HR := Lib.hid ((hN4.setY (K.syn + 1)).congr (S' := fun i => rstR (K.S i)) (fun i hi => by simp [rstTo, hi]))
            have HFF := Lib.hid (hF.setCell (p := ⟨b, 5, none⟩) (fun _ => .inl rfl) (.int .i64 (K.syn + 1)))
            have hlb4 := hN4.lt
            clear hF
            go_wp2_with fail
            exact bodyPost_end (by simp [results, Tryz.results51, go_sem]) rfl ⟨rfl, by rw [HV.out]; exact HR.out, HFF.out⟩
end Go.Proofs.YtepdnkpmkhjlgaaGreat

