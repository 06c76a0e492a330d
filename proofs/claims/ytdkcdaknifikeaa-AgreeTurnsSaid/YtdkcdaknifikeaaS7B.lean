/- Stage 7: AgreeTurns. -/
import Derived.Test.YtdkcdaknifikeaaIv
import Derived.Test.YtdkcdaknifikeaaLaw
set_option linter.unusedSimpArgs false
set_option linter.unusedVariables false
namespace Go.Proofs.Ytdkcdaknifikeaa
open Go.ChangeShapes Go.WideShapes Go.ChangeAt Go.RowKit Go.Joins

/-- The first k of a list that is gone through from its end, turned by b. -/
def trK (l : List (Int × Int)) (b k : Nat) : List (Int × Int) := (List.range k).map fun i => l.getD ((l.length - 1 - i + b) % l.length) (0, 0)
theorem trK_succ (l : List (Int × Int)) (b k : Nat) : trK l b (k + 1) = trK l b k ++ [l.getD ((l.length - 1 - k + b) % l.length) (0, 0)] := by simp [trK, List.range_succ]
theorem trK_len (l : List (Int × Int)) (b k : Nat) : (trK l b k).length = k := by simp [trK]
theorem trK_perm (l : List (Int × Int)) (b : Nat) : (trK l b l.length).Perm l := by
  rcases Nat.eq_zero_or_pos l.length with h0 | h0
  · have : l = [] := List.length_eq_zero_iff.1 h0
    subst this; exact List.Perm.refl _
  · have hr : b % l.length < l.length := Nat.mod_lt _ h0
    have e : (trK l b l.length).reverse = l.drop (b % l.length) ++ l.take (b % l.length) := by
      apply List.ext_getElem
      · simp [trK]; omega
      · intro j h1 h2
        have hj : j < l.length := by simpa [trK] using h1
        have e1 : (l.length - 1 - (l.length - 1 - j) + b) % l.length = (j + b % l.length) % l.length := by
          rw [show l.length - 1 - (l.length - 1 - j) = j from by omega, Nat.add_mod_mod]
        simp only [List.getElem_reverse, trK, List.length_map, List.length_range, List.getElem_map, List.getElem_range, e1]
        rcases Nat.lt_or_ge (j + b % l.length) l.length with q | q
        · rw [Nat.mod_eq_of_lt q, List.getElem_append_left (by simp; omega), List.getElem_drop, List.getD_eq_getElem?_getD, List.getElem?_eq_getElem q, Option.getD_some]
          simp [Nat.add_comm]
        · have e2 : (j + b % l.length) % l.length = j + b % l.length - l.length := by
            rw [Nat.mod_eq_sub_mod q, Nat.mod_eq_of_lt (by omega)]
          rw [e2, List.getElem_append_right (by simp; omega), List.getElem_take, List.getD_eq_getElem?_getD, List.getElem?_eq_getElem (by omega), Option.getD_some]
          congr 1
          simp; omega
    have h1 : (trK l b l.length).Perm (l.drop (b % l.length) ++ l.take (b % l.length)) := by
      rw [← e]; exact (List.reverse_perm _).symm
    refine h1.trans ?_
    refine (List.perm_append_comm).trans ?_
    rw [List.take_append_drop]
theorem agreeTurns_out (A : Option Addr) (n c : Nat) (x : Int) (w : World) (h : 200 < n ∨ n = 0) (hn : n ≤ maxLen) :
    Calls Try.prog 4 #[.slice A n c, .int .i64 x] w fun e w' => e = .returned (.bool true) ∧ Below w.heap.size w w' := by
  unfold maxLen at hn
  rcases h with h | h
  · have h' : (200 : Int) < (n : Int) := by omega
    go_enter Try.func4, Try.ntmps4
    go_wp2
    go_ret
    exact ⟨rfl, Below.refl _ _⟩
  · subst h
    go_enter Try.func4, Try.ntmps4
    go_wp2
    go_ret
    exact ⟨rfl, Below.refl _ _⟩
set_option maxRecDepth 100000 in
set_option maxHeartbeats 4000000 in
theorem agreeTurns_in (z : Nat → Int) (A : Option Addr) (n c : Nat) (x : Int) (w : World) (hn : n ≤ 200) (h0 : 0 < n) (hz : FlatAt w A 2 n z) :
    Calls Try.prog 4 #[.slice A n c, .int .i64 x] w fun e w' => e = .returned (.bool true) ∧ Below w.heap.size w w' := by
  have hn' : (n : Int) ≤ 200 := by omega
  have hn0 : (0 : Int) < (n : Int) := by omega
  have e0 : ((n : Int) == 0) = false := by simp; omega
  have HT := Lib.hid (FlatAt.tells hz)
  have HZ := Lib.hid hz
  obtain ⟨i0, hi, hz0, hz1, hz2⟩ := info_parts iv_info
  have hb : 0 ≤ bits .and .i64 x 65535 ∧ bits .and .i64 x 65535 ≤ 65535 := bits_and_le x 65535 (by omega)
  clear hz
  obtain ⟨b, hbb⟩ : ∃ b : Nat, bits .and .i64 x 65535 = (b : Int) := ⟨(bits .and .i64 x 65535).toNat, by rw [Int.toNat_of_nonneg hb.1]⟩
  have hb1 : (b : Int) ≤ 65535 := by rw [← hbb]; exact hb.2
  clear hb
  go_enter Try.func4, Try.ntmps4
  go_wp2
  go_loopw [5, 6] (fun v i wr => ∃ k : Nat, k ≤ n ∧ i = .int .i64 k ∧ POwn w.heap.size wr v (trK (ivs z n) b k) ∧ Below w.heap.size w wr) (fun _ i _ => n - (intOf i).toNat)
  case atStart => exact ⟨0, Nat.zero_le _, rfl, POwn.nil _ _, Below.refl _ _⟩
  case round =>
    obtain ⟨k, hk, rfl, hP, HB⟩ := hrel
    have zr := HB.size
    by_cases hlt : k < n
    · obtain ⟨B, O, rfl, hB, hcells⟩ := HZ.out (by omega)
      have hq0 : (n - 1 - k + b) % n < n := Nat.mod_lt _ h0
      have hs := trK_succ (ivs z n) b k
      rw [ivs_len] at hs
      have hl := trK_len (ivs z n) b k
      have hqi : ((n : Int) - 1 - (k : Int) + (b : Int)) % (n : Int) = (((n - 1 - k + b) % n : Nat) : Int) := by
        rw [Int.natCast_emod]
        congr 1
        omega
      generalize (n - 1 - k + b) % n = q at *
      have hget : (ivs z n).getD q (0, 0) = (z (q * 2), z (q * 2 + 1)) := by
        rw [List.getD_eq_getElem?_getD, List.getElem?_eq_getElem (by rw [ivs_len]; exact hq0)]
        simp [ivs]
      rw [hget] at hs
      have x0 : wr.cell? ⟨B, O + q * 2, none⟩ = some (.int .i64 (z (q * 2))) := (HB.cell (p := ⟨B, O + q * 2, none⟩) hB).trans (hcells (q * 2) (by omega)).1
      have x1 : wr.cell? ⟨B, O + q * 2 + 1, none⟩ = some (.int .i64 (z (q * 2 + 1))) := (HB.cell (p := ⟨B, O + (q * 2 + 1), none⟩) hB).trans (hcells (q * 2 + 1) (by omega)).1
      have lk : (k : Int) < (n : Int) := by omega
      have lq : (q : Int) < (n : Int) := by omega
      have lB : B < wr.heap.size := by omega
      have HS := Lib.hid hs
      have HL := Lib.hid hl
      clear hcells hget hs hl
      generalize z (q * 2) = lo at *
      generalize z (q * 2 + 1) = hi' at *
      have hown : wr.ownsRow w.heap.size 25 2 u5 k (cellsOf (zl (trK (ivs z n) b k)) (k * 2)) := by
        have := hP
        unfold POwn at this
        rwa [HL.out] at this
      have HO := Lib.hid hown
      clear hP hown
      go_wp2_with (at_builtin; refine wpList_append_own _ rfl (.tmp 25) (.tmp 40) _ rfl w.heap.size 25 i0 _ 2 16 Try.underlying22 hi hz0 hz1 hz2 rfl (by decide) u5 k _ rfl (HO.out.alloc _) ⟨wr.heap.size, 0, none⟩ 1 1 [.int .i64 lo, .int .i64 hi'] rfl rfl (World.news_of_block (cs := #[.int .i64 lo, .int .i64 hi']) (t := 25) (fr := (0, 0)) (heap_alloc_new wr _)) (by simp [Value.oneCell']) (by unfold maxLen; omega) (by omega) (by simp; omega) ?_; intro v1 w1 hown1 hg1 hat1)
      have hP1 : POwn w.heap.size w1 v1 (trK (ivs z n) b (k + 1)) := by
        rw [HS.out]
        refine POwn.snoc ?_
        rw [HL.out]
        exact hown1
      have HB1 : Below w.heap.size w w1 := (HB.alloc zr _).grown hg1 (by simp; omega) (fun j hj => by have := (HO.out.lt j hj).1; omega)
      have HP1 := Lib.hid hP1
      clear hP1 hown1 hg1 hat1
      go_wp2
      go_roundw
      case rel => exact ⟨k + 1, by omega, by go_num, HP1.out, HB1⟩
      case measure => simp [intOf]; omega
    · obtain rfl : k = n := by omega
      have hper := trK_perm (ivs z k) b
      have hlen := trK_len (ivs z k) b k
      rw [ivs_len] at hper
      have htl : Tells (trK (ivs z k) b k) := fun i hi => HT.out i (hper.mem_iff.1 hi)
      obtain ⟨A1, c1, rfl, hf⟩ := hP.flat htl
      have C1 := Lib.hid (most_any z A k c wr (by omega) (HZ.out.below HB))
      have C2 := Lib.hid (fun (w' : World) (hb : Below wr.heap.size wr w') => most_list (c := c1) (hf.below hb) (by rw [hlen]; omega))
      have HPER := Lib.hid hper
      have HLEN := Lib.hid hlen
      rw [hlen]
      clear hf htl hP hper hlen
      go_wp2_with fail
      refine C1.out.mono ?_; rintro e w1 ⟨a, b1, m, rfl, hm, hb1'⟩
      have hB1 : Below wr.heap.size wr (w1.alloc (.cells #[.int .i64 a, .int .i64 b1] 25)) := hb1'.alloc hb1'.size _
      have C3 := C2.out _ hB1
      rw [HLEN.out] at C3
      have C3' := Lib.hid C3
      have hml := most_le hm
      rw [ivs_len] at hml
      have hm200 : (m : Int) ≤ 200 := by omega
      have J1 := Lib.hid (Ints2.new w1 a b1 25)
      have HM := Lib.hid hm
      have HB2 := HB.trans (hB1.mono zr)
      clear hb1' C3 hm
      go_wp2_with fail
      refine C3'.out.mono ?_; rintro e w3 ⟨a', b', m', rfl, hm', hb3⟩
      obtain ⟨rfl, rfl, rfl⟩ := (HM.out.perm HPER.out.symm).unique hm'
      have J3 := (J1.out.below hb3 (by simp)).alloc (.cells #[.int .i64 a, .int .i64 b1] 25)
      have HB3 := (HB2.trans (hb3.mono HB2.size))
      have z3 := HB3.size
      have l3 := J3.lt
      obtain ⟨y0, y1, f0, f1, _⟩ := J3
      clear hb3 hm' J1 C3'
      go_wp2_with (go_at_call 14; refine (known7 _).mono ?_; rintro e w5 ⟨rfl, hb5⟩; obtain ⟨hc5, hf5⟩ := bcell hb5; have hz5 := hb5.size; (try simp only [World.size_alloc, World.size_setCell, World.heap_drewN] at hb5 hc5 hf5 hz5); (try have ha05 : w.heap.size < w5.heap.size := by omega); (try have ha15 : w.heap.size + 1 < w5.heap.size := by omega); (try have ha25 : w.heap.size + 2 < w5.heap.size := by omega); (try have hal5 : w.heap.size ≤ w5.heap.size := by omega); (try have ham5 : w.heap.size < w5.heap.size + 2 := by omega))
      go_ret
      go_light
      exact ⟨rfl, by (repeat' (first | (with_reducible exact Below.refl _ _) | (with_reducible assumption) | (with_reducible refine Below.trans ?_ (Below.mono (by with_reducible assumption) ?_)) | (with_reducible refine Below.alloc ?_ ?_ _) | (with_reducible refine Below.setCell ?_ ?_ _) | (with_reducible refine below_drewN ?_ _) | (with_reducible refine Below.drew ?_) | go_size))⟩
set_option maxRecDepth 100000 in
theorem agreeTurns_lifted (os : Os) (started : os.Started) (H : Type) (enc : TypeId × Value → H) :
    ReturnsInHanded {} Try.checked os 4 .any (Rows.agreeTurnsSpec.pre6 enc Try.prog Try.f4 Rows.agreeTurnsRow.domain false) (Rows.agreeTurnsSpec.post enc Try.prog Try.f4 false true false false) := by
  refine returnsInHanded_of_change_sized (C := Try.checked) law_own started (by kernel_rfl) Try.func4
    (ChangeSpec.witness6 (enc := enc) (C := Try.checked) false ⟨#[], #[.slice none 0 0, .int .i64 0], []⟩ 8 (by kernel_rfl) (by kernel_rfl) (by kernel_rfl) (by kernel_rfl)) ?_
  intro W base args ds gs before hval0 hW hcnd hsz0 _
  have hval : ∀ (j : Nat) t v, Try.f4.params[j]? = some t → args[j]? = some v → Value.okWide Try.prog W .any base t v := hval0
  have hsz : (DataW.weightsEach Try.prog (Try.f4.params.toList ++ Rows.agreeTurnsSpec.plain.varTypes Try.prog) (ds ++ gs)).all (· ≤ reachBytes) = true := hsz0
  have hW' := hW
  obtain ⟨p, q, hA0, hV, rfl, hfz, hnd⟩ := hW
  have hA : DataW.TrodAll enc Try.prog W 0 (fun _ => true) true Try.f4.params.toList args.toList ds p := hA0
  rw [Try.params4] at hA hval hsz
  have hsame : (Rows.agreeTurnsSpec.fn H (ds ++ gs)).results = [.lit (.bool true)] ∧ (Rows.agreeTurnsSpec.fn H (ds ++ gs)).args = ds ∧ (Rows.agreeTurnsSpec.fn H (ds ++ gs)).vars = [] → ∀ W', Below W.heap.size W W' → Rows.agreeTurnsSpec.post enc Try.prog Try.f4 false true false false W args (.bool true) W' :=
    fun h W' hb => law_post (tb := 4) hW' law_laid (by kernel_rfl) rfl Try.underlying4 h.1 h.2.1 rfl h.2.2 hb
  obtain ⟨v0, vs0, d0, ds0, p0, q0, hargs, rfl, rfl, h0, r0⟩ := trodAll_cons hA
  obtain ⟨v1, vs1, d1, ds1, p1, q1, rfl, rfl, rfl, h1, r1⟩ := trodAll_cons r0
  obtain ⟨rfl, rfl, rfl⟩ := trodAll_nil r1
  obtain rfl : args = #[v0, v1] := by cases args; simp_all
  obtain ⟨rfl, rfl⟩ := trodVars_none hV
  have hpost := hsame ⟨rfl, rfl, rfl⟩
  clear hsame hA0 hval0 hsz0
  obtain ⟨A, n, c, z, rfl, hn, hz⟩ := open_flat_slice (m := 2) Try.underlying22 (by kernel_rfl) (by kernel_rfl) (by omega) (hval 0 22 v0 rfl rfl) h0
  obtain ⟨a1, rfl, rfl, rfl, wf1⟩ := open_int Try.underlying3 (hval 1 3 v1 rfl rfl) h1
  by_cases h : n ≤ 200 ∧ 0 < n
  · exact (agreeTurns_in z A n c _ W h.1 h.2 hz).mono fun e W' ⟨he, hb⟩ => ⟨_, he, hpost W' hb⟩
  · exact (agreeTurns_out A n c _ W (by omega) hn).mono fun e W' ⟨he, hb⟩ => ⟨_, he, hpost W' hb⟩
theorem agreeTurns_holds : Rows.AgreeTurnsSaid :=
  OpenClaim.holds_of_wide 4 Try.f4 rfl rfl rfl rfl rfl rfl rfl ⟨rfl, rfl, rfl, rfl, rfl⟩ rfl rfl rfl rfl rfl (by kernel_rfl) Try.func4 (by kernel_rfl)
    (of_decide_eq_true (by kernel_rfl)) (by unfold Func.isWrapper; first | (rw [if_pos (by decide +kernel)]; kernel_rfl) | (rw [if_neg (by decide +kernel)]; exact ⟨rfl, rfl⟩))
    (fun os started H enc _ => agreeTurns_lifted os started H enc)
end Go.Proofs.Ytdkcdaknifikeaa
