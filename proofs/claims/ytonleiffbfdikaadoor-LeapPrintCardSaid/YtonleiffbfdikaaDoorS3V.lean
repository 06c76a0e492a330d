/- Stage 3: LeapPrint: the card. (for every table) -/
import Derived.Test.YtonleiffbfdikaaDoorS3R
set_option linter.unusedSimpArgs false
set_option linter.unusedVariables false
namespace Go.Proofs.YtonleiffbfdikaaDoor
open Go.ChangeShapes Go.WideShapes Go.ChangeAt Go.RowKit Go.Joins

theorem laidMet_tail {P : Program} {W : World} {a : String × DataW Unit} {rest : List (String × DataW Unit)} (h : laidMet P (a :: rest) W) : laidMet P rest W := by
  obtain ⟨ps, ⟨g', t', cs, fuel, p, q, hg', ht', hvar, hd, hr, hps⟩, hn, hc⟩ := h
  subst hps
  exact ⟨q, hr, (List.nodup_append.1 hn).2.1, fun b off hm => hc b off (List.mem_append_right _ hm)⟩
theorem tab_of_laid {W : World} (h : laidMetH Tryd.prog Rows.leapPrintRow.laid W) : Tab W :=
  Lib.tabIs_of_head (g := 0) (t := 106) (e := 95) (n := 20) (rest := [("unicode/utf8.acceptRanges", Rows.laid_unicode_utf8_acceptRanges), ("unicode/utf8.first", Rows.laid_unicode_utf8_first)]) (by kernel_rfl) (by kernel_rfl) Tryd.underlying106 Tryd.underlying95 (by kernel_rfl) (by kernel_rfl) (laidMet_tail (laidMet_tail h))
set_option maxRecDepth 100000 in
theorem open_table' {H : Type} {enc : TypeId × Value → H} {w : World} {r : Reach} {base b0 : Nat} {sp : Nat → Bool} {v : Value} {d : DataW H} {p : List MemPlace}
    (hv : Value.okWide Tryd.prog w r b0 24 v) (h : DataW.Trod enc Tryd.prog w base sp true 24 v d p) :
    ∃ (A : Option Addr) (n c : Nat) (z : Nat → Int) (x : Int), v = .agg #[.slice A n c, .int .i64 x] ∧ n ≤ maxLen ∧ FlatAt w A 2 n z ∧ (Lit.int .i64 x).wf = true ∧ (A = none → n = 0 ∧ c = 0) := by
  obtain ⟨c0, c1, y0, y1, n, rfl, rfl, rfl, hy0, hy1⟩ := open_agg2 Tryd.underlying24 (by kernel_rfl) table_cells hv h
  obtain ⟨A, m, c, z, rfl, hm, hz⟩ := open_flat_trod (m := 2) Tryd.underlying22 (by kernel_rfl) (by kernel_rfl) (by omega) hy0
  obtain ⟨a, e1, _, wa⟩ := DataW.trod_int Tryd.underlying3 hy1
  simp at e1
  subst e1
  exact ⟨A, m, c, z, a, rfl, hm, hz, wa, fun h => by subst h; exact nil_shape Tryd.underlying22 ⟨_, hy0⟩⟩
noncomputable def layW5 (os : Os) : World := layAt (layAt (layAt (layAt (layAt (World.holding Tryd.prog os ⟨#[], #[], []⟩) 3 Rows.laid_unicode_utf8_acceptRanges) 2 Rows.laid_unicode_utf8_first) 0 Rows.laid_internal_strconv_uint64pow10) 4 Rows.laid_math_bits_deBruijn32tab) 5 Rows.laid_math_bits_deBruijn64tab
set_option maxRecDepth 100000 in
theorem leapPrint_contract (H : Type) (enc : TypeId × Value → H) (W : World) (base : Nat) (args : Array Value) (ds gs : List (DataW H)) (before : List MemPlace)
    (hval0 : ∀ (j : Nat) t v, Tryd.f5.params[j]? = some t → args[j]? = some v → Value.okWide Tryd.prog W .any base t v)
    (hW : DataW.Whole enc Tryd.prog Tryd.f5.params.toList Rows.leapPrintSpec.vars false W args.toList ds gs before)
    (hsz0 : (DataW.weightsEach Tryd.prog (Tryd.f5.params.toList ++ (OpenSpec.ofChange Rows.leapPrintSpec).bare.plain.varTypes Tryd.prog) (ds ++ gs)).all (· ≤ reachBytes) = true) (hL : laidMetH Tryd.prog Rows.leapPrintRow.laid W) (hS : W.ShapedOpen Tryd.prog) :
    Calls Tryd.prog 5 args W fun e W' => ∃ v, e = .returned v ∧ Rows.leapPrintSpec.post enc Tryd.prog Tryd.f5 false true false false W args v W' := by
  have hval : ∀ (j : Nat) t v, Tryd.f5.params[j]? = some t → args[j]? = some v → Value.okWide Tryd.prog W .any base t v := hval0
  have hsz := hsz0
  have hW' := hW
  obtain ⟨p, q, hA0, hV, rfl, hfz, hnd⟩ := hW
  have hA : DataW.TrodAll enc Tryd.prog W 0 (fun _ => true) true Tryd.f5.params.toList args.toList ds p := hA0
  rw [Tryd.params5] at hA hval hsz
  have hsame : (Rows.leapPrintSpec.fn H (ds ++ gs)).results = [.lit (.bool true)] ∧ (Rows.leapPrintSpec.fn H (ds ++ gs)).args = ds ∧ (Rows.leapPrintSpec.fn H (ds ++ gs)).vars = [] → ∀ W', Below W.heap.size W W' → Rows.leapPrintSpec.post enc Tryd.prog Tryd.f5 false true false false W args (.bool true) W' :=
    fun h W' hb => law_post (tb := 4) hW' law_laid (by kernel_rfl) rfl Tryd.underlying4 h.1 h.2.1 rfl h.2.2 hb
  obtain ⟨v0, vs0, d0, ds0, p0, q0, hargs, rfl, rfl, h0, r0⟩ := trodAll_cons hA
  obtain ⟨rfl, rfl, rfl⟩ := trodAll_nil r0
  obtain rfl : args = #[v0] := by cases args; simp_all
  obtain ⟨rfl, rfl⟩ := trodVars_none hV
  have hpost := hsame ⟨rfl, rfl, rfl⟩
  clear hsame hA0 hval0 hsz0
  obtain ⟨A, n, c, z, x, rfl, hn, hz, _, hnil⟩ := open_table' (hval 0 24 v0 rfl rfl) h0
  have hm := mx_of_shaped hS
  have htab := tab_of_laid hL
  by_cases h : 300 < n
  · exact (print_out A n c x W h).mono fun e W' ⟨he, hb⟩ => ⟨_, he, hpost W' hb⟩
  · cases A with
    | none =>
      obtain ⟨rfl, rfl⟩ := hnil rfl
      exact (print_no none 0 0 x z W hm hz (by omega) (fun h => by have := h.1; omega) (fun w' _ => own_nil x z w')).mono fun e W' ⟨he, hb⟩ => ⟨_, he, hpost W' hb⟩
    | some ad =>
      by_cases h0 : n = 0
      · subst h0
        exact (print_no (some ad) 0 c x z W hm hz (by omega) (fun h => by have := h.1; omega) (fun w' _ => own_empty ad c x z w')).mono fun e W' ⟨he, hb⟩ => ⟨_, he, hpost W' hb⟩
      · by_cases ht : IsTab z n x
        · exact (print_yes ad n c x z W hm htab hz ht).mono fun e W' ⟨he, hb⟩ => ⟨_, he, hpost W' hb⟩
        · exact (print_no (some ad) n c x z W hm hz (by omega) ht (fun w' h' => own_some ad n c x z w' h' (by omega) (by omega))).mono fun e W' ⟨he, hb⟩ => ⟨_, he, hpost W' hb⟩
theorem leapPrint_reads (os : Os) {H : Type} (enc : TypeId × Value → H) : (DataW.whole enc Tryd.prog ((layW5 os).forCall (fun _ _ => 0) ⟨#[], #[.agg #[.slice none 0 0, .int .i64 0]], []⟩).memory Tryd.f5.params.toList Rows.leapPrintSpec.vars false #[.agg #[.slice none 0 0, .int .i64 0]].toList 8).isSome = true := by kernel_rfl
theorem leapPrint_met (os : Os) : laidMet Tryd.prog Rows.leapPrintRow.laid ((layW5 os).forCall (fun _ _ => 0) ⟨#[], #[.agg #[.slice none 0 0, .int .i64 0]], []⟩).memory := laidMet_of_run' 8 (by kernel_rfl) (by kernel_rfl)
set_option maxRecDepth 100000 in
theorem leapPrint_lifted (os : Os) (started : os.Started) (H : Type) (enc : TypeId × Value → H) (F : Stop.Interp) :
    ReturnsInHanded {} Tryd.checked os 5 .any ((OpenSpec.ofChange Rows.leapPrintSpec).preRow enc Tryd.prog Tryd.f5 Rows.leapPrintRow.domain false Rows.leapPrintRow.laid) (((OpenSpec.ofChange Rows.leapPrintSpec).at F).post enc Tryd.prog Tryd.f5 false true false false) := by
  obtain ⟨x, hx⟩ := Option.isSome_iff_exists.1 (leapPrint_reads os enc)
  refine returnsInHanded_of_row (C := Tryd.checked) (s := OpenSpec.ofChange Rows.leapPrintSpec) law_own started (by kernel_rfl) Tryd.func5
    (witness_row_at (enc := enc) (C := Tryd.checked) false (layW5 os) #[.agg #[.slice none 0 0, .int .i64 0]] rfl (by kernel_rfl) (by kernel_rfl) (by kernel_rfl)
      (OpenSpec.preRow_of_cond 8 hx (by rfl) (fun k hk => by cases hk) (by kernel_rfl) (leapPrint_met os))) ?_
  intro W base args ds gs before hval hW _ _ hsz hL hS _
  exact leapPrint_contract H enc W base args ds gs before hval hW hsz hL hS
theorem leapPrint_said : Rows.LeapPrintSaid :=
  OpenClaim.holds_of_cond 5 Tryd.f5 rfl rfl rfl rfl rfl rfl rfl ⟨rfl, rfl, rfl, rfl, rfl⟩ rfl rfl rfl rfl rfl (by kernel_rfl) Tryd.func5 (by kernel_rfl)
    (of_decide_eq_true (by kernel_rfl)) (by unfold Func.isWrapper; first | (rw [if_pos (by decide +kernel)]; kernel_rfl) | (rw [if_neg (by decide +kernel)]; exact ⟨rfl, rfl⟩))
    (fun os started H enc _ F => by rw [OpenClaim.pre_eq_preRow]; exact leapPrint_lifted os started H enc F)
theorem leapPrint_holds : Rows.LeapPrintCardSaid :=
  Claim7.holds_tied_plain_at .later [] _ _ _ _ leapPrint_said (fun _ h => by cases h) (by kernel_rfl) (fun _ h => by cases h) leapPrint_row_tie rfl ⟨rfl, rfl⟩ (by kernel_rfl) rfl (plain_of (f0 := 5) (fn0 := Tryd.f5) (by kernel_rfl) Tryd.func5 (by kernel_rfl) (by kernel_rfl)) (by kernel_rfl)
end Go.Proofs.YtonleiffbfdikaaDoor
