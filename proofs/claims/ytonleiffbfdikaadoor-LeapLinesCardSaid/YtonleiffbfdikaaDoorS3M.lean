/- Stage 3: LeapLines: empty lines and remarks between the lines of a table change nothing but the number of a line that errs: the card. (for every table, number and remark) -/
import Derived.Test.YtonleiffbfdikaaDoorS3L
set_option linter.unusedSimpArgs false
set_option linter.unusedVariables false
namespace Go.Proofs.YtonleiffbfdikaaDoor
open Go.ChangeShapes Go.WideShapes Go.ChangeAt Go.RowKit Go.Joins

theorem laidMet_tail {P : Program} {W : World} {a : String × DataW Unit} {rest : List (String × DataW Unit)} (h : laidMet P (a :: rest) W) : laidMet P rest W := by
  obtain ⟨ps, ⟨g', t', cs, fuel, p, q, hg', ht', hvar, hd, hr, hps⟩, hn, hc⟩ := h
  subst hps
  exact ⟨q, hr, (List.nodup_append.1 hn).2.1, fun b off hm => hc b off (List.mem_append_right _ hm)⟩
theorem tab_of_laid {W : World} (h : laidMetH Tryd.prog Rows.leapLinesRow.laid W) : Tab W :=
  Lib.tabIs_of_head (g := 0) (t := 106) (e := 95) (n := 20) (rest := [("unicode/utf8.acceptRanges", Rows.laid_unicode_utf8_acceptRanges), ("unicode/utf8.first", Rows.laid_unicode_utf8_first)]) (by kernel_rfl) (by kernel_rfl) Tryd.underlying106 Tryd.underlying95 (by kernel_rfl) (by kernel_rfl) (laidMet_tail (laidMet_tail h))
set_option maxRecDepth 100000 in
theorem open_table' {H : Type} {enc : TypeId × Value → H} {w : World} {r : Reach} {base b0 : Nat} {sp : Nat → Bool} {v : Value} {d : DataW H} {p : List MemPlace}
    (hv : Value.okWide Tryd.prog w r b0 24 v) (h : DataW.Trod enc Tryd.prog w base sp true 24 v d p) :
    ∃ (A : Option Addr) (n c : Nat) (z : Nat → Int) (x : Int), v = .agg #[.slice A n c, .int .i64 x] ∧ n ≤ maxLen ∧ FlatAt w A 2 n z ∧ (Lit.int .i64 x).wf = true ∧ (A = none → n = 0 ∧ c = 0) := by
  obtain ⟨c0, c1, y0, y1, n, rfl, rfl, rfl, hy0, hy1⟩ := open_agg2 Tryd.underlying24 (by kernel_rfl) table_cells hv h
  obtain ⟨A, m, c, z, rfl, hm, hz⟩ := open_flat_trod (m := 2) Tryd.underlying22 (by kernel_rfl) (by kernel_rfl) (by omega) hy0
  obtain ⟨a, e1, _, wa⟩ := DataW.trod_int Tryd.underlying3 hy1
  simp at e1
  subst e1
  exact ⟨A, m, c, z, a, rfl, hm, hz, wa, fun h => by subst h; exact nil_shape Tryd.underlying22 ⟨_, hy0⟩⟩
noncomputable def layW5 (os : Os) : World := layAt (layAt (layAt (layAt (layAt (World.holding Tryd.prog os ⟨#[], #[], []⟩) 3 Rows.laid_unicode_utf8_acceptRanges) 2 Rows.laid_unicode_utf8_first) 0 Rows.laid_internal_strconv_uint64pow10) 4 Rows.laid_math_bits_deBruijn32tab) 5 Rows.laid_math_bits_deBruijn64tab
set_option maxRecDepth 100000 in
theorem leapLines_contract (H : Type) (enc : TypeId × Value → H) (W : World) (base : Nat) (args : Array Value) (ds gs : List (DataW H)) (before : List MemPlace)
    (hval0 : ∀ (j : Nat) t v, Tryd.f9.params[j]? = some t → args[j]? = some v → Value.okWide Tryd.prog W .any base t v)
    (hW : DataW.Whole enc Tryd.prog Tryd.f9.params.toList Rows.leapLinesSpec.vars false W args.toList ds gs before)
    (hsz0 : (DataW.weightsEach Tryd.prog (Tryd.f9.params.toList ++ (OpenSpec.ofChange Rows.leapLinesSpec).bare.plain.varTypes Tryd.prog) (ds ++ gs)).all (· ≤ reachBytes) = true) (hL : laidMetH Tryd.prog Rows.leapLinesRow.laid W) (hS : W.ShapedOpen Tryd.prog) :
    Calls Tryd.prog 9 args W fun e W' => ∃ v, e = .returned v ∧ Rows.leapLinesSpec.post enc Tryd.prog Tryd.f9 false true false false W args v W' := by
  have hval : ∀ (j : Nat) t v, Tryd.f9.params[j]? = some t → args[j]? = some v → Value.okWide Tryd.prog W .any base t v := hval0
  have hsz := hsz0
  have hW' := hW
  obtain ⟨p, q, hA0, hV, rfl, hfz, hnd⟩ := hW
  have hA : DataW.TrodAll enc Tryd.prog W 0 (fun _ => true) true Tryd.f9.params.toList args.toList ds p := hA0
  rw [Tryd.params9] at hA hval hsz
  have hsame : (Rows.leapLinesSpec.fn H (ds ++ gs)).results = [.lit (.bool true)] ∧ (Rows.leapLinesSpec.fn H (ds ++ gs)).args = ds ∧ (Rows.leapLinesSpec.fn H (ds ++ gs)).vars = [] → ∀ W', Below W.heap.size W W' → Rows.leapLinesSpec.post enc Tryd.prog Tryd.f9 false true false false W args (.bool true) W' :=
    fun h W' hb => law_post (tb := 4) hW' law_laid (by kernel_rfl) rfl Tryd.underlying4 h.1 h.2.1 rfl h.2.2 hb
  obtain ⟨v0, vs0, d0, ds0, p0, q0, hargs, rfl, rfl, h0, r0⟩ := trodAll_cons hA
  obtain ⟨v1, vs1, d1, ds1, p1, q1, rfl, rfl, rfl, h1, r1⟩ := trodAll_cons r0
  obtain ⟨v2, vs2, d2, ds2, p2, q2, rfl, rfl, rfl, h2, r2⟩ := trodAll_cons r1
  obtain ⟨rfl, rfl, rfl⟩ := trodAll_nil r2
  obtain rfl : args = #[v0, v1, v2] := by cases args; simp_all
  obtain ⟨rfl, rfl⟩ := trodVars_none hV
  have hpost := hsame ⟨rfl, rfl, rfl⟩
  clear hsame hA0 hval0 hsz0
  obtain ⟨A, n, c, z, x, rfl, hn, hz, _, hnil⟩ := open_table' (hval 0 24 v0 rfl rfl) h0
  obtain ⟨at', rfl, rfl, rfl, wfa⟩ := open_int Tryd.underlying3 (hval 1 3 v1 rfl rfl) h1
  obtain ⟨r, rfl, _, _, _⟩ := Go.ChangeMaps.open_string Tryd.underlying9 (hval 2 9 v2 rfl rfl) h2
  have hm := mx_of_shaped hS
  have htab := tab_of_laid hL
  by_cases h : 100 < n
  · exact (lines_out A n c x at' z r W hm hz hn (.inl h)).mono fun e W' ⟨he, hb⟩ => ⟨_, he, hpost W' hb⟩
  by_cases hr : 100 < r.size
  · exact (lines_out A n c x at' z r W hm hz hn (.inr (.inl ⟨by omega, hr⟩))).mono fun e W' ⟨he, hb⟩ => ⟨_, he, hpost W' hb⟩
  by_cases hT : IsTab z n x
  · cases A with
    | none =>
      obtain ⟨rfl, rfl⟩ := hnil rfl
      exact absurd hT.1 (by omega)
    | some ad => exact (lines_in ad n c x at' z r W hm htab hz hT (by omega)).mono fun e W' ⟨he, hb⟩ => ⟨_, he, hpost W' hb⟩
  · exact (lines_out A n c x at' z r W hm hz hn (.inr (.inr ⟨by omega, by omega, hT⟩))).mono fun e W' ⟨he, hb⟩ => ⟨_, he, hpost W' hb⟩
theorem leapLines_reads (os : Os) {H : Type} (enc : TypeId × Value → H) : (DataW.whole enc Tryd.prog ((layW5 os).forCall (fun _ _ => 0) ⟨#[], #[.agg #[.slice none 0 0, .int .i64 0], .int .i64 0, .string ⟨#[]⟩], []⟩).memory Tryd.f9.params.toList Rows.leapLinesSpec.vars false #[.agg #[.slice none 0 0, .int .i64 0], .int .i64 0, .string ⟨#[]⟩].toList 8).isSome = true := by kernel_rfl
theorem leapLines_met (os : Os) : laidMet Tryd.prog Rows.leapLinesRow.laid ((layW5 os).forCall (fun _ _ => 0) ⟨#[], #[.agg #[.slice none 0 0, .int .i64 0], .int .i64 0, .string ⟨#[]⟩], []⟩).memory := laidMet_of_run' 8 (by kernel_rfl) (by kernel_rfl)
set_option maxRecDepth 100000 in
theorem leapLines_lifted (os : Os) (started : os.Started) (H : Type) (enc : TypeId × Value → H) (F : Stop.Interp) :
    ReturnsInHanded {} Tryd.checked os 9 .any ((OpenSpec.ofChange Rows.leapLinesSpec).preRow enc Tryd.prog Tryd.f9 Rows.leapLinesRow.domain false Rows.leapLinesRow.laid) (((OpenSpec.ofChange Rows.leapLinesSpec).at F).post enc Tryd.prog Tryd.f9 false true false false) := by
  obtain ⟨x, hx⟩ := Option.isSome_iff_exists.1 (leapLines_reads os enc)
  refine returnsInHanded_of_row (C := Tryd.checked) (s := OpenSpec.ofChange Rows.leapLinesSpec) law_own started (by kernel_rfl) Tryd.func9
    (witness_row_at (enc := enc) (C := Tryd.checked) false (layW5 os) #[.agg #[.slice none 0 0, .int .i64 0], .int .i64 0, .string ⟨#[]⟩] rfl (by kernel_rfl) (by kernel_rfl) (by kernel_rfl)
      (OpenSpec.preRow_of_cond 8 hx (by rfl) (fun k hk => by cases hk) (by kernel_rfl) (leapLines_met os))) ?_
  intro W base args ds gs before hval hW _ _ hsz hL hS _
  exact leapLines_contract H enc W base args ds gs before hval hW hsz hL hS
theorem leapLines_said : Rows.LeapLinesSaid :=
  OpenClaim.holds_of_cond 9 Tryd.f9 rfl rfl rfl rfl rfl rfl rfl ⟨rfl, rfl, rfl, rfl, rfl⟩ rfl rfl rfl rfl rfl (by kernel_rfl) Tryd.func9 (by kernel_rfl)
    (of_decide_eq_true (by kernel_rfl)) (by unfold Func.isWrapper; first | (rw [if_pos (by decide +kernel)]; kernel_rfl) | (rw [if_neg (by decide +kernel)]; exact ⟨rfl, rfl⟩))
    (fun os started H enc _ F => by rw [OpenClaim.pre_eq_preRow]; exact leapLines_lifted os started H enc F)
theorem leapLines_holds : Rows.LeapLinesCardSaid :=
  Claim7.holds_tied_plain_at .later [] _ _ _ _ leapLines_said (fun _ h => by cases h) (by kernel_rfl) (fun _ h => by cases h) leapLines_row_tie rfl ⟨rfl, rfl⟩ (by kernel_rfl) rfl (plain_of (f0 := 9) (fn0 := Tryd.f9) (by kernel_rfl) Tryd.func9 (by kernel_rfl) (by kernel_rfl)) (by kernel_rfl)
end Go.Proofs.YtonleiffbfdikaaDoor
