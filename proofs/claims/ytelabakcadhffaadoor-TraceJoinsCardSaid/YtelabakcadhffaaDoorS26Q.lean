/- Stage 26: TraceQuotes: any bytes as a word: the document's, unlike for unlike bytes, of plain letters alone: for every two rows of bytes. -/
import Derived.Test.YtelabakcadhffaaDoorTrKnown
import Derived.Test.YtelabakcadhffaaDoorTrQuoR
import Derived.Test.YtelabakcadhffaaDoorArgBy
import Derived.Test.YtelabakcadhffaaDoorLaw
import Derived.Test.YtelabakcadhffaaDoorCards
import Derived.Test.YtelabakcadhffaaDoorTie
import Derived.Deep.DeepHandedRow
import Derived.Lib.LaidTab
set_option linter.unusedSimpArgs false
set_option linter.unusedVariables false
namespace Go.Proofs.YtelabakcadhffaaDoor
open Go.ChangeShapes Go.WideShapes Go.ChangeAt Go.RowKit Go.Joins Go.Deep Go.Sort

set_option maxHeartbeats 1000000 in
theorem quotes_long (A A' : Option Addr) (n c n' c' : Nat) (w : World) (h : 4000 < n ∨ 4000 < n') (hn : n ≤ maxLen) (hn' : n' ≤ maxLen) :
    Calls Tryd.prog 3 #[.slice A n c, .slice A' n' c'] w fun e w' => e = .returned (.bool true) ∧ Below w.heap.size w w' := by
  unfold maxLen at hn hn'
  by_cases h1 : 4000 < n
  · have t1 : decide ((4000 : Int) < (n : Int)) = true := by simp only [decide_eq_true_eq]; omega
    clear h
    go_enter Tryd.func3, Tryd.ntmps3
    go_wp2
    go_ret
    exact ⟨rfl, Below.refl _ _⟩
  · have t1 : decide ((4000 : Int) < (n : Int)) = false := by simp only [decide_eq_false_iff_not]; omega
    have t2 : decide ((4000 : Int) < (n' : Int)) = true := by simp only [decide_eq_true_eq]; omega
    clear h
    go_enter Tryd.func3, Tryd.ntmps3
    go_wp2
    go_ret
    exact ⟨rfl, Below.refl _ _⟩
theorem str_nth {l : List Int} (hl : ∀ x ∈ l, 32 ≤ x ∧ x ≤ 126) (k : Nat) (hk : k < (strB l).size) : ∃ a : Nat, 32 ≤ a ∧ a ≤ 126 ∧ ∀ h, ((strB l)[k]'h).toNat = a := by
  have hk' : k < l.length := by rwa [strB_size] at hk
  have hx := hl l[k] (List.getElem_mem hk')
  refine ⟨((strB l)[k]'hk).toNat, ?_, ?_, fun _ => rfl⟩ <;>
  · have e : (((strB l)[k]'hk).toNat : Int) = l[k] := by
      have h1 := congrArg (fun q : List Int => q[k]?) (kL_str (l := l) (fun x h => by have := hl x h; omega))
      have h1 : (kL (strB l))[k]? = l[k]? := h1
      rw [List.getElem?_eq_getElem hk'] at h1
      have h2 : (kL (strB l))[k]? = some ((((strB l)[k]'hk).toNat : Nat) : Int) := by
        unfold kL
        rw [List.getElem?_map]
        have h3 : k < (strB l).data.toList.length := by rw [Array.length_toList]; exact hk
        rw [List.getElem?_eq_getElem h3]
        rfl
      rw [h2] at h1
      injection h1
    omega
set_option maxRecDepth 100000 in
set_option maxHeartbeats 4000000 in
theorem quotes_in (A A' : Option Addr) (p p' : List Int) (c c' : Nat) (w : World) (ht : Tab w) (hp : ByL w A p) (hb : isBy p) (hn : A = none → p.length = 0) (hp' : ByL w A' p') (hb' : isBy p') (hn' : A' = none → p'.length = 0) (hl : p.length ≤ 4000) (hl' : p'.length ≤ 4000) :
    Calls Tryd.prog 3 #[.slice A p.length c, .slice A' p'.length c'] w fun e w' => e = .returned (.bool true) ∧ Below w.heap.size w w' := by
  have t1 : decide ((4000 : Int) < (p.length : Int)) = false := by simp only [decide_eq_false_iff_not]; omega
  have t2 : decide ((4000 : Int) < (p'.length : Int)) = false := by simp only [decide_eq_false_iff_not]; omega
  have H1 := Lib.hid fun (W : World) (k : Below w.heap.size w W) => tr_quote A p c W (hp.below k) hb (by omega)
  have H2 := Lib.hid fun (W : World) (k : Below w.heap.size w W) => tr_quote A' p' c' W (hp'.below k) hb' (by omega)
  have H3 := Lib.hid fun (W : World) (k : Below w.heap.size w W) => ref_quote A p c W (hp.below k) hb (by omega)
  have H4 := Lib.hid fun (W : World) (k : Below w.heap.size w W) => ref_quote A' p' c' W (hp'.below k) hb' (by omega)
  have HK := Lib.hid fun (W : World) (k : Below w.heap.size w W) => known26 W (ht.below k)
  have HC1 := Lib.hid fun (W : World) (k : Below w.heap.size w W) => run_str W A p c (hp.below k) hb hn
  have HC2 := Lib.hid fun (W : World) (k : Below w.heap.size w W) => run_str W A' p' c' (hp'.below k) hb' hn'
  have hli : (p.length : Int) ≤ 4000 := by omega
  have hsz : (strB (quoL p)).size ≤ 20000 := by rw [strB_size]; have := (quoL_len p).2; omega
  have hsl : p.length + 2 ≤ (strB (quoL p)).size := by rw [strB_size]; exact (quoL_len p).1
  have HN := Lib.hid (str_nth (quoL_in hb))
  have he1 : strB (quoL p) = strB (quoL p') ↔ p = p' := by rw [strB_inj (quoL_by hb) (quoL_by hb'), quoL_inj hb hb']
  have he2 : strB p = strB p' ↔ p = p' := strB_inj hb hb'
  have HE : Hid (∃ q : Bool, (strB (quoL p) == strB (quoL p')) = q ∧ (strB p == strB p') = q ∧ ((strB (quoL p)).toList = (strB (quoL p')).toList ↔ q = true) ∧ ((strB p).toList = (strB p').toList ↔ q = true)) := Lib.hid (by
    refine ⟨decide (p = p'), ?_, ?_, ?_, ?_⟩
    · rw [str_beq]; simp only [he1]
    · rw [str_beq]; simp only [he2]
    · rw [str_lists, he1]; simp
    · rw [str_lists, he2]; simp)
  clear ht hp hb hn hp' hb' hn' hl hl' he1 he2
  generalize strB (quoL p) = a at *
  generalize strB (quoL p') = b at *
  generalize strB p = x at *
  generalize strB p' = y at *
  have q2 : decide ((p.length : Int) + 2 ≤ (a.size : Int)) = true := by simp only [decide_eq_true_eq]; omega
  have q3 : (p.length : Int) + 2 ≤ (a.size : Int) := by omega
  have wl : IntKind.i64.wrap ((p.length : Int) + 2) = (p.length : Int) + 2 := IntWalk.i64_in _ (by omega)
  have HBB : Hid (Below w.heap.size w w) := Lib.hid (Below.refl _ _)
  go_enter Tryd.func3, Tryd.ntmps3
  go_wp2_with fail
  refine (H1.out _ HBB.out).mono ?_; rintro e w1 ⟨rfl, hb1⟩
  have B1 := Lib.hid hb1
  clear hb1
  go_wp2_with fail
  refine (H2.out _ B1.out).mono ?_; rintro e w2 ⟨rfl, hb2⟩
  have B2 := Lib.hid (B1.out.trans (hb2.mono B1.out.size))
  clear hb2
  go_wp2_with fail
  refine (H3.out _ B2.out).mono ?_; rintro e w3 ⟨rfl, hb3⟩
  have B3 := Lib.hid (B2.out.trans (hb3.mono B2.out.size))
  clear hb3
  go_wp2_with fail
  refine (H4.out _ B3.out).mono ?_; rintro e w4 ⟨rfl, hb4⟩
  have B4 := Lib.hid (B3.out.trans (hb4.mono B3.out.size))
  have hc1 := HC1.out w4 B4.out
  have hc2 := HC2.out w4 B4.out
  clear hb4 HC1 HC2 H1 H2 H3 H4
  obtain ⟨q, e1, e2, e3, e4⟩ := HE.out
  clear HE
  cases q with
  | true =>
    have e5 : (a.toList == b.toList) = true := by simpa using e3.2 rfl
    have e6 : (x.toList == y.toList) = true := by simpa using e4.2 rfl
    have e7 := e3.2 rfl
    have e8 := e4.2 rfl
    clear e3 e4
    go_wp2_with fail
    go_loopw [7] (fun i wr => ∃ k : Nat, k ≤ a.size ∧ i = .int .i64 k ∧ wr = w4) (fun i _ => a.size - (intOf i).toNat)
    case atStart => exact ⟨0, Nat.zero_le _, rfl, rfl⟩
    case round =>
      obtain ⟨k, hk, rfl, rfl⟩ := hrel
      by_cases hlt : k < a.size
      · obtain ⟨v, hv1, hv2, hv3⟩ := HN.out k hlt
        have tk : decide ((k : Int) < (a.size : Int)) = true := by simp only [decide_eq_true_eq]; omega
        have lk : (k : Int) < (a.size : Int) := by omega
        have wk : IntKind.i64.wrap ((k : Int) + 1) = (k : Int) + 1 := IntWalk.i64_in _ (by omega)
        have v1 : decide ((v : Int) < 32) = false := by simp only [decide_eq_false_iff_not]; omega
        have v2 : decide (126 < (v : Int)) = false := by simp only [decide_eq_false_iff_not]; omega
        have v3 : ¬ (v : Int) < 32 := by omega
        have v4 : ¬ 126 < (v : Int) := by omega
        clear hc1 hc2
        go_wp2
        go_roundw
        case rel => exact ⟨k + 1, by omega, by go_num, trivial⟩
        case measure => simp [intOf]; omega
      · obtain rfl : k = a.size := by omega
        have tk : decide ((a.size : Int) < (a.size : Int)) = false := by simp
        clear hc1 hc2
        go_wp2_with fail
        refine (HK.out _ B4.out).mono ?_; rintro e w5 ⟨rfl, hb5⟩
        have HF := Lib.hid (B4.out.trans (hb5.mono B4.out.size))
        clear hb5
        go_wp2
        go_ret
        exact ⟨rfl, HF.out⟩
  | false =>
    have e7 : ¬ a.toList = b.toList := fun h => by have := e3.1 h; cases this
    have e8 : ¬ x.toList = y.toList := fun h => by have := e4.1 h; cases this
    have e5 : (a.toList == b.toList) = false := by simpa using e7
    have e6 : (x.toList == y.toList) = false := by simpa using e8
    clear e3 e4
    go_wp2_with fail
    go_loopw [7] (fun i wr => ∃ k : Nat, k ≤ a.size ∧ i = .int .i64 k ∧ wr = w4) (fun i _ => a.size - (intOf i).toNat)
    case atStart => exact ⟨0, Nat.zero_le _, rfl, rfl⟩
    case round =>
      obtain ⟨k, hk, rfl, rfl⟩ := hrel
      by_cases hlt : k < a.size
      · obtain ⟨v, hv1, hv2, hv3⟩ := HN.out k hlt
        have tk : decide ((k : Int) < (a.size : Int)) = true := by simp only [decide_eq_true_eq]; omega
        have lk : (k : Int) < (a.size : Int) := by omega
        have wk : IntKind.i64.wrap ((k : Int) + 1) = (k : Int) + 1 := IntWalk.i64_in _ (by omega)
        have v1 : decide ((v : Int) < 32) = false := by simp only [decide_eq_false_iff_not]; omega
        have v2 : decide (126 < (v : Int)) = false := by simp only [decide_eq_false_iff_not]; omega
        have v3 : ¬ (v : Int) < 32 := by omega
        have v4 : ¬ 126 < (v : Int) := by omega
        clear hc1 hc2
        go_wp2
        go_roundw
        case rel => exact ⟨k + 1, by omega, by go_num, trivial⟩
        case measure => simp [intOf]; omega
      · obtain rfl : k = a.size := by omega
        have tk : decide ((a.size : Int) < (a.size : Int)) = false := by simp
        clear hc1 hc2
        go_wp2_with fail
        refine (HK.out _ B4.out).mono ?_; rintro e w5 ⟨rfl, hb5⟩
        have HF := Lib.hid (B4.out.trans (hb5.mono B4.out.size))
        clear hb5
        go_wp2
        go_ret
        exact ⟨rfl, HF.out⟩
/-- A datum's cells. -/
def litCells : Nat → DataW Unit → List Value
  | 0, _ => []
  | _ + 1, .lit (.int k n) => [.int k n]
  | f + 1, .agg l => l.flatMap (litCells f)
  | _ + 1, _ => []
/-- A world in which a listed table holds what it is laid with. -/
def layAt (w : World) (g : Nat) (d : DataW Unit) : World := { w with heap := w.heap.modify g fun
  | .cells _ t fr => .cells (litCells 4 d).toArray t fr
  | o => o }
noncomputable def layW (os : Os) : World := layAt (layAt (layAt (World.holding Tryd.prog os ⟨#[], #[], []⟩) 0 Rows.laid_internal_strconv_uint64pow10) 1 Rows.laid_math_bits_deBruijn32tab) 2 Rows.laid_math_bits_deBruijn64tab
theorem plain_of {f0 : Nat} {fn0 : Func} {nm : String} (h1 : Tryd.prog.funcNamed nm = some f0) (h2 : Tryd.prog.funcs[f0]? = some fn0) (h3 : false = Tryd.prog.looks []) (h4 : (fn0.params.all fun t => !Tryd.prog.wantsStandIn t) = true) (f : FuncId) (fn : Func) (hf : Tryd.pinned.checked.prog.funcNamed nm = some f) (hfn : Tryd.pinned.checked.prog.funcs[f]? = some fn) :
    false = Tryd.pinned.checked.prog.looks [] ∧ ∀ (j : Nat) t, fn.params[j]? = some t → Tryd.pinned.checked.prog.wantsStandIn t = false := by
  obtain rfl : f = f0 := Option.some.inj ((show Tryd.prog.funcNamed nm = some f from hf).symm.trans h1)
  obtain rfl : fn = fn0 := Option.some.inj ((show Tryd.prog.funcs[f]? = some fn from hfn).symm.trans h2)
  refine ⟨h3, fun j t ht => ?_⟩
  have hm := Array.mem_of_getElem? ht
  have := Array.all_eq_true'.1 h4 t hm
  exact (show Tryd.prog.wantsStandIn t = false by simpa using this)
theorem laidMet_tail {P : Program} {W : World} {a : String × DataW Unit} {rest : List (String × DataW Unit)} (h : laidMet P (a :: rest) W) : laidMet P rest W := by
  obtain ⟨ps, ⟨g', t', cs, fuel, p, q, hg', ht', hvar, hd, hr, hps⟩, hn, hc⟩ := h
  subst hps
  exact ⟨q, hr, (List.nodup_append.1 hn).2.1, fun b off hm => hc b off (List.mem_append_right _ hm)⟩
theorem tab_of_laid {W : World} (h : laidMetH Tryd.prog Rows.traceQuotesRow.laid W) : Tab W :=
  Lib.tabIs_of_head (g := 0) (t := 64) (e := 57) (n := 20) (rest := []) (by kernel_rfl) (by kernel_rfl) Tryd.underlying64 Tryd.underlying57 (by kernel_rfl) (by kernel_rfl) (laidMet_tail (laidMet_tail h))
set_option maxRecDepth 100000 in
theorem traceQuotes_contract (H : Type) (enc : TypeId × Value → H) (W : World) (base : Nat) (args : Array Value) (ds gs : List (DataW H)) (before : List MemPlace)
    (hval0 : ∀ (j : Nat) t v, Tryd.f3.params[j]? = some t → args[j]? = some v → Value.okWide Tryd.prog W .any base t v)
    (hW : DataW.Whole enc Tryd.prog Tryd.f3.params.toList Rows.traceQuotesSpec.vars false W args.toList ds gs before)
    (hsz0 : (DataW.weightsEach Tryd.prog (Tryd.f3.params.toList ++ (OpenSpec.ofChange Rows.traceQuotesSpec).bare.plain.varTypes Tryd.prog) (ds ++ gs)).all (· ≤ reachBytes) = true) (hL : laidMetH Tryd.prog Rows.traceQuotesRow.laid W) (hS : W.ShapedOpen Tryd.prog) :
    Calls Tryd.prog 3 args W fun e W' => ∃ v, e = .returned v ∧ Rows.traceQuotesSpec.post enc Tryd.prog Tryd.f3 false true false false W args v W' := by
  have hval : ∀ (j : Nat) t v, Tryd.f3.params[j]? = some t → args[j]? = some v → Value.okWide Tryd.prog W .any base t v := hval0
  have hsz := hsz0
  have hW' := hW
  obtain ⟨p, q, hA0, hV, rfl, hfz, hnd⟩ := hW
  have hA : DataW.TrodAll enc Tryd.prog W 0 (fun _ => true) true Tryd.f3.params.toList args.toList ds p := hA0
  rw [Tryd.params3] at hA hval hsz
  have hsame : (Rows.traceQuotesSpec.fn H (ds ++ gs)).results = [.lit (.bool true)] ∧ (Rows.traceQuotesSpec.fn H (ds ++ gs)).args = ds ∧ (Rows.traceQuotesSpec.fn H (ds ++ gs)).vars = [] → ∀ W', Below W.heap.size W W' → Rows.traceQuotesSpec.post enc Tryd.prog Tryd.f3 false true false false W args (.bool true) W' :=
    fun h W' hb => law_post (tb := 4) hW' law_laid (by kernel_rfl) rfl Tryd.underlying4 h.1 h.2.1 rfl h.2.2 hb
  obtain ⟨v0, vs0, d0, ds0, p0, q0, hargs, rfl, rfl, h0, r0⟩ := trodAll_cons hA
  obtain ⟨v1, vs1, d1, ds1, p1, q1, rfl, rfl, rfl, h1, r1⟩ := trodAll_cons r0
  obtain ⟨rfl, rfl, rfl⟩ := trodAll_nil r1
  obtain rfl : args = #[v0, v1] := by cases args; simp_all
  obtain ⟨rfl, rfl⟩ := trodVars_none hV
  have hpost := hsame ⟨rfl, rfl, rfl⟩
  clear hsame hA0 hval0 hsz0
  obtain ⟨A, p, c, rfl, k1, k2, k3, k4, k5⟩ := open_by (hval 0 22 v0 rfl rfl) h0
  obtain ⟨A', p', c', rfl, k1', k2', k3', k4', k5'⟩ := open_by (hval 1 22 v1 rfl rfl) h1
  have ht := tab_of_laid hL
  by_cases h : 4000 < p.length ∨ 4000 < p'.length
  · exact (quotes_long A A' p.length c p'.length c' W h (by omega) (by omega)).mono fun e W' ⟨he, hb⟩ => ⟨_, he, hpost W' hb⟩
  · exact (quotes_in A A' p p' c c' W ht k3 k4 k5 k3' k4' k5' (by omega) (by omega)).mono fun e W' ⟨he, hb⟩ => ⟨_, he, hpost W' hb⟩
theorem traceQuotes_reads (os : Os) {H : Type} (enc : TypeId × Value → H) : (DataW.whole enc Tryd.prog ((layW os).forCall (fun _ _ => 0) ⟨#[], #[.slice none 0 0, .slice none 0 0], []⟩).memory Tryd.f3.params.toList Rows.traceQuotesSpec.vars false #[.slice none 0 0, .slice none 0 0].toList 8).isSome = true := by kernel_rfl
theorem traceQuotes_met (os : Os) : laidMet Tryd.prog Rows.traceQuotesRow.laid ((layW os).forCall (fun _ _ => 0) ⟨#[], #[.slice none 0 0, .slice none 0 0], []⟩).memory := laidMet_of_run' 8 (by kernel_rfl) (by kernel_rfl)
set_option maxRecDepth 100000 in
theorem traceQuotes_lifted (os : Os) (started : os.Started) (H : Type) (enc : TypeId × Value → H) (F : Stop.Interp) :
    ReturnsInHanded {} Tryd.checked os 3 .any ((OpenSpec.ofChange Rows.traceQuotesSpec).preRow enc Tryd.prog Tryd.f3 Rows.traceQuotesRow.domain false Rows.traceQuotesRow.laid) (((OpenSpec.ofChange Rows.traceQuotesSpec).at F).post enc Tryd.prog Tryd.f3 false true false false) := by
  obtain ⟨x, hx⟩ := Option.isSome_iff_exists.1 (traceQuotes_reads os enc)
  refine returnsInHanded_of_row (C := Tryd.checked) (s := OpenSpec.ofChange Rows.traceQuotesSpec) law_own started (by kernel_rfl) Tryd.func3
    (witness_row_at (enc := enc) (C := Tryd.checked) false (layW os) #[.slice none 0 0, .slice none 0 0] rfl (by kernel_rfl) (by kernel_rfl) (by kernel_rfl)
      (OpenSpec.preRow_of_cond 8 hx (by rfl) (fun k hk => by cases hk) (by kernel_rfl) (traceQuotes_met os))) ?_
  intro W base args ds gs before hval hW _ _ hsz hL hS _
  exact traceQuotes_contract H enc W base args ds gs before hval hW hsz hL hS
theorem traceQuotes_said : Rows.TraceQuotesSaid :=
  OpenClaim.holds_of_cond 3 Tryd.f3 rfl rfl rfl rfl rfl rfl rfl ⟨rfl, rfl, rfl, rfl, rfl⟩ rfl rfl rfl rfl rfl (by kernel_rfl) Tryd.func3 (by kernel_rfl)
    (of_decide_eq_true (by kernel_rfl)) (by unfold Func.isWrapper; first | (rw [if_pos (by decide +kernel)]; kernel_rfl) | (rw [if_neg (by decide +kernel)]; exact ⟨rfl, rfl⟩))
    (fun os started H enc _ F => by rw [OpenClaim.pre_eq_preRow]; exact traceQuotes_lifted os started H enc F)
theorem traceQuotes_holds : Rows.TraceQuotesCardSaid :=
  Claim7.holds_tied_plain_at .later [] _ _ _ _ traceQuotes_said (fun _ h => by cases h) (by kernel_rfl) (fun _ h => by cases h) traceQuotes_row_tie rfl ⟨rfl, rfl⟩ (by kernel_rfl) rfl (plain_of (f0 := 3) (fn0 := Tryd.f3) (by kernel_rfl) Tryd.func3 (by kernel_rfl) (by kernel_rfl)) (by kernel_rfl)
end Go.Proofs.YtelabakcadhffaaDoor
