/- Stage 22: TokenSaw: the card. (for every list and cut) -/
import Derived.Test.YtcmoglbmngmgnaaDoorS22S
import Derived.Test.YtcmoglbmngmgnaaDoorArgFlat
import Derived.Test.YtcmoglbmngmgnaaDoorLaw
import Derived.Test.YtcmoglbmngmgnaaDoorCards
import Derived.Test.YtcmoglbmngmgnaaDoorTie
import Derived.Deep.DeepHandedRow
import Derived.Lib.LaidTab
set_option linter.unusedSimpArgs false
set_option linter.unusedVariables false
namespace Go.Proofs.YtcmoglbmngmgnaaDoor
open Go.ChangeShapes Go.WideShapes Go.ChangeAt Go.RowKit Go.Joins

theorem laidMet_tail {P : Program} {W : World} {a : String × DataW Unit} {rest : List (String × DataW Unit)} (h : laidMet P (a :: rest) W) : laidMet P rest W := by
  obtain ⟨ps, ⟨g', t', cs, fuel, p, q, hg', ht', hvar, hd, hr, hps⟩, hn, hc⟩ := h
  subst hps
  exact ⟨q, hr, (List.nodup_append.1 hn).2.1, fun b off hm => hc b off (List.mem_append_right _ hm)⟩
theorem tb2_of_laid {W : World} (h : laidMetH Tryd.prog Rows.tokenSawRow.laid W) : Tb2 W where
  nib := Lib.tabIs_of_head (g := 0) (t := 65) (e := 51) (n := 16) (rest := []) (by kernel_rfl) (by kernel_rfl) Tryd.underlying65 Tryd.underlying51 (by kernel_rfl) (by kernel_rfl) (laidMet_tail (laidMet_tail (laidMet_tail h)))
  deb := Lib.tabIs_of_head (g := 6) (t := 116) (e := 5) (n := 64) (rest := [("internal/strconv.uint64pow10", Rows.laid_internal_strconv_uint64pow10), ("meridian/octet.nibbles", Rows.laid_meridian_octet_nibbles)]) (by kernel_rfl) (by kernel_rfl) Tryd.underlying116 Tryd.underlying5 (by kernel_rfl) (by kernel_rfl) (laidMet_tail h)
/-- What a slice's room says of its address. -/
theorem open_cap {H : Type} {enc : TypeId × Value → H} {w : World} {base : Nat} {t e : TypeId} {m B O n c : Nat} {s : Option Nat} {d : DataW H} {p : List MemPlace}
    (ht : Tryd.prog.underlying t = some (.slice e)) (hb : flatB Tryd.prog 4 e = true) (hm : Tryd.prog.cellsOf e = m) (hm0 : 0 < m) (h : DataW.Trod enc Tryd.prog w base (fun _ => true) true t (.slice (some ⟨B, O, s⟩) n c) d p) :
    n ≤ c ∧ (0 < c → s = none) := by
  obtain ⟨fuel, hf⟩ := h
  rcases Go.Deep.open_slice ht hf with ⟨hcs, _⟩ | ⟨a, len', cap', mm, k, D, Pl, hcs, _, hl, hmx, hmm, _, hi⟩
  · simp [Value.cells] at hcs
  · simp [Value.cells] at hcs
    obtain ⟨rfl, rfl, rfl⟩ := hcs
    refine ⟨hl, fun h0 => ?_⟩
    simp only [if_true] at hmm
    obtain ⟨cs', hc, ht'⟩ := hi 0 (by omega)
    rw [hm] at hc
    obtain ⟨_, hcl, hat⟩ := World.cells?_some hc
    obtain ⟨z, hz, _⟩ := flat_ints 4 e _ _ _ hb ht' 0 (by omega)
    have h1 := hat 0 hm0
    rw [hz] at h1
    simpa [Addr.add] using World.cell?_spot h1
def litCells : Nat → DataW Unit → List Value
  | 0, _ => []
  | _ + 1, .lit (.int k n) => [.int k n]
  | f + 1, .agg l => l.flatMap (litCells f)
  | _ + 1, _ => []
/-- A world in which a listed table holds what it is laid with. -/
def layAt (w : World) (g : Nat) (d : DataW Unit) : World := { w with heap := w.heap.modify g fun
  | .cells _ t fr => .cells (litCells 4 d).toArray t fr
  | o => o }
theorem plain_of {lk : Bool} {f0 : Nat} {fn0 : Func} {nm : String} (h1 : Tryd.prog.funcNamed nm = some f0) (h2 : Tryd.prog.funcs[f0]? = some fn0) (h3 : lk = Tryd.prog.looks []) (h4 : (fn0.params.all fun t => !Tryd.prog.wantsStandIn t) = true) (f : FuncId) (fn : Func) (hf : Tryd.pinned.checked.prog.funcNamed nm = some f) (hfn : Tryd.pinned.checked.prog.funcs[f]? = some fn) :
    lk = Tryd.pinned.checked.prog.looks [] ∧ ∀ (j : Nat) t, fn.params[j]? = some t → Tryd.pinned.checked.prog.wantsStandIn t = false := by
  obtain rfl : f = f0 := Option.some.inj ((show Tryd.prog.funcNamed nm = some f from hf).symm.trans h1)
  obtain rfl : fn = fn0 := Option.some.inj ((show Tryd.prog.funcs[f]? = some fn from hfn).symm.trans h2)
  refine ⟨h3, fun j t ht => ?_⟩
  have hm := Array.mem_of_getElem? ht
  have := Array.all_eq_true'.1 h4 t hm
  exact (show Tryd.prog.wantsStandIn t = false by simpa using this)
noncomputable def layW4 (os : Os) : World := layAt (layAt (layAt (layAt (World.holding Tryd.prog os ⟨#[], #[], []⟩) 0 Rows.laid_meridian_octet_nibbles) 3 Rows.laid_internal_strconv_uint64pow10) 5 Rows.laid_math_bits_deBruijn32tab) 6 Rows.laid_math_bits_deBruijn64tab
set_option maxRecDepth 100000 in
theorem tokenSaw_contract (H : Type) (enc : TypeId × Value → H) (W : World) (base : Nat) (args : Array Value) (ds gs : List (DataW H)) (before : List MemPlace)
    (hval0 : ∀ (j : Nat) t v, Tryd.f6.params[j]? = some t → args[j]? = some v → Value.okWide Tryd.prog W .any base t v)
    (hW : DataW.Whole enc Tryd.prog Tryd.f6.params.toList Rows.tokenSawSpec.vars false W args.toList ds gs before)
    (hsz0 : (DataW.weightsEach Tryd.prog (Tryd.f6.params.toList ++ (OpenSpec.ofChange Rows.tokenSawSpec).bare.plain.varTypes Tryd.prog) (ds ++ gs)).all (· ≤ reachBytes) = true) (hL : laidMetH Tryd.prog Rows.tokenSawRow.laid W) (hS : W.ShapedOpen Tryd.prog) :
    Calls Tryd.prog 6 args W fun e W' => ∃ v, e = .returned v ∧ Rows.tokenSawSpec.post enc Tryd.prog Tryd.f6 false true false false W args v W' := by
  have hval : ∀ (j : Nat) t v, Tryd.f6.params[j]? = some t → args[j]? = some v → Value.okWide Tryd.prog W .any base t v := hval0
  have hsz := hsz0
  have hW' := hW
  obtain ⟨p, q, hA0, hV, rfl, hfz, hnd⟩ := hW
  have hA : DataW.TrodAll enc Tryd.prog W 0 (fun _ => true) true Tryd.f6.params.toList args.toList ds p := hA0
  rw [Tryd.params6] at hA hval hsz
  have hsame : (Rows.tokenSawSpec.fn H (ds ++ gs)).results = [.lit (.bool true)] ∧ (Rows.tokenSawSpec.fn H (ds ++ gs)).args = ds ∧ (Rows.tokenSawSpec.fn H (ds ++ gs)).vars = [] → ∀ W', Below W.heap.size W W' → Rows.tokenSawSpec.post enc Tryd.prog Tryd.f6 false true false false W args (.bool true) W' :=
    fun h W' hb => law_post (tb := 4) hW' law_laid (by kernel_rfl) rfl Tryd.underlying4 h.1 h.2.1 rfl h.2.2 hb
  obtain ⟨v0, vs0, d0, ds0, p0, q0, hargs, rfl, rfl, h0, r0⟩ := trodAll_cons hA
  obtain ⟨v1, vs1, d1, ds1, p1, q1, rfl, rfl, rfl, h1, r1⟩ := trodAll_cons r0
  obtain ⟨rfl, rfl, rfl⟩ := trodAll_nil r1
  obtain rfl : args = #[v0, v1] := by cases args; simp_all
  obtain ⟨rfl, rfl⟩ := trodVars_none hV
  have hpost := hsame ⟨rfl, rfl, rfl⟩
  clear hsame hA0 hval0 hsz0
  obtain ⟨A, n, c, z, rfl, hm, hz⟩ := open_flat_slice (m := 2) Tryd.underlying41 (by kernel_rfl) (by kernel_rfl) (by omega) (hval 0 41 v0 rfl rfl) h0
  obtain ⟨cut, rfl, rfl, rfl, wfa⟩ := open_int Tryd.underlying3 (hval 1 3 v1 rfl rfl) h1
  have ht := tb2_of_laid hL
  by_cases h : 200 < n
  · exact (saw_long A n c cut W hm h).mono fun e W' ⟨he, hb⟩ => ⟨_, he, hpost W' hb⟩
  obtain ⟨d, hd, had⟩ := and65535 cut
  cases A with
  | none =>
    obtain ⟨rfl, rfl⟩ := nil_shape Tryd.underlying41 h0
    exact (saw_none cut (fun j => z (j * 2)) (fun j => z (j * 2 + 1)) W ht (by omega) d hd had (by omega) hz.pairs).mono fun e W' ⟨he, hb⟩ => ⟨_, he, hpost W' hb⟩
  | some ad =>
    obtain ⟨B, O, s⟩ := ad
    obtain ⟨hnc, hs⟩ := open_cap (m := 2) Tryd.underlying41 (by kernel_rfl) (by kernel_rfl) (by omega) h0
    by_cases hc0 : c = 0
    · subst hc0
      obtain rfl : n = 0 := by omega
      exact (saw_zero ⟨B, O, s⟩ cut (fun j => z (j * 2)) (fun j => z (j * 2 + 1)) W ht (by omega) d hd had (by omega) hz.pairs).mono fun e W' ⟨he, hb⟩ => ⟨_, he, hpost W' hb⟩
    · obtain rfl := hs (by omega)
      have hk : d % (n + 1) ≤ n := Nat.le_of_lt_succ (Nat.mod_lt _ (Nat.succ_pos _))
      by_cases hck : c = d % (n + 1)
      · obtain rfl : c = n := by omega
        exact (saw_eq B O c cut (fun j => z (j * 2)) (fun j => z (j * 2 + 1)) W ht (by omega) (by omega) d hd had hck.symm hz.pairs).mono fun e W' ⟨he, hb⟩ => ⟨_, he, hpost W' hb⟩
      · exact (saw_add B O n c cut (fun j => z (j * 2)) (fun j => z (j * 2 + 1)) W ht (by omega) hnc (d % (n + 1)) hk d hd had rfl hz.pairs hck).mono fun e W' ⟨he, hb⟩ => ⟨_, he, hpost W' hb⟩
theorem tokenSaw_reads (os : Os) {H : Type} (enc : TypeId × Value → H) : (DataW.whole enc Tryd.prog ((layW4 os).forCall (fun _ _ => 0) ⟨#[], #[.slice none 0 0, .int .i64 0], []⟩).memory Tryd.f6.params.toList Rows.tokenSawSpec.vars false #[.slice none 0 0, .int .i64 0].toList 8).isSome = true := by kernel_rfl
theorem tokenSaw_met (os : Os) : laidMet Tryd.prog Rows.tokenSawRow.laid ((layW4 os).forCall (fun _ _ => 0) ⟨#[], #[.slice none 0 0, .int .i64 0], []⟩).memory := laidMet_of_run' 8 (by kernel_rfl) (by kernel_rfl)
set_option maxRecDepth 100000 in
theorem tokenSaw_lifted (os : Os) (started : os.Started) (H : Type) (enc : TypeId × Value → H) (F : Stop.Interp) :
    ReturnsInHanded {} Tryd.checked os 6 .any ((OpenSpec.ofChange Rows.tokenSawSpec).preRow enc Tryd.prog Tryd.f6 Rows.tokenSawRow.domain false Rows.tokenSawRow.laid) (((OpenSpec.ofChange Rows.tokenSawSpec).at F).post enc Tryd.prog Tryd.f6 false true false false) := by
  obtain ⟨x, hx⟩ := Option.isSome_iff_exists.1 (tokenSaw_reads os enc)
  refine returnsInHanded_of_row (C := Tryd.checked) (s := OpenSpec.ofChange Rows.tokenSawSpec) law_own started (by kernel_rfl) Tryd.func6
    (witness_row_at (enc := enc) (C := Tryd.checked) false (layW4 os) #[.slice none 0 0, .int .i64 0] rfl (by kernel_rfl) (by kernel_rfl) (by kernel_rfl)
      (OpenSpec.preRow_of_cond 8 hx (by rfl) (fun k hk => by cases hk) (by kernel_rfl) (tokenSaw_met os))) ?_
  intro W base args ds gs before hval hW _ _ hsz hL hS _
  exact tokenSaw_contract H enc W base args ds gs before hval hW hsz hL hS
theorem tokenSaw_said : Rows.TokenSawSaid :=
  OpenClaim.holds_of_cond 6 Tryd.f6 rfl rfl rfl rfl rfl rfl rfl ⟨rfl, rfl, rfl, rfl, rfl⟩ rfl rfl rfl rfl rfl (by kernel_rfl) Tryd.func6 (by kernel_rfl)
    (of_decide_eq_true (by kernel_rfl)) (by unfold Func.isWrapper; first | (rw [if_pos (by decide +kernel)]; kernel_rfl) | (rw [if_neg (by decide +kernel)]; exact ⟨rfl, rfl⟩))
    (fun os started H enc _ F => by rw [OpenClaim.pre_eq_preRow]; exact tokenSaw_lifted os started H enc F)
theorem tokenSaw_holds : Rows.TokenSawCardSaid :=
  Claim7.holds_tied_plain_at .later [] _ _ _ _ tokenSaw_said (fun _ h => by cases h) (by kernel_rfl) (fun _ h => by cases h) tokenSaw_row_tie rfl ⟨rfl, rfl⟩ (by kernel_rfl) rfl (plain_of (f0 := 6) (fn0 := Tryd.f6) (by kernel_rfl) Tryd.func6 (by kernel_rfl) (by kernel_rfl)) (by kernel_rfl)
end Go.Proofs.YtcmoglbmngmgnaaDoor
