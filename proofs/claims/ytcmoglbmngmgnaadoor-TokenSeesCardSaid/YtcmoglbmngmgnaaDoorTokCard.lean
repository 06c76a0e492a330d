/- Stage 22: what the cards of the tokens' laws share. -/
import Derived.Test.YtcmoglbmngmgnaaDoorTokTab
import Derived.Test.YtcmoglbmngmgnaaDoorLaw
import Derived.Test.YtcmoglbmngmgnaaDoorCards
import Derived.Test.YtcmoglbmngmgnaaDoorTie
import Derived.Deep.DeepHandedRow
import Derived.Lib.LaidTab
set_option linter.unusedSimpArgs false
set_option linter.unusedVariables false
namespace Go.Proofs.YtcmoglbmngmgnaaDoor
open Go.ChangeShapes Go.WideShapes Go.ChangeAt Go.RowKit Go.Joins

theorem laidMet_tail {P : Program} {W : World} {a : String × DataW Unit} {rest : List (String × DataW Unit)} (h : laidMet P (a :: rest) W) : laidMet P rest W := by
  obtain ⟨ps, ⟨g', t', cs, fuel, p, q, hg', ht', hvar, hd, hr, hps⟩, hn, hc⟩ := h
  subst hps
  exact ⟨q, hr, (List.nodup_append.1 hn).2.1, fun b off hm => hc b off (List.mem_append_right _ hm)⟩
theorem tb2_of_laid {W : World} (h : laidMet Tryd.prog [("math/bits.deBruijn32tab", Rows.laid_math_bits_deBruijn32tab), ("math/bits.deBruijn64tab", Rows.laid_math_bits_deBruijn64tab), ("internal/strconv.uint64pow10", Rows.laid_internal_strconv_uint64pow10), ("meridian/octet.nibbles", Rows.laid_meridian_octet_nibbles)] W) : Tb2 W where
  nib := Lib.tabIs_of_head (g := 0) (t := 65) (e := 51) (n := 16) (rest := []) (by kernel_rfl) (by kernel_rfl) Tryd.underlying65 Tryd.underlying51 (by kernel_rfl) (by kernel_rfl) (laidMet_tail (laidMet_tail (laidMet_tail h)))
  deb := Lib.tabIs_of_head (g := 6) (t := 116) (e := 5) (n := 64) (rest := [("internal/strconv.uint64pow10", Rows.laid_internal_strconv_uint64pow10), ("meridian/octet.nibbles", Rows.laid_meridian_octet_nibbles)]) (by kernel_rfl) (by kernel_rfl) Tryd.underlying116 Tryd.underlying5 (by kernel_rfl) (by kernel_rfl) (laidMet_tail h)
def litCells : Nat → DataW Unit → List Value
  | 0, _ => []
  | _ + 1, .lit (.int k n) => [.int k n]
  | f + 1, .agg l => l.flatMap (litCells f)
  | _ + 1, _ => []
/-- A world in which a listed table holds what it is laid with. -/
def layAt (w : World) (g : Nat) (d : DataW Unit) : World := { w with heap := w.heap.modify g fun
  | .cells _ t fr => .cells (litCells 4 d).toArray t fr
  | o => o }
theorem plain_of {lk : Bool} {f0 : Nat} {fn0 : Func} {nm : String} (h1 : Tryd.prog.funcNamed nm = some f0) (h2 : Tryd.prog.funcs[f0]? = some fn0) (h3 : lk = Tryd.prog.looks []) (h4 : (fn0.params.all fun t => !Tryd.prog.wantsStandIn t) = true) (f : FuncId) (fn : Func) (hf : Tryd.pinned.checked.prog.funcNamed nm = some f) (hfn : Tryd.pinned.checked.prog.funcs[f]? = some fn) :
    lk = Tryd.pinned.checked.prog.looks [] ∧ ∀ (j : Nat) t, fn.params[j]? = some t → Tryd.pinned.checked.prog.wantsStandIn t = false := by
  obtain rfl : f = f0 := Option.some.inj ((show Tryd.prog.funcNamed nm = some f from hf).symm.trans h1)
  obtain rfl : fn = fn0 := Option.some.inj ((show Tryd.prog.funcs[f]? = some fn from hfn).symm.trans h2)
  refine ⟨h3, fun j t ht => ?_⟩
  have hm := Array.mem_of_getElem? ht
  have := Array.all_eq_true'.1 h4 t hm
  exact (show Tryd.prog.wantsStandIn t = false by simpa using this)
noncomputable def layW4 (os : Os) : World := layAt (layAt (layAt (layAt (World.holding Tryd.prog os ⟨#[], #[], []⟩) 0 Rows.laid_meridian_octet_nibbles) 3 Rows.laid_internal_strconv_uint64pow10) 5 Rows.laid_math_bits_deBruijn32tab) 6 Rows.laid_math_bits_deBruijn64tab
theorem stamp_cells : Tryd.prog.cellsOf 23 = 2 := by kernel_rfl
set_option maxRecDepth 100000 in
theorem open_stamp {H : Type} {enc : TypeId × Value → H} {w : World} {r : Reach} {base b0 : Nat} {sp : Nat → Bool} {held : Bool} {v : Value} {d : DataW H} {p : List MemPlace}
    (hv : Value.okWide Tryd.prog w r b0 23 v) (h : DataW.Trod enc Tryd.prog w base sp held 23 v d p) :
    ∃ y m : Int, v = .agg #[.int .i64 y, .int .i64 m] ∧ (Lit.int .i64 y).wf = true ∧ (Lit.int .i64 m).wf = true := by
  obtain ⟨c0, c1, y0, y1, n, rfl, rfl, rfl, hy0, hy1⟩ := open_agg2 Tryd.underlying23 (by kernel_rfl) stamp_cells hv h
  obtain ⟨a, e0, _, wa⟩ := DataW.trod_int Tryd.underlying3 hy0
  obtain ⟨b, e1, _, wb⟩ := DataW.trod_int Tryd.underlying3 hy1
  simp at e0 e1
  subst e0 e1
  exact ⟨a, b, rfl, wa, wb⟩
end Go.Proofs.YtcmoglbmngmgnaaDoor
