/- Stage 22: what the cards of TokenPrints, TokenParses, TokenSees share: tables and two sentinels. -/
import Derived.Test.YtcmoglbmngmgnaaDoorTokCard
import Derived.Test.YtcmoglbmngmgnaaDoorTokPar
set_option linter.unusedSimpArgs false
set_option linter.unusedVariables false
namespace Go.Proofs.YtcmoglbmngmgnaaDoor
open Go.ChangeShapes Go.WideShapes Go.ChangeAt Go.RowKit Go.Joins

theorem cell_lt' {w : World} {B o : Nat} {v : Value} (h : w.cell? ⟨B, o, none⟩ = some v) : B < w.heap.size := by
  rcases Nat.lt_or_ge B w.heap.size with q | q
  · exact q
  · simp [World.cell?, Array.getElem?_eq_none q] at h
theorem tb2_of_laid6 {W : World} {r : List (String × DataW Unit)} (h : laidMet Tryd.prog (("math/bits.deBruijn32tab", Rows.laid_math_bits_deBruijn32tab) :: ("math/bits.deBruijn64tab", Rows.laid_math_bits_deBruijn64tab) :: ("internal/strconv.uint64pow10", Rows.laid_internal_strconv_uint64pow10) :: ("meridian/octet.nibbles", Rows.laid_meridian_octet_nibbles) :: r) W) : Tb2 W where
  nib := Lib.tabIs_of_head (g := 0) (t := 65) (e := 51) (n := 16) (rest := r) (by kernel_rfl) (by kernel_rfl) Tryd.underlying65 Tryd.underlying51 (by kernel_rfl) (by kernel_rfl) (laidMet_tail (laidMet_tail (laidMet_tail h)))
  deb := Lib.tabIs_of_head (g := 6) (t := 116) (e := 5) (n := 64) (rest := ("internal/strconv.uint64pow10", Rows.laid_internal_strconv_uint64pow10) :: ("meridian/octet.nibbles", Rows.laid_meridian_octet_nibbles) :: r) (by kernel_rfl) (by kernel_rfl) Tryd.underlying116 Tryd.underlying5 (by kernel_rfl) (by kernel_rfl) (laidMet_tail h)
theorem ev_of_head {W : World} {nm : String} {d : DataW Unit} {r : List (String × DataW Unit)} (h : laidMet Tryd.prog (("strconv.ErrSyntax", .iface nm d) :: r) W) : EvAt W ∧ 1 < W.heap.size := by
  obtain ⟨ps, ⟨g, t, cs, fuel, p, q, hg, ht, hvar, hd, _, _⟩, _⟩ := h
  have hg2 : Tryd.prog.globalNamed "strconv.ErrSyntax" = some 1 := by kernel_rfl
  have ht2 : (Tryd.prog.globals[1]?).map (·.type) = some 57 := by kernel_rfl
  obtain rfl := Option.some.inj (hg2.symm.trans hg)
  obtain rfl := Option.some.inj (ht2.symm.trans ht)
  obtain ⟨l0⟩ := cs
  obtain ⟨_, u, v, e, _, _⟩ := iface_of_trod Tryd.underlying57 hd
  have e' : l0 = [.iface u v] := e
  subst e'
  have hc : W.cell? ⟨1, 0, none⟩ = some (.iface u v) := by simpa using World.var?_cell hg2 hvar 0
  exact ⟨⟨_, hc, Or.inr ⟨u, v, rfl⟩⟩, cell_lt' hc⟩
theorem ev_of_laid6 {W : World} {a b c d e : String × DataW Unit} {nm : String} {x : DataW Unit} (h : laidMet Tryd.prog [a, b, c, d, e, ("strconv.ErrSyntax", .iface nm x)] W) : EvAt W ∧ 1 < W.heap.size :=
  ev_of_head (laidMet_tail (laidMet_tail (laidMet_tail (laidMet_tail (laidMet_tail h)))))
/-- A world in which a listed sentinel points to its text. -/
def laySent (w : World) (g : Nat) (text : List UInt8) : World := { w.alloc (.cells #[.string ⟨text.toArray⟩] 112) with heap := (w.alloc (.cells #[.string ⟨text.toArray⟩] 112)).heap.modify g fun
  | .cells _ t fr => .cells #[.iface 110 (.pointer (some ⟨w.heap.size, 0, none⟩))] t fr
  | o => o }
noncomputable def layW6 (os : Os) : World := laySent (laySent (layW4 os) 2 [118, 97, 108, 117, 101, 32, 111, 117, 116, 32, 111, 102, 32, 114, 97, 110, 103, 101]) 1 [105, 110, 118, 97, 108, 105, 100, 32, 115, 121, 110, 116, 97, 120]
end Go.Proofs.YtcmoglbmngmgnaaDoor
