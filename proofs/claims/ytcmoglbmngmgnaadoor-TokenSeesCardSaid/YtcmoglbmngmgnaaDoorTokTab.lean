/- The tables that a token's sum and digits are read from; TrailingZeros of 16. -/
import Derived.Test.YtcmoglbmngmgnaaDoorHexM
import Derived.Lib.LaidTab
import Derived.Shelf.Unicode.PredsPay
set_option linter.unusedSimpArgs false
set_option linter.unusedVariables false
namespace Go.Proofs.YtcmoglbmngmgnaaDoor
open Go.RowKit Go.Sort

def nibL : List Int := [0, 498536548, 997073096, 651767980, 1994146192, 1802195444, 1303535960, 1342533948, 3988292384, 4027552580, 3604390888, 3412177804, 2607071920, 2262029012, 2685067896, 3183342108]
def debL : List Int := [0, 1, 56, 2, 57, 49, 28, 3, 61, 58, 42, 50, 38, 29, 17, 4, 62, 47, 59, 36, 45, 43, 51, 22, 53, 39, 33, 30, 24, 18, 12, 5, 63, 55, 48, 27, 60, 41, 37, 16, 46, 35, 44, 21, 52, 32, 23, 11, 54, 26, 40, 15, 34, 20, 31, 10, 25, 14, 19, 9, 13, 8, 7, 6]
/-- Both tables stand. -/
structure Tb2 (w : World) : Prop where
  nib : Lib.TabIs Tryd.prog w "meridian/octet.nibbles" .u32 nibL
  deb : Lib.TabIs Tryd.prog w "math/bits.deBruijn64tab" .u8 debL
theorem Tb2.below {w w' : World} (h : Tb2 w) (k : Below w.heap.size w w') : Tb2 w' := ⟨TabIs_below (g := 0) (by kernel_rfl) h.nib k, TabIs_below (g := 6) (by kernel_rfl) h.deb k⟩
theorem Tb2.nibble {w : World} (h : Tb2 w) (i : Nat) (hi : i < 16) : ∃ v : Int, w.cell? ⟨0, i, none⟩ = some (.int .u32 v) ∧ 0 ≤ v ∧ v ≤ 4294967295 := by
  refine ⟨_, h.nib.cell (by kernel_rfl) i hi, ?_⟩
  have : ∀ i : Fin 16, 0 ≤ nibL.getD i.val 0 ∧ nibL.getD i.val 0 ≤ 4294967295 := by decide
  exact this ⟨i, hi⟩
theorem tz64 (w : World) (h : Tb2 w) : Calls Tryd.prog 70 #[.int .u64 16] w fun e w' => e = .returned (.int .i64 4) ∧ w = w' := by
  have c4 : w.cell? ⟨6, 15, none⟩ = some (.int .u8 4) := h.deb.cell (by kernel_rfl) 15 (by decide)
  have a1 : IntKind.u64.wrap (-16) = 18446744073709551600 := by decide
  have a2 : bits .and .u64 16 18446744073709551600 = 16 := by decide
  clear h
  go_enter Tryd.func70, Tryd.ntmps70
  go_wp2
  go_ret
  exact ⟨rfl, rfl⟩
theorem tz16 (w : World) (h : Tb2 w) : Calls Tryd.prog 65 #[.int .u64 16] w fun e w' => e = .returned (.int .i64 4) ∧ w = w' := by
  have HZ := Lib.hid (tz64 w h)
  clear h
  go_enter Tryd.func65, Tryd.ntmps65
  go_wp2_with (go_at_call 70; refine HZ.out.mono ?_; rintro e w' ⟨rfl, rfl⟩)
  go_ret
  exact ⟨rfl, rfl⟩
theorem pow2_16 (w : World) : Calls Tryd.prog 64 #[.int .i64 16] w fun e w' => e = .returned (.bool true) ∧ w = w' := by
  have a2 : bits .and .i64 16 15 = 0 := by decide
  go_enter Tryd.func64, Tryd.ntmps64
  go_wp2
  go_ret
  exact ⟨rfl, rfl⟩
end Go.Proofs.YtcmoglbmngmgnaaDoor
