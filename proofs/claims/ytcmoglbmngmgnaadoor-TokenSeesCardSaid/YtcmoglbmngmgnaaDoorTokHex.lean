/- FormatUint to the base 16, token.hex; octet.Sum (some value of 32 bits). -/
import Derived.Test.YtcmoglbmngmgnaaDoorTokBits
import Derived.Test.YtcmoglbmngmgnaaDoorRepL
set_option linter.unusedSimpArgs false
set_option linter.unusedVariables false
namespace Go.Proofs.YtcmoglbmngmgnaaDoor
open Go.RowKit Go.Sort

theorem tok_extra : Builder.Extra Tryd.prog Tryd.lays105_ren := {
  sizeBuilder := by kernel_rfl
  liesBuilder := by kernel_rfl
  t5 := Tryd.underlying5
  a5 := Tryd.lays105.a5
  z5 := Tryd.lays105.z5
  v5 := Tryd.lays105.v5
  infoByte := by kernel_rfl
  cellsByte := by kernel_rfl
  sizeByte := by kernel_rfl
  neB5 := by decide }
theorem fmt_uint (U : Nat) (w : World) (ht : Tb2 w) (hU : U < 18446744073709551616) :
    Calls Tryd.prog 33 #[.int .u64 U, .int .i64 16] w fun e w' => e = .returned (.string ⟨(hexF 16 U).toArray⟩) ∧ Below w.heap.size w w' := by
  have HF := Lib.hid (fmt_bits U w ht hU)
  have hUi : (U : Int) < 18446744073709551616 := by omega
  clear ht
  generalize (⟨(hexF 16 U).toArray⟩ : ByteArray) = S at *
  go_enter Tryd.func33, Tryd.ntmps33
  go_wp2_with fail
  refine HF.out.mono ?_; rintro e w1 ⟨rfl, k1⟩
  have K1 := Lib.hid k1
  clear k1 HF
  go_wp2
  go_ret
  exact ⟨rfl, K1.out⟩
theorem fmt_uint' (U : Nat) (w : World) (ht : Tb2 w) (hU : U < 18446744073709551616) :
    Calls Tryd.prog 27 #[.int .u64 U, .int .i64 16] w fun e w' => e = .returned (.string ⟨(hexF 16 U).toArray⟩) ∧ Below w.heap.size w w' := by
  have HF := Lib.hid (fmt_uint U w ht hU)
  have hUi : (U : Int) < 18446744073709551616 := by omega
  clear ht
  generalize (⟨(hexF 16 U).toArray⟩ : ByteArray) = S at *
  go_enter Tryd.func27, Tryd.ntmps27
  go_wp2_with fail
  refine HF.out.mono ?_; rintro e w1 ⟨rfl, k1⟩
  have K1 := Lib.hid k1
  clear k1 HF
  go_wp2
  go_ret
  exact ⟨rfl, K1.out⟩
/-- n digits, noughts ahead. -/
def hexP (n U : Nat) : ByteArray := ⟨(Lib.repeatL [48] (n - (hexF 16 U).length)).toArray⟩ ++ ⟨(hexF 16 U).toArray⟩
set_option maxRecDepth 100000 in
theorem tok_hex (U n : Nat) (w : World) (ht : Tb2 w) (hU : U < 18446744073709551616) (hl : (hexF 16 U).length ≤ n) (hn : n ≤ 16) :
    Calls Tryd.prog 17 #[.int .u64 U, .int .i64 n] w fun e w' => e = .returned (.string (hexP n U)) ∧ Below w.heap.size w w' := by
  have HF := Lib.hid (fmt_uint' U w ht hU)
  have HR := Lib.hid (fun W => Any.strings_Repeat Tryd.lays105 tok_extra ⟨#[48]⟩ (n - (hexF 16 U).length) W (by omega) (by show 1 * _ ≤ _; omega))
  have hs : (⟨(hexF 16 U).toArray⟩ : ByteArray).size = (hexF 16 U).length := by simp [ByteArray.size]
  have HP : Hid (hexP n U = ⟨(Lib.repeatL [48] (n - (hexF 16 U).length)).toArray⟩ ++ ⟨(hexF 16 U).toArray⟩) := Lib.hid rfl
  have hUi : (U : Int) < 18446744073709551616 := by omega
  have hsz : (⟨(Lib.repeatL [48] (n - (hexF 16 U).length)).toArray⟩ : ByteArray).size ≤ 16 := by
    show (Lib.repeatL [48] (n - (hexF 16 U).length)).toArray.size ≤ 16
    rw [List.size_toArray, Lib.repeatL_length]
    simp
    omega
  clear ht
  generalize hexP n U = T at *
  change Hid (∀ W, Calls Tryd.prog 28 #[.string ⟨#[48]⟩, .int .i64 ((n - (hexF 16 U).length : Nat) : Int)] W fun e w' => e = .returned (.string ⟨(Lib.repeatL [48] (n - (hexF 16 U).length)).toArray⟩) ∧ Below W.heap.size W w') at HR
  generalize (⟨(Lib.repeatL [48] (n - (hexF 16 U).length)).toArray⟩ : ByteArray) = R at *
  generalize (⟨(hexF 16 U).toArray⟩ : ByteArray) = S at *
  generalize (hexF 16 U).length = k at *
  have hsk : (S.size : Int) = (k : Int) := by omega
  have hnk : ((n - k : Nat) : Int) = (n : Int) - (k : Int) := by omega
  rw [hnk] at HR
  have hb1 : ¬ 9223372036854775807 < R.size + S.size := by omega
  have hb2 : ¬ 9223372036854775807 < R.size + k := by omega
  clear hsk hnk
  go_enter Tryd.func17, Tryd.ntmps17
  go_wp2_with fail
  refine HF.out.mono ?_; rintro e w1 ⟨rfl, k1⟩
  have K1 := Lib.hid k1
  clear k1 HF
  go_wp2_with fail
  refine (HR.out w1).mono ?_; rintro e w2 ⟨rfl, k2⟩
  have K2 := Lib.hid (K1.out.trans (k2.mono K1.out.size))
  clear k2 HR
  go_wp2
  go_ret
  exact ⟨by rw [HP.out]; rfl, K2.out⟩
end Go.Proofs.YtcmoglbmngmgnaaDoor
