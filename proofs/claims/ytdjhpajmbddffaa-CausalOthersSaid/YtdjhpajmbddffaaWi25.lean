/- Stage 25: within. -/
import Derived.Test.YtdjhpajmbddffaaEv25
set_option linter.unusedSimpArgs false
set_option linter.unusedVariables false
namespace Go.Proofs.Ytdjhpajmbddffaa
open Go.RowKit

/-- Does a scan go over a key? -/
def withinP (lo hi key : ByteArray) : Bool := !(Op.bytesLess key.toList lo.toList) && (hi.toList == (⟨#[]⟩ : ByteArray).toList || Op.bytesLess key.toList hi.toList)
set_option maxRecDepth 100000 in
set_option maxHeartbeats 4000000 in
theorem within_any (e : Ev) (key : ByteArray) (w : World) : Calls Try.prog 40 #[.agg e.st.toArray, .string key] w fun r w' => r = .returned (.bool (withinP e.key e.hi key)) ∧ Below w.heap.size w w' := by
  obtain ⟨X, hX⟩ : ∃ X : Array Value, e.st.toArray = X := ⟨_, rfl⟩
  have x7 : X[7]? = some (.string e.key) := by rw [← hX]; rfl
  have x8 : X[8]? = some (.string e.hi) := by rw [← hX]; rfl
  rw [hX]
  have HB : Hid (Below w.heap.size w (w.alloc (.cells X 41))) := Lib.hid ((Below.refl _ _).alloc (Nat.le_refl _) _)
  clear hX
  have HE : Hid (withinP e.key e.hi key = (!(Op.bytesLess key.toList e.key.toList) && (e.hi.toList == (⟨#[]⟩ : ByteArray).toList || Op.bytesLess key.toList e.hi.toList))) := Lib.hid rfl
  rw [HE.out]
  clear HE
  generalize hk : e.key = lo at *
  generalize hh : e.hi = hi at *
  clear hk hh
  have he : (⟨#[]⟩ : ByteArray).toList = [] := by rw [ByteArray.toList_eq]
  rw [he]
  obtain ⟨b1, h1⟩ : ∃ b, Op.bytesLess key.toList lo.toList = b := ⟨_, rfl⟩
  obtain ⟨b2, h2⟩ : ∃ b, (hi.toList == []) = b := ⟨_, rfl⟩
  obtain ⟨b3, h3⟩ : ∃ b, Op.bytesLess key.toList hi.toList = b := ⟨_, rfl⟩
  rw [h1, h2, h3]
  go_enter Try.func40, Try.ntmps40
  go_upto_region 1 with fail
  cases b1
  · cases b2
    · go_wp2_with fail
      go_ret
      exact ⟨by simp [h1, h2, h3], HB.out⟩
    · go_wp2_with fail
      go_ret
      exact ⟨by simp [h1, h2, h3], HB.out⟩
  · go_wp2_with fail
    go_ret
    exact ⟨by simp [h1, h2, h3], HB.out⟩
end Go.Proofs.Ytdjhpajmbddffaa
