/- Stage 25: the law's written, of two writes that are one. -/
import Derived.Test.YtdjhpajmbddffaaWm25
import Derived.Test.YtdjhpajmbddffaaLSame25
set_option linter.unusedSimpArgs false
set_option linter.unusedVariables false
namespace Go.Proofs.Ytdjhpajmbddffaa
open Go.RowKit

set_option maxRecDepth 100000 in
set_option maxHeartbeats 8000000 in
theorem written_yes (who tm tc nd tt : Int) (key : ByteArray) (p : List Int) (gn un : Bool) (A A' : Option Addr) (c c' : Nat) (w : World) (hp : p.length ≤ 1000000) (h : ByL w A p) (h' : ByL w A' p) :
    Calls Try.prog 10 #[.agg #[.int .i64 who, .string key, .int .i64 tm, .int .i64 tc, .int .i64 nd, .slice A p.length c, .bool gn, .int .i64 tt, .bool un], .agg #[.int .i64 who, .string key, .int .i64 tm, .int .i64 tc, .int .i64 nd, .slice A' p.length c', .bool gn, .int .i64 tt, .bool un]] w
      fun e w' => e = .returned (.bool true) ∧ Below w.heap.size w w' := by
  have hs : (key == key) = true := by rw [str_beq25]; simp
  have HS := Lib.hid (fun (W : World) (k : Below w.heap.size w W) => lsame25 A p c A' p c' W hp hp (h.below k) (h'.below k))
  clear h h'
  go_enter Try.func10, Try.ntmps10
  go_wp2_with (go_at_call 15; refine (HS.out _ (by (repeat' (first | (with_reducible exact Below.refl _ _) | (with_reducible assumption) | (with_reducible refine Below.trans ?_ (Below.mono (by with_reducible assumption) ?_)) | (with_reducible refine Below.alloc ?_ ?_ _) | (with_reducible refine Below.setCell ?_ ?_ _) | (with_reducible refine below_drewN ?_ _) | (with_reducible refine Below.drew ?_) | go_size)))).mono ?_; rintro e2 w2 ⟨rfl, q, rfl⟩)
  go_ret
  exact ⟨by simp, by (repeat' (first | (with_reducible exact Below.refl _ _) | (with_reducible assumption) | (with_reducible refine Below.trans ?_ (Below.mono (by with_reducible assumption) ?_)) | (with_reducible refine Below.alloc ?_ ?_ _) | (with_reducible refine Below.setCell ?_ ?_ _) | (with_reducible refine below_drewN ?_ _) | (with_reducible refine Below.drew ?_) | go_size))⟩
end Go.Proofs.Ytdjhpajmbddffaa
