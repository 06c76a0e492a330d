/- rec.Same: leaves (written by gen/same.py). -/
import Derived.Test.YtpccneikblbhdaaSame0
set_option linter.unusedSimpArgs false
set_option linter.unusedVariables false
namespace Go.Proofs.Ytpccneikblbhdaa
open Go.RowKit

set_option maxRecDepth 100000 in
set_option maxHeartbeats 4000000 in
theorem rec_same_L0 (o : Int) (s : Int) (key : ByteArray) (ml : Int) (ct : Int) (vo : Int) (p : List Int) (g : Bool) (tt : Int) (A : Option Addr) (c : Nat) (o' : Int) (s' : Int) (key' : ByteArray) (ml' : Int) (ct' : Int) (vo' : Int) (p' : List Int) (g' : Bool) (tt' : Int) (A' : Option Addr) (c' : Nat) (w : World) (hby : ByL w A p) (hb : isBy p) (hn : A = none → p.length = 0) (hby' : ByL w A' p') (hb' : isBy p') (hn' : A' = none → p'.length = 0) (h : (o == o') = false) :
    Calls Try.prog 28 #[recV o s key ml ct vo A p.length c g tt, recV o' s' key' ml' ct' vo' A' p'.length c' g' tt'] w fun e w' => e = .returned (.bool (false)) ∧ Below w.heap.size w w' := by
  have hud : undef = Value.tuple #[] := rfl
  have HB0 : Below w.heap.size w ((w.alloc (recO o s key ml ct vo A p.length c g tt)).alloc (recO o' s' key' ml' ct' vo' A' p'.length c' g' tt')) := by (repeat' (first | (with_reducible exact Below.refl _ _) | (with_reducible assumption) | (with_reducible refine Below.trans ?_ (Below.mono (by with_reducible assumption) ?_)) | (with_reducible refine Below.alloc ?_ ?_ _) | (with_reducible refine Below.setCell ?_ ?_ _) | (with_reducible refine below_drewN ?_ _) | (with_reducible refine Below.drew ?_) | go_size))
  have HE := Lib.hid (bytes_eq A p c A' p' c' _ (hby.below HB0) (hby'.below HB0) hb hb')
  clear HB0 hby hby' hb hb' hn hn'
  go_enter Try.func28, Try.ntmps28
  clear HE
  go_wp2
  go_ret
  go_light
  exact ⟨rfl, by (repeat' (first | (with_reducible exact Below.refl _ _) | (with_reducible assumption) | (with_reducible refine Below.trans ?_ (Below.mono (by with_reducible assumption) ?_)) | (with_reducible refine Below.alloc ?_ ?_ _) | (with_reducible refine Below.setCell ?_ ?_ _) | (with_reducible refine below_drewN ?_ _) | (with_reducible refine Below.drew ?_) | go_size))⟩
set_option maxRecDepth 100000 in
set_option maxHeartbeats 4000000 in
theorem rec_same_L1 (o : Int) (s : Int) (key : ByteArray) (ml : Int) (ct : Int) (vo : Int) (p : List Int) (g : Bool) (tt : Int) (A : Option Addr) (c : Nat) (s' : Int) (key' : ByteArray) (ml' : Int) (ct' : Int) (vo' : Int) (p' : List Int) (g' : Bool) (tt' : Int) (A' : Option Addr) (c' : Nat) (w : World) (hby : ByL w A p) (hb : isBy p) (hn : A = none → p.length = 0) (hby' : ByL w A' p') (hb' : isBy p') (hn' : A' = none → p'.length = 0) (h : (s == s') = false) :
    Calls Try.prog 28 #[recV o s key ml ct vo A p.length c g tt, recV o s' key' ml' ct' vo' A' p'.length c' g' tt'] w fun e w' => e = .returned (.bool (false)) ∧ Below w.heap.size w w' := by
  have hud : undef = Value.tuple #[] := rfl
  have HB0 : Below w.heap.size w ((w.alloc (recO o s key ml ct vo A p.length c g tt)).alloc (recO o s' key' ml' ct' vo' A' p'.length c' g' tt')) := by (repeat' (first | (with_reducible exact Below.refl _ _) | (with_reducible assumption) | (with_reducible refine Below.trans ?_ (Below.mono (by with_reducible assumption) ?_)) | (with_reducible refine Below.alloc ?_ ?_ _) | (with_reducible refine Below.setCell ?_ ?_ _) | (with_reducible refine below_drewN ?_ _) | (with_reducible refine Below.drew ?_) | go_size))
  have HE := Lib.hid (bytes_eq A p c A' p' c' _ (hby.below HB0) (hby'.below HB0) hb hb')
  clear HB0 hby hby' hb hb' hn hn'
  go_enter Try.func28, Try.ntmps28
  clear HE
  go_wp2
  go_ret
  go_light
  exact ⟨rfl, by (repeat' (first | (with_reducible exact Below.refl _ _) | (with_reducible assumption) | (with_reducible refine Below.trans ?_ (Below.mono (by with_reducible assumption) ?_)) | (with_reducible refine Below.alloc ?_ ?_ _) | (with_reducible refine Below.setCell ?_ ?_ _) | (with_reducible refine below_drewN ?_ _) | (with_reducible refine Below.drew ?_) | go_size))⟩
set_option maxRecDepth 100000 in
set_option maxHeartbeats 4000000 in
theorem rec_same_L2 (o : Int) (s : Int) (key : ByteArray) (ml : Int) (ct : Int) (vo : Int) (p : List Int) (g : Bool) (tt : Int) (A : Option Addr) (c : Nat) (key' : ByteArray) (ml' : Int) (ct' : Int) (vo' : Int) (p' : List Int) (g' : Bool) (tt' : Int) (A' : Option Addr) (c' : Nat) (w : World) (hby : ByL w A p) (hb : isBy p) (hn : A = none → p.length = 0) (hby' : ByL w A' p') (hb' : isBy p') (hn' : A' = none → p'.length = 0) (h : ¬ key.toList = key'.toList) :
    Calls Try.prog 28 #[recV o s key ml ct vo A p.length c g tt, recV o s key' ml' ct' vo' A' p'.length c' g' tt'] w fun e w' => e = .returned (.bool (false)) ∧ Below w.heap.size w w' := by
  have hud : undef = Value.tuple #[] := rfl
  have HB0 : Below w.heap.size w ((w.alloc (recO o s key ml ct vo A p.length c g tt)).alloc (recO o s key' ml' ct' vo' A' p'.length c' g' tt')) := by (repeat' (first | (with_reducible exact Below.refl _ _) | (with_reducible assumption) | (with_reducible refine Below.trans ?_ (Below.mono (by with_reducible assumption) ?_)) | (with_reducible refine Below.alloc ?_ ?_ _) | (with_reducible refine Below.setCell ?_ ?_ _) | (with_reducible refine below_drewN ?_ _) | (with_reducible refine Below.drew ?_) | go_size))
  have HE := Lib.hid (bytes_eq A p c A' p' c' _ (hby.below HB0) (hby'.below HB0) hb hb')
  clear HB0 hby hby' hb hb' hn hn'
  go_enter Try.func28, Try.ntmps28
  clear HE
  go_wp2
  go_ret
  go_light
  exact ⟨rfl, by (repeat' (first | (with_reducible exact Below.refl _ _) | (with_reducible assumption) | (with_reducible refine Below.trans ?_ (Below.mono (by with_reducible assumption) ?_)) | (with_reducible refine Below.alloc ?_ ?_ _) | (with_reducible refine Below.setCell ?_ ?_ _) | (with_reducible refine below_drewN ?_ _) | (with_reducible refine Below.drew ?_) | go_size))⟩
end Go.Proofs.Ytpccneikblbhdaa
