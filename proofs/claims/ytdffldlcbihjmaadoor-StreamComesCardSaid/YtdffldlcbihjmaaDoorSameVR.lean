/- the reference's SameV (written by gen/same.py). -/
import Derived.Test.YtdffldlcbihjmaaDoorSameD
set_option linter.unusedSimpArgs false
set_option linter.unusedVariables false
namespace Go.Proofs.YtdffldlcbihjmaaDoor
open Go.RowKit

set_option maxRecDepth 100000 in
set_option maxHeartbeats 4000000 in
theorem ref_sameV_L0 (ml : Int) (ct : Int) (vo : Int) (p : List Int) (g : Bool) (tt : Int) (A : Option Addr) (c : Nat) (ml' : Int) (ct' : Int) (vo' : Int) (p' : List Int) (g' : Bool) (tt' : Int) (A' : Option Addr) (c' : Nat) (w : World) (hby : ByL w A p) (hb : isBy p) (hn : A = none → p.length = 0) (hby' : ByL w A' p') (hb' : isBy p') (hn' : A' = none → p'.length = 0) (h : (ml == ml') = false) :
    Calls Tryd.prog 104 #[verV ml ct vo A p.length c g tt, verV ml' ct' vo' A' p'.length c' g' tt'] w fun e w' => e = .returned (.bool (false)) ∧ Below w.heap.size w w' := by
  have hud : undef = Value.tuple #[] := rfl
  have HB0 : Below w.heap.size w ((w.alloc (verO ml ct vo A p.length c g tt)).alloc (verO ml' ct' vo' A' p'.length c' g' tt')) := by (repeat' (first | (with_reducible exact Below.refl _ _) | (with_reducible assumption) | (with_reducible refine Below.trans ?_ (Below.mono (by with_reducible assumption) ?_)) | (with_reducible refine Below.alloc ?_ ?_ _) | (with_reducible refine Below.setCell ?_ ?_ _) | (with_reducible refine below_drewN ?_ _) | (with_reducible refine Below.drew ?_) | go_size))
  clear HB0 hby hby' hb hb' hn hn'
  go_enter Tryd.func104, Tryd.ntmps104
  go_wp2
  go_ret
  go_light
  exact ⟨rfl, by (repeat' (first | (with_reducible exact Below.refl _ _) | (with_reducible assumption) | (with_reducible refine Below.trans ?_ (Below.mono (by with_reducible assumption) ?_)) | (with_reducible refine Below.alloc ?_ ?_ _) | (with_reducible refine Below.setCell ?_ ?_ _) | (with_reducible refine below_drewN ?_ _) | (with_reducible refine Below.drew ?_) | go_size))⟩
set_option maxRecDepth 100000 in
set_option maxHeartbeats 4000000 in
theorem ref_sameV_L1 (ml : Int) (ct : Int) (vo : Int) (p : List Int) (g : Bool) (tt : Int) (A : Option Addr) (c : Nat) (ct' : Int) (vo' : Int) (p' : List Int) (g' : Bool) (tt' : Int) (A' : Option Addr) (c' : Nat) (w : World) (hby : ByL w A p) (hb : isBy p) (hn : A = none → p.length = 0) (hby' : ByL w A' p') (hb' : isBy p') (hn' : A' = none → p'.length = 0) (h : (ct == ct') = false) :
    Calls Tryd.prog 104 #[verV ml ct vo A p.length c g tt, verV ml ct' vo' A' p'.length c' g' tt'] w fun e w' => e = .returned (.bool (false)) ∧ Below w.heap.size w w' := by
  have hud : undef = Value.tuple #[] := rfl
  have HB0 : Below w.heap.size w ((w.alloc (verO ml ct vo A p.length c g tt)).alloc (verO ml ct' vo' A' p'.length c' g' tt')) := by (repeat' (first | (with_reducible exact Below.refl _ _) | (with_reducible assumption) | (with_reducible refine Below.trans ?_ (Below.mono (by with_reducible assumption) ?_)) | (with_reducible refine Below.alloc ?_ ?_ _) | (with_reducible refine Below.setCell ?_ ?_ _) | (with_reducible refine below_drewN ?_ _) | (with_reducible refine Below.drew ?_) | go_size))
  clear HB0 hby hby' hb hb' hn hn'
  go_enter Tryd.func104, Tryd.ntmps104
  go_wp2
  go_ret
  go_light
  exact ⟨rfl, by (repeat' (first | (with_reducible exact Below.refl _ _) | (with_reducible assumption) | (with_reducible refine Below.trans ?_ (Below.mono (by with_reducible assumption) ?_)) | (with_reducible refine Below.alloc ?_ ?_ _) | (with_reducible refine Below.setCell ?_ ?_ _) | (with_reducible refine below_drewN ?_ _) | (with_reducible refine Below.drew ?_) | go_size))⟩
set_option maxRecDepth 100000 in
set_option maxHeartbeats 4000000 in
theorem ref_sameV_L2 (ml : Int) (ct : Int) (vo : Int) (p : List Int) (g : Bool) (tt : Int) (A : Option Addr) (c : Nat) (vo' : Int) (p' : List Int) (g' : Bool) (tt' : Int) (A' : Option Addr) (c' : Nat) (w : World) (hby : ByL w A p) (hb : isBy p) (hn : A = none → p.length = 0) (hby' : ByL w A' p') (hb' : isBy p') (hn' : A' = none → p'.length = 0) (h : (vo == vo') = false) :
    Calls Tryd.prog 104 #[verV ml ct vo A p.length c g tt, verV ml ct vo' A' p'.length c' g' tt'] w fun e w' => e = .returned (.bool (false)) ∧ Below w.heap.size w w' := by
  have hud : undef = Value.tuple #[] := rfl
  have HB0 : Below w.heap.size w ((w.alloc (verO ml ct vo A p.length c g tt)).alloc (verO ml ct vo' A' p'.length c' g' tt')) := by (repeat' (first | (with_reducible exact Below.refl _ _) | (with_reducible assumption) | (with_reducible refine Below.trans ?_ (Below.mono (by with_reducible assumption) ?_)) | (with_reducible refine Below.alloc ?_ ?_ _) | (with_reducible refine Below.setCell ?_ ?_ _) | (with_reducible refine below_drewN ?_ _) | (with_reducible refine Below.drew ?_) | go_size))
  clear HB0 hby hby' hb hb' hn hn'
  go_enter Tryd.func104, Tryd.ntmps104
  go_wp2
  go_ret
  go_light
  exact ⟨rfl, by (repeat' (first | (with_reducible exact Below.refl _ _) | (with_reducible assumption) | (with_reducible refine Below.trans ?_ (Below.mono (by with_reducible assumption) ?_)) | (with_reducible refine Below.alloc ?_ ?_ _) | (with_reducible refine Below.setCell ?_ ?_ _) | (with_reducible refine below_drewN ?_ _) | (with_reducible refine Below.drew ?_) | go_size))⟩
set_option maxRecDepth 100000 in
set_option maxHeartbeats 4000000 in
theorem ref_sameV_L3 (ml : Int) (ct : Int) (vo : Int) (p : List Int) (g : Bool) (tt : Int) (A : Option Addr) (c : Nat) (p' : List Int) (g' : Bool) (tt' : Int) (A' : Option Addr) (c' : Nat) (w : World) (hby : ByL w A p) (hb : isBy p) (hn : A = none → p.length = 0) (hby' : ByL w A' p') (hb' : isBy p') (hn' : A' = none → p'.length = 0) (h : ¬ p = p') :
    Calls Tryd.prog 104 #[verV ml ct vo A p.length c g tt, verV ml ct vo A' p'.length c' g' tt'] w fun e w' => e = .returned (.bool (false)) ∧ Below w.heap.size w w' := by
  have hud : undef = Value.tuple #[] := rfl
  have HB0 : Below w.heap.size w ((w.alloc (verO ml ct vo A p.length c g tt)).alloc (verO ml ct vo A' p'.length c' g' tt')) := by (repeat' (first | (with_reducible exact Below.refl _ _) | (with_reducible assumption) | (with_reducible refine Below.trans ?_ (Below.mono (by with_reducible assumption) ?_)) | (with_reducible refine Below.alloc ?_ ?_ _) | (with_reducible refine Below.setCell ?_ ?_ _) | (with_reducible refine below_drewN ?_ _) | (with_reducible refine Below.drew ?_) | go_size))
  have cv := run_str _ A p c (hby.below HB0) hb hn
  have cv' := run_str _ A' p' c' (hby'.below HB0) hb' hn'
  have hs : ¬ (strB p).toList = (strB p').toList := by rw [strB_lists hb hb']; exact h
  clear h
  clear HB0 hby hby' hb hb' hn hn'
  generalize strB p' = s' at *
  generalize strB p = s at *
  go_enter Tryd.func104, Tryd.ntmps104
  go_wp2
  go_ret
  go_light
  exact ⟨rfl, by (repeat' (first | (with_reducible exact Below.refl _ _) | (with_reducible assumption) | (with_reducible refine Below.trans ?_ (Below.mono (by with_reducible assumption) ?_)) | (with_reducible refine Below.alloc ?_ ?_ _) | (with_reducible refine Below.setCell ?_ ?_ _) | (with_reducible refine below_drewN ?_ _) | (with_reducible refine Below.drew ?_) | go_size))⟩
set_option maxRecDepth 100000 in
set_option maxHeartbeats 4000000 in
theorem ref_sameV_L4 (ml : Int) (ct : Int) (vo : Int) (p : List Int) (g : Bool) (tt : Int) (A : Option Addr) (c : Nat) (g' : Bool) (tt' : Int) (A' : Option Addr) (c' : Nat) (w : World) (hby : ByL w A p) (hb : isBy p) (hn : A = none → p.length = 0) (hby' : ByL w A' p) (hb' : isBy p) (hn' : A' = none → p.length = 0) (h : ¬ g = g') :
    Calls Tryd.prog 104 #[verV ml ct vo A p.length c g tt, verV ml ct vo A' p.length c' g' tt'] w fun e w' => e = .returned (.bool (false)) ∧ Below w.heap.size w w' := by
  have hud : undef = Value.tuple #[] := rfl
  have HB0 : Below w.heap.size w ((w.alloc (verO ml ct vo A p.length c g tt)).alloc (verO ml ct vo A' p.length c' g' tt')) := by (repeat' (first | (with_reducible exact Below.refl _ _) | (with_reducible assumption) | (with_reducible refine Below.trans ?_ (Below.mono (by with_reducible assumption) ?_)) | (with_reducible refine Below.alloc ?_ ?_ _) | (with_reducible refine Below.setCell ?_ ?_ _) | (with_reducible refine below_drewN ?_ _) | (with_reducible refine Below.drew ?_) | go_size))
  have cv := run_str _ A p c (hby.below HB0) hb hn
  have cv' := run_str _ A' p c' (hby'.below HB0) hb' hn'
  clear HB0 hby hby' hb hb' hn hn'
  generalize strB p = s at *
  go_enter Tryd.func104, Tryd.ntmps104
  go_wp2
  go_ret
  go_light
  exact ⟨rfl, by (repeat' (first | (with_reducible exact Below.refl _ _) | (with_reducible assumption) | (with_reducible refine Below.trans ?_ (Below.mono (by with_reducible assumption) ?_)) | (with_reducible refine Below.alloc ?_ ?_ _) | (with_reducible refine Below.setCell ?_ ?_ _) | (with_reducible refine below_drewN ?_ _) | (with_reducible refine Below.drew ?_) | go_size))⟩
set_option maxRecDepth 100000 in
set_option maxHeartbeats 4000000 in
theorem ref_sameV_L5 (ml : Int) (ct : Int) (vo : Int) (p : List Int) (g : Bool) (tt : Int) (A : Option Addr) (c : Nat) (tt' : Int) (A' : Option Addr) (c' : Nat) (w : World) (hby : ByL w A p) (hb : isBy p) (hn : A = none → p.length = 0) (hby' : ByL w A' p) (hb' : isBy p) (hn' : A' = none → p.length = 0) (h : (tt == tt') = false) :
    Calls Tryd.prog 104 #[verV ml ct vo A p.length c g tt, verV ml ct vo A' p.length c' g tt'] w fun e w' => e = .returned (.bool (false)) ∧ Below w.heap.size w w' := by
  have hud : undef = Value.tuple #[] := rfl
  have HB0 : Below w.heap.size w ((w.alloc (verO ml ct vo A p.length c g tt)).alloc (verO ml ct vo A' p.length c' g tt')) := by (repeat' (first | (with_reducible exact Below.refl _ _) | (with_reducible assumption) | (with_reducible refine Below.trans ?_ (Below.mono (by with_reducible assumption) ?_)) | (with_reducible refine Below.alloc ?_ ?_ _) | (with_reducible refine Below.setCell ?_ ?_ _) | (with_reducible refine below_drewN ?_ _) | (with_reducible refine Below.drew ?_) | go_size))
  have cv := run_str _ A p c (hby.below HB0) hb hn
  have cv' := run_str _ A' p c' (hby'.below HB0) hb' hn'
  clear HB0 hby hby' hb hb' hn hn'
  generalize strB p = s at *
  go_enter Tryd.func104, Tryd.ntmps104
  go_wp2
  go_ret
  go_light
  exact ⟨rfl, by (repeat' (first | (with_reducible exact Below.refl _ _) | (with_reducible assumption) | (with_reducible refine Below.trans ?_ (Below.mono (by with_reducible assumption) ?_)) | (with_reducible refine Below.alloc ?_ ?_ _) | (with_reducible refine Below.setCell ?_ ?_ _) | (with_reducible refine below_drewN ?_ _) | (with_reducible refine Below.drew ?_) | go_size))⟩
set_option maxRecDepth 100000 in
set_option maxHeartbeats 4000000 in
theorem ref_sameV_L6 (ml : Int) (ct : Int) (vo : Int) (p : List Int) (g : Bool) (tt : Int) (A : Option Addr) (c : Nat)  (A' : Option Addr) (c' : Nat) (w : World) (hby : ByL w A p) (hb : isBy p) (hn : A = none → p.length = 0) (hby' : ByL w A' p) (hb' : isBy p) (hn' : A' = none → p.length = 0) :
    Calls Tryd.prog 104 #[verV ml ct vo A p.length c g tt, verV ml ct vo A' p.length c' g tt] w fun e w' => e = .returned (.bool (true)) ∧ Below w.heap.size w w' := by
  have hud : undef = Value.tuple #[] := rfl
  have HB0 : Below w.heap.size w ((w.alloc (verO ml ct vo A p.length c g tt)).alloc (verO ml ct vo A' p.length c' g tt)) := by (repeat' (first | (with_reducible exact Below.refl _ _) | (with_reducible assumption) | (with_reducible refine Below.trans ?_ (Below.mono (by with_reducible assumption) ?_)) | (with_reducible refine Below.alloc ?_ ?_ _) | (with_reducible refine Below.setCell ?_ ?_ _) | (with_reducible refine below_drewN ?_ _) | (with_reducible refine Below.drew ?_) | go_size))
  have cv := run_str _ A p c (hby.below HB0) hb hn
  have cv' := run_str _ A' p c' (hby'.below HB0) hb' hn'
  clear HB0 hby hby' hb hb' hn hn'
  generalize strB p = s at *
  go_enter Tryd.func104, Tryd.ntmps104
  go_wp2
  go_ret
  go_light
  exact ⟨rfl, by (repeat' (first | (with_reducible exact Below.refl _ _) | (with_reducible assumption) | (with_reducible refine Below.trans ?_ (Below.mono (by with_reducible assumption) ?_)) | (with_reducible refine Below.alloc ?_ ?_ _) | (with_reducible refine Below.setCell ?_ ?_ _) | (with_reducible refine below_drewN ?_ _) | (with_reducible refine Below.drew ?_) | go_size))⟩
theorem ref_sameV (ml : Int) (ct : Int) (vo : Int) (p : List Int) (g : Bool) (tt : Int) (A : Option Addr) (c : Nat) (ml' : Int) (ct' : Int) (vo' : Int) (p' : List Int) (g' : Bool) (tt' : Int) (A' : Option Addr) (c' : Nat) (w : World) (hby : ByL w A p) (hb : isBy p) (hn : A = none → p.length = 0) (hby' : ByL w A' p') (hb' : isBy p') (hn' : A' = none → p'.length = 0) :
    Calls Tryd.prog 104 #[verV ml ct vo A p.length c g tt, verV ml' ct' vo' A' p'.length c' g' tt'] w fun e w' => e = .returned (.bool (sameVB ml ct vo p g tt ml' ct' vo' p' g' tt')) ∧ Below w.heap.size w w' := by
  by_cases q0 : ml = ml'
  rotate_left
  · exact (ref_sameV_L0 ml ct vo p g tt A c ml' ct' vo' p' g' tt' A' c' w hby hb hn hby' hb' hn' (by simpa using q0)).mono fun e w' ⟨h1, h2⟩ => ⟨by rw [h1, show sameVB ml ct vo p g tt ml' ct' vo' p' g' tt' = false from by simp [sameVB, sameVB, q0]], h2⟩
  subst q0
  by_cases q1 : ct = ct'
  rotate_left
  · exact (ref_sameV_L1 ml ct vo p g tt A c ct' vo' p' g' tt' A' c' w hby hb hn hby' hb' hn' (by simpa using q1)).mono fun e w' ⟨h1, h2⟩ => ⟨by rw [h1, show sameVB ml ct vo p g tt ml ct' vo' p' g' tt' = false from by simp [sameVB, sameVB, q1]], h2⟩
  subst q1
  by_cases q2 : vo = vo'
  rotate_left
  · exact (ref_sameV_L2 ml ct vo p g tt A c vo' p' g' tt' A' c' w hby hb hn hby' hb' hn' (by simpa using q2)).mono fun e w' ⟨h1, h2⟩ => ⟨by rw [h1, show sameVB ml ct vo p g tt ml ct vo' p' g' tt' = false from by simp [sameVB, sameVB, q2]], h2⟩
  subst q2
  by_cases q3 : p = p'
  rotate_left
  · exact (ref_sameV_L3 ml ct vo p g tt A c p' g' tt' A' c' w hby hb hn hby' hb' hn' q3).mono fun e w' ⟨h1, h2⟩ => ⟨by rw [h1, show sameVB ml ct vo p g tt ml ct vo p' g' tt' = false from by simp [sameVB, sameVB, q3]], h2⟩
  subst q3
  by_cases q4 : g = g'
  rotate_left
  · exact (ref_sameV_L4 ml ct vo p g tt A c g' tt' A' c' w hby hb hn hby' hb' hn' q4).mono fun e w' ⟨h1, h2⟩ => ⟨by rw [h1, show sameVB ml ct vo p g tt ml ct vo p g' tt' = false from by simp [sameVB, sameVB, q4]], h2⟩
  subst q4
  by_cases q5 : tt = tt'
  rotate_left
  · exact (ref_sameV_L5 ml ct vo p g tt A c tt' A' c' w hby hb hn hby' hb' hn' (by simpa using q5)).mono fun e w' ⟨h1, h2⟩ => ⟨by rw [h1, show sameVB ml ct vo p g tt ml ct vo p g tt' = false from by simp [sameVB, sameVB, q5]], h2⟩
  subst q5
  exact (ref_sameV_L6 ml ct vo p g tt A c  A' c' w hby hb hn hby' hb' hn').mono fun e w' ⟨h1, h2⟩ => ⟨by rw [h1]; simp [sameVB, sameVB], h2⟩
end Go.Proofs.YtdffldlcbihjmaaDoor
