/- whether two records are one, by the reference alone (a part of XSame: for a seat that has no rec.Same). -/
import Derived.Test.YtdffldlcbihjmaaDoorSameVR
set_option linter.unusedSimpArgs false
set_option linter.unusedVariables false
namespace Go.Proofs.YtdffldlcbihjmaaDoor
open Go.RowKit

set_option maxRecDepth 100000 in
set_option maxHeartbeats 4000000 in
theorem ref_same_L0 (o : Int) (s : Int) (key : ByteArray) (ml : Int) (ct : Int) (vo : Int) (p : List Int) (g : Bool) (tt : Int) (A : Option Addr) (c : Nat) (o' : Int) (s' : Int) (key' : ByteArray) (ml' : Int) (ct' : Int) (vo' : Int) (p' : List Int) (g' : Bool) (tt' : Int) (A' : Option Addr) (c' : Nat) (w : World) (hby : ByL w A p) (hb : isBy p) (hn : A = none → p.length = 0) (hby' : ByL w A' p') (hb' : isBy p') (hn' : A' = none → p'.length = 0) (h : (o == o') = false) :
    Calls Tryd.prog 76 #[recV o s key ml ct vo A p.length c g tt, recV o' s' key' ml' ct' vo' A' p'.length c' g' tt'] w fun e w' => e = .returned (.bool (false)) ∧ Below w.heap.size w w' := by
  have hud : undef = Value.tuple #[] := rfl
  have HB0 : Below w.heap.size w ((w.alloc (recO o s key ml ct vo A p.length c g tt)).alloc (recO o' s' key' ml' ct' vo' A' p'.length c' g' tt')) := by (repeat' (first | (with_reducible exact Below.refl _ _) | (with_reducible assumption) | (with_reducible refine Below.trans ?_ (Below.mono (by with_reducible assumption) ?_)) | (with_reducible refine Below.alloc ?_ ?_ _) | (with_reducible refine Below.setCell ?_ ?_ _) | (with_reducible refine below_drewN ?_ _) | (with_reducible refine Below.drew ?_) | go_size))
  clear HB0 hby hby' hb hb' hn hn'
  go_enter Tryd.func76, Tryd.ntmps76
  go_wp2
  go_ret
  go_light
  exact ⟨rfl, by (repeat' (first | (with_reducible exact Below.refl _ _) | (with_reducible assumption) | (with_reducible refine Below.trans ?_ (Below.mono (by with_reducible assumption) ?_)) | (with_reducible refine Below.alloc ?_ ?_ _) | (with_reducible refine Below.setCell ?_ ?_ _) | (with_reducible refine below_drewN ?_ _) | (with_reducible refine Below.drew ?_) | go_size))⟩
set_option maxRecDepth 100000 in
set_option maxHeartbeats 4000000 in
theorem ref_same_L1 (o : Int) (s : Int) (key : ByteArray) (ml : Int) (ct : Int) (vo : Int) (p : List Int) (g : Bool) (tt : Int) (A : Option Addr) (c : Nat) (s' : Int) (key' : ByteArray) (ml' : Int) (ct' : Int) (vo' : Int) (p' : List Int) (g' : Bool) (tt' : Int) (A' : Option Addr) (c' : Nat) (w : World) (hby : ByL w A p) (hb : isBy p) (hn : A = none → p.length = 0) (hby' : ByL w A' p') (hb' : isBy p') (hn' : A' = none → p'.length = 0) (h : (s == s') = false) :
    Calls Tryd.prog 76 #[recV o s key ml ct vo A p.length c g tt, recV o s' key' ml' ct' vo' A' p'.length c' g' tt'] w fun e w' => e = .returned (.bool (false)) ∧ Below w.heap.size w w' := by
  have hud : undef = Value.tuple #[] := rfl
  have HB0 : Below w.heap.size w ((w.alloc (recO o s key ml ct vo A p.length c g tt)).alloc (recO o s' key' ml' ct' vo' A' p'.length c' g' tt')) := by (repeat' (first | (with_reducible exact Below.refl _ _) | (with_reducible assumption) | (with_reducible refine Below.trans ?_ (Below.mono (by with_reducible assumption) ?_)) | (with_reducible refine Below.alloc ?_ ?_ _) | (with_reducible refine Below.setCell ?_ ?_ _) | (with_reducible refine below_drewN ?_ _) | (with_reducible refine Below.drew ?_) | go_size))
  clear HB0 hby hby' hb hb' hn hn'
  go_enter Tryd.func76, Tryd.ntmps76
  go_wp2
  go_ret
  go_light
  exact ⟨rfl, by (repeat' (first | (with_reducible exact Below.refl _ _) | (with_reducible assumption) | (with_reducible refine Below.trans ?_ (Below.mono (by with_reducible assumption) ?_)) | (with_reducible refine Below.alloc ?_ ?_ _) | (with_reducible refine Below.setCell ?_ ?_ _) | (with_reducible refine below_drewN ?_ _) | (with_reducible refine Below.drew ?_) | go_size))⟩
set_option maxRecDepth 100000 in
set_option maxHeartbeats 4000000 in
theorem ref_same_L2 (o : Int) (s : Int) (key : ByteArray) (ml : Int) (ct : Int) (vo : Int) (p : List Int) (g : Bool) (tt : Int) (A : Option Addr) (c : Nat) (key' : ByteArray) (ml' : Int) (ct' : Int) (vo' : Int) (p' : List Int) (g' : Bool) (tt' : Int) (A' : Option Addr) (c' : Nat) (w : World) (hby : ByL w A p) (hb : isBy p) (hn : A = none → p.length = 0) (hby' : ByL w A' p') (hb' : isBy p') (hn' : A' = none → p'.length = 0) (h : ¬ key.toList = key'.toList) :
    Calls Tryd.prog 76 #[recV o s key ml ct vo A p.length c g tt, recV o s key' ml' ct' vo' A' p'.length c' g' tt'] w fun e w' => e = .returned (.bool (false)) ∧ Below w.heap.size w w' := by
  have hud : undef = Value.tuple #[] := rfl
  have HB0 : Below w.heap.size w ((w.alloc (recO o s key ml ct vo A p.length c g tt)).alloc (recO o s key' ml' ct' vo' A' p'.length c' g' tt')) := by (repeat' (first | (with_reducible exact Below.refl _ _) | (with_reducible assumption) | (with_reducible refine Below.trans ?_ (Below.mono (by with_reducible assumption) ?_)) | (with_reducible refine Below.alloc ?_ ?_ _) | (with_reducible refine Below.setCell ?_ ?_ _) | (with_reducible refine below_drewN ?_ _) | (with_reducible refine Below.drew ?_) | go_size))
  clear HB0 hby hby' hb hb' hn hn'
  go_enter Tryd.func76, Tryd.ntmps76
  go_wp2
  go_ret
  go_light
  exact ⟨rfl, by (repeat' (first | (with_reducible exact Below.refl _ _) | (with_reducible assumption) | (with_reducible refine Below.trans ?_ (Below.mono (by with_reducible assumption) ?_)) | (with_reducible refine Below.alloc ?_ ?_ _) | (with_reducible refine Below.setCell ?_ ?_ _) | (with_reducible refine below_drewN ?_ _) | (with_reducible refine Below.drew ?_) | go_size))⟩
set_option maxRecDepth 100000 in
set_option maxHeartbeats 4000000 in
theorem ref_same_L3 (o : Int) (s : Int) (key : ByteArray) (ml : Int) (ct : Int) (vo : Int) (p : List Int) (g : Bool) (tt : Int) (A : Option Addr) (c : Nat) (ml' : Int) (ct' : Int) (vo' : Int) (p' : List Int) (g' : Bool) (tt' : Int) (A' : Option Addr) (c' : Nat) (w : World) (hby : ByL w A p) (hb : isBy p) (hn : A = none → p.length = 0) (hby' : ByL w A' p') (hb' : isBy p') (hn' : A' = none → p'.length = 0) :
    Calls Tryd.prog 76 #[recV o s key ml ct vo A p.length c g tt, recV o s key ml' ct' vo' A' p'.length c' g' tt'] w fun e w' => e = .returned (.bool (sameVB ml ct vo p g tt ml' ct' vo' p' g' tt')) ∧ Below w.heap.size w w' := by
  have hud : undef = Value.tuple #[] := rfl
  have HB0 : Below w.heap.size w ((w.alloc (recO o s key ml ct vo A p.length c g tt)).alloc (recO o s key ml' ct' vo' A' p'.length c' g' tt')) := by (repeat' (first | (with_reducible exact Below.refl _ _) | (with_reducible assumption) | (with_reducible refine Below.trans ?_ (Below.mono (by with_reducible assumption) ?_)) | (with_reducible refine Below.alloc ?_ ?_ _) | (with_reducible refine Below.setCell ?_ ?_ _) | (with_reducible refine below_drewN ?_ _) | (with_reducible refine Below.drew ?_) | go_size))
  have HE := Lib.hid (ref_sameV ml ct vo p g tt A c ml' ct' vo' p' g' tt' A' c' _ (hby.below HB0) hb hn (hby'.below HB0) hb' hn')
  clear HB0 hby hby' hb hb' hn hn'
  go_enter Tryd.func76, Tryd.ntmps76
  go_wp2_with (go_at_call 104; refine (HE.out).mono ?_; rintro e w1 ⟨rfl, hb1⟩; obtain ⟨hc1, hf1⟩ := bcell hb1; have hz1 := hb1.size; (try simp only [World.size_alloc, World.size_setCell, World.heap_drewN] at hb1 hc1 hf1 hz1); (try have ha01 : w.heap.size < w1.heap.size := by omega); (try have ha11 : w.heap.size + 1 < w1.heap.size := by omega); (try have ha21 : w.heap.size + 2 < w1.heap.size := by omega); (try have hal1 : w.heap.size ≤ w1.heap.size := by omega); (try have ham1 : w.heap.size < w1.heap.size + 2 := by omega))
  go_ret
  go_light
  exact ⟨rfl, by (repeat' (first | (with_reducible exact Below.refl _ _) | (with_reducible assumption) | (with_reducible refine Below.trans ?_ (Below.mono (by with_reducible assumption) ?_)) | (with_reducible refine Below.alloc ?_ ?_ _) | (with_reducible refine Below.setCell ?_ ?_ _) | (with_reducible refine below_drewN ?_ _) | (with_reducible refine Below.drew ?_) | go_size))⟩
theorem ref_same (o : Int) (s : Int) (key : ByteArray) (ml : Int) (ct : Int) (vo : Int) (p : List Int) (g : Bool) (tt : Int) (A : Option Addr) (c : Nat) (o' : Int) (s' : Int) (key' : ByteArray) (ml' : Int) (ct' : Int) (vo' : Int) (p' : List Int) (g' : Bool) (tt' : Int) (A' : Option Addr) (c' : Nat) (w : World) (hby : ByL w A p) (hb : isBy p) (hn : A = none → p.length = 0) (hby' : ByL w A' p') (hb' : isBy p') (hn' : A' = none → p'.length = 0) :
    Calls Tryd.prog 76 #[recV o s key ml ct vo A p.length c g tt, recV o' s' key' ml' ct' vo' A' p'.length c' g' tt'] w fun e w' => e = .returned (.bool (sameRB o s key ml ct vo p g tt o' s' key' ml' ct' vo' p' g' tt')) ∧ Below w.heap.size w w' := by
  by_cases q0 : o = o'
  rotate_left
  · exact (ref_same_L0 o s key ml ct vo p g tt A c o' s' key' ml' ct' vo' p' g' tt' A' c' w hby hb hn hby' hb' hn' (by simpa using q0)).mono fun e w' ⟨h1, h2⟩ => ⟨by rw [h1, show sameRB o s key ml ct vo p g tt o' s' key' ml' ct' vo' p' g' tt' = false from by simp [sameRB, q0]], h2⟩
  subst q0
  by_cases q1 : s = s'
  rotate_left
  · exact (ref_same_L1 o s key ml ct vo p g tt A c s' key' ml' ct' vo' p' g' tt' A' c' w hby hb hn hby' hb' hn' (by simpa using q1)).mono fun e w' ⟨h1, h2⟩ => ⟨by rw [h1, show sameRB o s key ml ct vo p g tt o s' key' ml' ct' vo' p' g' tt' = false from by simp [sameRB, q1]], h2⟩
  subst q1
  by_cases q2 : key = key'
  rotate_left
  · exact (ref_same_L2 o s key ml ct vo p g tt A c key' ml' ct' vo' p' g' tt' A' c' w hby hb hn hby' hb' hn' (by rw [str_lists]; exact q2)).mono fun e w' ⟨h1, h2⟩ => ⟨by rw [h1, show sameRB o s key ml ct vo p g tt o s key' ml' ct' vo' p' g' tt' = false from by simp [sameRB, q2]], h2⟩
  subst q2
  exact (ref_same_L3 o s key ml ct vo p g tt A c ml' ct' vo' p' g' tt' A' c' w hby hb hn hby' hb' hn').mono fun e w' ⟨h1, h2⟩ => ⟨by rw [h1]; simp [sameRB], h2⟩
end Go.Proofs.YtdffldlcbihjmaaDoor
