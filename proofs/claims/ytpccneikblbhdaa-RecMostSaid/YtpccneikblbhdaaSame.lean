/- whether two records are one (written by gen/same.py). -/
import Derived.Test.YtpccneikblbhdaaSameA
import Derived.Test.YtpccneikblbhdaaSameB
import Derived.Test.YtpccneikblbhdaaSameC
import Derived.Test.YtpccneikblbhdaaSameV
set_option linter.unusedSimpArgs false
set_option linter.unusedVariables false
namespace Go.Proofs.Ytpccneikblbhdaa
open Go.RowKit

set_option maxRecDepth 100000 in
set_option maxHeartbeats 4000000 in
theorem ref_same_L0 (o : Int) (s : Int) (key : ByteArray) (ml : Int) (ct : Int) (vo : Int) (p : List Int) (g : Bool) (tt : Int) (A : Option Addr) (c : Nat) (o' : Int) (s' : Int) (key' : ByteArray) (ml' : Int) (ct' : Int) (vo' : Int) (p' : List Int) (g' : Bool) (tt' : Int) (A' : Option Addr) (c' : Nat) (w : World) (hby : ByL w A p) (hb : isBy p) (hn : A = none → p.length = 0) (hby' : ByL w A' p') (hb' : isBy p') (hn' : A' = none → p'.length = 0) (h : (o == o') = false) :
    Calls Try.prog 20 #[recV o s key ml ct vo A p.length c g tt, recV o' s' key' ml' ct' vo' A' p'.length c' g' tt'] w fun e w' => e = .returned (.bool (false)) ∧ Below w.heap.size w w' := by
  have hud : undef = Value.tuple #[] := rfl
  have HB0 : Below w.heap.size w ((w.alloc (recO o s key ml ct vo A p.length c g tt)).alloc (recO o' s' key' ml' ct' vo' A' p'.length c' g' tt')) := by (repeat' (first | (with_reducible exact Below.refl _ _) | (with_reducible assumption) | (with_reducible refine Below.trans ?_ (Below.mono (by with_reducible assumption) ?_)) | (with_reducible refine Below.alloc ?_ ?_ _) | (with_reducible refine Below.setCell ?_ ?_ _) | (with_reducible refine below_drewN ?_ _) | (with_reducible refine Below.drew ?_) | go_size))
  clear HB0 hby hby' hb hb' hn hn'
  go_enter Try.func20, Try.ntmps20
  go_wp2
  go_ret
  go_light
  exact ⟨rfl, by (repeat' (first | (with_reducible exact Below.refl _ _) | (with_reducible assumption) | (with_reducible refine Below.trans ?_ (Below.mono (by with_reducible assumption) ?_)) | (with_reducible refine Below.alloc ?_ ?_ _) | (with_reducible refine Below.setCell ?_ ?_ _) | (with_reducible refine below_drewN ?_ _) | (with_reducible refine Below.drew ?_) | go_size))⟩
set_option maxRecDepth 100000 in
set_option maxHeartbeats 4000000 in
theorem ref_same_L1 (o : Int) (s : Int) (key : ByteArray) (ml : Int) (ct : Int) (vo : Int) (p : List Int) (g : Bool) (tt : Int) (A : Option Addr) (c : Nat) (s' : Int) (key' : ByteArray) (ml' : Int) (ct' : Int) (vo' : Int) (p' : List Int) (g' : Bool) (tt' : Int) (A' : Option Addr) (c' : Nat) (w : World) (hby : ByL w A p) (hb : isBy p) (hn : A = none → p.length = 0) (hby' : ByL w A' p') (hb' : isBy p') (hn' : A' = none → p'.length = 0) (h : (s == s') = false) :
    Calls Try.prog 20 #[recV o s key ml ct vo A p.length c g tt, recV o s' key' ml' ct' vo' A' p'.length c' g' tt'] w fun e w' => e = .returned (.bool (false)) ∧ Below w.heap.size w w' := by
  have hud : undef = Value.tuple #[] := rfl
  have HB0 : Below w.heap.size w ((w.alloc (recO o s key ml ct vo A p.length c g tt)).alloc (recO o s' key' ml' ct' vo' A' p'.length c' g' tt')) := by (repeat' (first | (with_reducible exact Below.refl _ _) | (with_reducible assumption) | (with_reducible refine Below.trans ?_ (Below.mono (by with_reducible assumption) ?_)) | (with_reducible refine Below.alloc ?_ ?_ _) | (with_reducible refine Below.setCell ?_ ?_ _) | (with_reducible refine below_drewN ?_ _) | (with_reducible refine Below.drew ?_) | go_size))
  clear HB0 hby hby' hb hb' hn hn'
  go_enter Try.func20, Try.ntmps20
  go_wp2
  go_ret
  go_light
  exact ⟨rfl, by (repeat' (first | (with_reducible exact Below.refl _ _) | (with_reducible assumption) | (with_reducible refine Below.trans ?_ (Below.mono (by with_reducible assumption) ?_)) | (with_reducible refine Below.alloc ?_ ?_ _) | (with_reducible refine Below.setCell ?_ ?_ _) | (with_reducible refine below_drewN ?_ _) | (with_reducible refine Below.drew ?_) | go_size))⟩
set_option maxRecDepth 100000 in
set_option maxHeartbeats 4000000 in
theorem ref_same_L2 (o : Int) (s : Int) (key : ByteArray) (ml : Int) (ct : Int) (vo : Int) (p : List Int) (g : Bool) (tt : Int) (A : Option Addr) (c : Nat) (key' : ByteArray) (ml' : Int) (ct' : Int) (vo' : Int) (p' : List Int) (g' : Bool) (tt' : Int) (A' : Option Addr) (c' : Nat) (w : World) (hby : ByL w A p) (hb : isBy p) (hn : A = none → p.length = 0) (hby' : ByL w A' p') (hb' : isBy p') (hn' : A' = none → p'.length = 0) (h : ¬ key.toList = key'.toList) :
    Calls Try.prog 20 #[recV o s key ml ct vo A p.length c g tt, recV o s key' ml' ct' vo' A' p'.length c' g' tt'] w fun e w' => e = .returned (.bool (false)) ∧ Below w.heap.size w w' := by
  have hud : undef = Value.tuple #[] := rfl
  have HB0 : Below w.heap.size w ((w.alloc (recO o s key ml ct vo A p.length c g tt)).alloc (recO o s key' ml' ct' vo' A' p'.length c' g' tt')) := by (repeat' (first | (with_reducible exact Below.refl _ _) | (with_reducible assumption) | (with_reducible refine Below.trans ?_ (Below.mono (by with_reducible assumption) ?_)) | (with_reducible refine Below.alloc ?_ ?_ _) | (with_reducible refine Below.setCell ?_ ?_ _) | (with_reducible refine below_drewN ?_ _) | (with_reducible refine Below.drew ?_) | go_size))
  clear HB0 hby hby' hb hb' hn hn'
  go_enter Try.func20, Try.ntmps20
  go_wp2
  go_ret
  go_light
  exact ⟨rfl, by (repeat' (first | (with_reducible exact Below.refl _ _) | (with_reducible assumption) | (with_reducible refine Below.trans ?_ (Below.mono (by with_reducible assumption) ?_)) | (with_reducible refine Below.alloc ?_ ?_ _) | (with_reducible refine Below.setCell ?_ ?_ _) | (with_reducible refine below_drewN ?_ _) | (with_reducible refine Below.drew ?_) | go_size))⟩
set_option maxRecDepth 100000 in
set_option maxHeartbeats 4000000 in
theorem ref_same_L3 (o : Int) (s : Int) (key : ByteArray) (ml : Int) (ct : Int) (vo : Int) (p : List Int) (g : Bool) (tt : Int) (A : Option Addr) (c : Nat) (ml' : Int) (ct' : Int) (vo' : Int) (p' : List Int) (g' : Bool) (tt' : Int) (A' : Option Addr) (c' : Nat) (w : World) (hby : ByL w A p) (hb : isBy p) (hn : A = none → p.length = 0) (hby' : ByL w A' p') (hb' : isBy p') (hn' : A' = none → p'.length = 0) :
    Calls Try.prog 20 #[recV o s key ml ct vo A p.length c g tt, recV o s key ml' ct' vo' A' p'.length c' g' tt'] w fun e w' => e = .returned (.bool (sameVB ml ct vo p g tt ml' ct' vo' p' g' tt')) ∧ Below w.heap.size w w' := by
  have hud : undef = Value.tuple #[] := rfl
  have HB0 : Below w.heap.size w ((w.alloc (recO o s key ml ct vo A p.length c g tt)).alloc (recO o s key ml' ct' vo' A' p'.length c' g' tt')) := by (repeat' (first | (with_reducible exact Below.refl _ _) | (with_reducible assumption) | (with_reducible refine Below.trans ?_ (Below.mono (by with_reducible assumption) ?_)) | (with_reducible refine Below.alloc ?_ ?_ _) | (with_reducible refine Below.setCell ?_ ?_ _) | (with_reducible refine below_drewN ?_ _) | (with_reducible refine Below.drew ?_) | go_size))
  have HE := Lib.hid (ref_sameV ml ct vo p g tt A c ml' ct' vo' p' g' tt' A' c' _ (hby.below HB0) hb hn (hby'.below HB0) hb' hn')
  clear HB0 hby hby' hb hb' hn hn'
  go_enter Try.func20, Try.ntmps20
  go_wp2_with (go_at_call 40; refine (HE.out).mono ?_; rintro e w1 ⟨rfl, hb1⟩; obtain ⟨hc1, hf1⟩ := bcell hb1; have hz1 := hb1.size; (try simp only [World.size_alloc, World.size_setCell, World.heap_drewN] at hb1 hc1 hf1 hz1); (try have ha01 : w.heap.size < w1.heap.size := by omega); (try have ha11 : w.heap.size + 1 < w1.heap.size := by omega); (try have ha21 : w.heap.size + 2 < w1.heap.size := by omega); (try have hal1 : w.heap.size ≤ w1.heap.size := by omega); (try have ham1 : w.heap.size < w1.heap.size + 2 := by omega))
  go_ret
  go_light
  exact ⟨rfl, by (repeat' (first | (with_reducible exact Below.refl _ _) | (with_reducible assumption) | (with_reducible refine Below.trans ?_ (Below.mono (by with_reducible assumption) ?_)) | (with_reducible refine Below.alloc ?_ ?_ _) | (with_reducible refine Below.setCell ?_ ?_ _) | (with_reducible refine below_drewN ?_ _) | (with_reducible refine Below.drew ?_) | go_size))⟩
theorem ref_same (o : Int) (s : Int) (key : ByteArray) (ml : Int) (ct : Int) (vo : Int) (p : List Int) (g : Bool) (tt : Int) (A : Option Addr) (c : Nat) (o' : Int) (s' : Int) (key' : ByteArray) (ml' : Int) (ct' : Int) (vo' : Int) (p' : List Int) (g' : Bool) (tt' : Int) (A' : Option Addr) (c' : Nat) (w : World) (hby : ByL w A p) (hb : isBy p) (hn : A = none → p.length = 0) (hby' : ByL w A' p') (hb' : isBy p') (hn' : A' = none → p'.length = 0) :
    Calls Try.prog 20 #[recV o s key ml ct vo A p.length c g tt, recV o' s' key' ml' ct' vo' A' p'.length c' g' tt'] w fun e w' => e = .returned (.bool (sameRB o s key ml ct vo p g tt o' s' key' ml' ct' vo' p' g' tt')) ∧ Below w.heap.size w w' := by
  by_cases q0 : o = o'
  rotate_left
  · exact (ref_same_L0 o s key ml ct vo p g tt A c o' s' key' ml' ct' vo' p' g' tt' A' c' w hby hb hn hby' hb' hn' (by simpa using q0)).mono fun e w' ⟨h1, h2⟩ => ⟨by rw [h1, show sameRB o s key ml ct vo p g tt o' s' key' ml' ct' vo' p' g' tt' = false from by simp [sameRB, q0]], h2⟩
  subst q0
  by_cases q1 : s = s'
  rotate_left
  · exact (ref_same_L1 o s key ml ct vo p g tt A c s' key' ml' ct' vo' p' g' tt' A' c' w hby hb hn hby' hb' hn' (by simpa using q1)).mono fun e w' ⟨h1, h2⟩ => ⟨by rw [h1, show sameRB o s key ml ct vo p g tt o s' key' ml' ct' vo' p' g' tt' = false from by simp [sameRB, q1]], h2⟩
  subst q1
  by_cases q2 : key = key'
  rotate_left
  · exact (ref_same_L2 o s key ml ct vo p g tt A c key' ml' ct' vo' p' g' tt' A' c' w hby hb hn hby' hb' hn' (by rw [str_lists]; exact q2)).mono fun e w' ⟨h1, h2⟩ => ⟨by rw [h1, show sameRB o s key ml ct vo p g tt o s key' ml' ct' vo' p' g' tt' = false from by simp [sameRB, q2]], h2⟩
  subst q2
  exact (ref_same_L3 o s key ml ct vo p g tt A c ml' ct' vo' p' g' tt' A' c' w hby hb hn hby' hb' hn').mono fun e w' ⟨h1, h2⟩ => ⟨by rw [h1]; simp [sameRB], h2⟩
theorem rec_same (o : Int) (s : Int) (key : ByteArray) (ml : Int) (ct : Int) (vo : Int) (p : List Int) (g : Bool) (tt : Int) (A : Option Addr) (c : Nat) (o' : Int) (s' : Int) (key' : ByteArray) (ml' : Int) (ct' : Int) (vo' : Int) (p' : List Int) (g' : Bool) (tt' : Int) (A' : Option Addr) (c' : Nat) (w : World) (hby : ByL w A p) (hb : isBy p) (hn : A = none → p.length = 0) (hby' : ByL w A' p') (hb' : isBy p') (hn' : A' = none → p'.length = 0) :
    Calls Try.prog 28 #[recV o s key ml ct vo A p.length c g tt, recV o' s' key' ml' ct' vo' A' p'.length c' g' tt'] w fun e w' => e = .returned (.bool (sameRB o s key ml ct vo p g tt o' s' key' ml' ct' vo' p' g' tt')) ∧ Below w.heap.size w w' := by
  by_cases q0 : o = o'
  rotate_left
  · exact (rec_same_L0 o s key ml ct vo p g tt A c o' s' key' ml' ct' vo' p' g' tt' A' c' w hby hb hn hby' hb' hn' (by simpa using q0)).mono fun e w' ⟨h1, h2⟩ => ⟨by rw [h1, show sameRB o s key ml ct vo p g tt o' s' key' ml' ct' vo' p' g' tt' = false from by simp [sameRB, sameVB, q0]], h2⟩
  subst q0
  by_cases q1 : s = s'
  rotate_left
  · exact (rec_same_L1 o s key ml ct vo p g tt A c s' key' ml' ct' vo' p' g' tt' A' c' w hby hb hn hby' hb' hn' (by simpa using q1)).mono fun e w' ⟨h1, h2⟩ => ⟨by rw [h1, show sameRB o s key ml ct vo p g tt o s' key' ml' ct' vo' p' g' tt' = false from by simp [sameRB, sameVB, q1]], h2⟩
  subst q1
  by_cases q2 : key = key'
  rotate_left
  · exact (rec_same_L2 o s key ml ct vo p g tt A c key' ml' ct' vo' p' g' tt' A' c' w hby hb hn hby' hb' hn' (by rw [str_lists]; exact q2)).mono fun e w' ⟨h1, h2⟩ => ⟨by rw [h1, show sameRB o s key ml ct vo p g tt o s key' ml' ct' vo' p' g' tt' = false from by simp [sameRB, sameVB, q2]], h2⟩
  subst q2
  by_cases q3 : ml = ml'
  rotate_left
  · exact (rec_same_L3 o s key ml ct vo p g tt A c ml' ct' vo' p' g' tt' A' c' w hby hb hn hby' hb' hn' (by simpa using q3)).mono fun e w' ⟨h1, h2⟩ => ⟨by rw [h1, show sameRB o s key ml ct vo p g tt o s key ml' ct' vo' p' g' tt' = false from by simp [sameRB, sameVB, q3]], h2⟩
  subst q3
  by_cases q4 : ct = ct'
  rotate_left
  · exact (rec_same_L4 o s key ml ct vo p g tt A c ct' vo' p' g' tt' A' c' w hby hb hn hby' hb' hn' (by simpa using q4)).mono fun e w' ⟨h1, h2⟩ => ⟨by rw [h1, show sameRB o s key ml ct vo p g tt o s key ml ct' vo' p' g' tt' = false from by simp [sameRB, sameVB, q4]], h2⟩
  subst q4
  by_cases q5 : vo = vo'
  rotate_left
  · exact (rec_same_L5 o s key ml ct vo p g tt A c vo' p' g' tt' A' c' w hby hb hn hby' hb' hn' (by simpa using q5)).mono fun e w' ⟨h1, h2⟩ => ⟨by rw [h1, show sameRB o s key ml ct vo p g tt o s key ml ct vo' p' g' tt' = false from by simp [sameRB, sameVB, q5]], h2⟩
  subst q5
  by_cases q6 : g = g'
  rotate_left
  · exact (rec_same_L6 o s key ml ct vo p g tt A c p' g' tt' A' c' w hby hb hn hby' hb' hn' q6).mono fun e w' ⟨h1, h2⟩ => ⟨by rw [h1, show sameRB o s key ml ct vo p g tt o s key ml ct vo p' g' tt' = false from by simp [sameRB, sameVB, q6]], h2⟩
  subst q6
  by_cases q7 : tt = tt'
  rotate_left
  · exact (rec_same_L7 o s key ml ct vo p g tt A c p' tt' A' c' w hby hb hn hby' hb' hn' (by simpa using q7)).mono fun e w' ⟨h1, h2⟩ => ⟨by rw [h1, show sameRB o s key ml ct vo p g tt o s key ml ct vo p' g tt' = false from by simp [sameRB, sameVB, q7]], h2⟩
  subst q7
  exact (rec_same_L8 o s key ml ct vo p g tt A c p' A' c' w hby hb hn hby' hb' hn').mono fun e w' ⟨h1, h2⟩ => ⟨by rw [h1]; simp [sameRB, sameVB], h2⟩
end Go.Proofs.Ytpccneikblbhdaa
