/- Is it a record: leaves (written by gen/recis.py). -/
import Derived.Test.YtdffldlcbihjmaaDoorRec9
set_option linter.unusedSimpArgs false
set_option linter.unusedVariables false
namespace Go.Proofs.YtdffldlcbihjmaaDoor
open Go.RowKit

set_option maxHeartbeats 4000000 in
theorem rec_is_L3 (o s : Int) (key : ByteArray) (ml ct vo : Int) (A : Option Addr) (n c : Nat) (tt : Int) (w : World) (q0 : isStampB ml ct = true) (q1a : decide ((0 : Int) ≤ o) = true) (q2a : decide (o < (5 : Int)) = true) (q3a : ((vo) == o) = true) (q4a : decide ((1 : Int) ≤ s) = true) (q5a : decide (s ≤ (1099511627776 : Int)) = true) (q6a : decide ((1 : Int) ≤ (key.size : Int)) = true) (q7a : decide ((key.size : Int) ≤ (64 : Int)) = true) (q8a : decide ((n : Int) ≤ (1024 : Int)) = true) (q9a : decide ((0 : Int) ≤ tt) = true) (q10a : decide (tt ≤ (281474976710655 : Int)) = true) (q12a : (((n : Int)) == (0 : Int)) = true) (q13a : ((tt) == (0 : Int)) = false) (HE : Hid (okN o s key.size ml ct vo n true tt = false)) : Calls Tryd.prog 72 #[recV o s key ml ct vo A n c true tt] w fun e w' => e = .returned (.bool (okN o s key.size ml ct vo n true tt)) ∧ Below w.heap.size w w' := by
  have hud : undef = Value.tuple #[] := rfl
  have HR : Hid (∀ gone, Rec9 (w.alloc (recO o s key ml ct vo A n c gone tt)) w.heap.size o s key ml ct vo A n c gone tt) := Lib.hid (fun gone => Rec9.new w o s key ml ct vo A n c gone tt)
  have HB : Hid (∀ gone, Below w.heap.size w (w.alloc (recO o s key ml ct vo A n c gone tt))) := Lib.hid (fun gone => (Below.refl _ _).alloc (Nat.le_refl _) _)
  go_enter Tryd.func72, Tryd.ntmps72
  go_wp2_with (go_at_call 103; refine (hlc_pack_yes ml ct _ q0).mono ?_; rintro e w1 ⟨rfl, hb1⟩; obtain ⟨c0, c1, c2, c3, c4, c5, c6, c7, c8, lt⟩ := (HR.out true).below hb1; have HB1 := Lib.hid ((HB.out true).trans (hb1.mono (by simp))); clear hb1)
  go_ret
  exact ⟨by rw [HE.out]; rfl, HB1.out⟩
set_option maxHeartbeats 4000000 in
theorem rec_is_L7 (o s : Int) (key : ByteArray) (ml ct vo : Int) (A : Option Addr) (n c : Nat) (gone : Bool) (tt : Int) (w : World) (q0 : isStampB ml ct = true) (q1a : decide ((0 : Int) ≤ o) = true) (q2a : decide (o < (5 : Int)) = true) (q3a : ((vo) == o) = true) (q4a : decide ((1 : Int) ≤ s) = true) (q5a : decide (s ≤ (1099511627776 : Int)) = true) (q6a : decide ((1 : Int) ≤ (key.size : Int)) = true) (q7a : decide ((key.size : Int) ≤ (64 : Int)) = true) (q8a : decide ((n : Int) ≤ (1024 : Int)) = false) (HE : Hid (okN o s key.size ml ct vo n gone tt = false)) : Calls Tryd.prog 72 #[recV o s key ml ct vo A n c gone tt] w fun e w' => e = .returned (.bool (okN o s key.size ml ct vo n gone tt)) ∧ Below w.heap.size w w' := by
  have hud : undef = Value.tuple #[] := rfl
  have HR : Hid (∀ gone, Rec9 (w.alloc (recO o s key ml ct vo A n c gone tt)) w.heap.size o s key ml ct vo A n c gone tt) := Lib.hid (fun gone => Rec9.new w o s key ml ct vo A n c gone tt)
  have HB : Hid (∀ gone, Below w.heap.size w (w.alloc (recO o s key ml ct vo A n c gone tt))) := Lib.hid (fun gone => (Below.refl _ _).alloc (Nat.le_refl _) _)
  go_enter Tryd.func72, Tryd.ntmps72
  go_wp2_with (go_at_call 103; refine (hlc_pack_yes ml ct _ q0).mono ?_; rintro e w1 ⟨rfl, hb1⟩; obtain ⟨c0, c1, c2, c3, c4, c5, c6, c7, c8, lt⟩ := (HR.out gone).below hb1; have HB1 := Lib.hid ((HB.out gone).trans (hb1.mono (by simp))); clear hb1)
  go_ret
  exact ⟨by rw [HE.out]; rfl, HB1.out⟩
set_option maxHeartbeats 4000000 in
theorem rec_is_L11 (o s : Int) (key : ByteArray) (ml ct vo : Int) (A : Option Addr) (n c : Nat) (gone : Bool) (tt : Int) (w : World) (q0 : isStampB ml ct = true) (q1a : decide ((0 : Int) ≤ o) = true) (q2a : decide (o < (5 : Int)) = true) (q3a : ((vo) == o) = true) (q4a : decide ((1 : Int) ≤ s) = false) (HE : Hid (okN o s key.size ml ct vo n gone tt = false)) : Calls Tryd.prog 72 #[recV o s key ml ct vo A n c gone tt] w fun e w' => e = .returned (.bool (okN o s key.size ml ct vo n gone tt)) ∧ Below w.heap.size w w' := by
  have hud : undef = Value.tuple #[] := rfl
  have HR : Hid (∀ gone, Rec9 (w.alloc (recO o s key ml ct vo A n c gone tt)) w.heap.size o s key ml ct vo A n c gone tt) := Lib.hid (fun gone => Rec9.new w o s key ml ct vo A n c gone tt)
  have HB : Hid (∀ gone, Below w.heap.size w (w.alloc (recO o s key ml ct vo A n c gone tt))) := Lib.hid (fun gone => (Below.refl _ _).alloc (Nat.le_refl _) _)
  go_enter Tryd.func72, Tryd.ntmps72
  go_wp2_with (go_at_call 103; refine (hlc_pack_yes ml ct _ q0).mono ?_; rintro e w1 ⟨rfl, hb1⟩; obtain ⟨c0, c1, c2, c3, c4, c5, c6, c7, c8, lt⟩ := (HR.out gone).below hb1; have HB1 := Lib.hid ((HB.out gone).trans (hb1.mono (by simp))); clear hb1)
  go_ret
  exact ⟨by rw [HE.out]; rfl, HB1.out⟩
set_option maxHeartbeats 4000000 in
theorem ref_is_L15 (o s : Int) (key : ByteArray) (ml ct vo : Int) (A : Option Addr) (n c : Nat) (gone : Bool) (tt : Int) (w : World) (q0 : okV ml ct vo n gone tt = false) (HE : Hid (okN o s key.size ml ct vo n gone tt = false)) : Calls Tryd.prog 46 #[recV o s key ml ct vo A n c gone tt] w fun e w' => e = .returned (.bool (okN o s key.size ml ct vo n gone tt)) ∧ Below w.heap.size w w' := by
  have hud : undef = Value.tuple #[] := rfl
  have HR : Hid (∀ gone, Rec9 (w.alloc (recO o s key ml ct vo A n c gone tt)) w.heap.size o s key ml ct vo A n c gone tt) := Lib.hid (fun gone => Rec9.new w o s key ml ct vo A n c gone tt)
  have HB : Hid (∀ gone, Below w.heap.size w (w.alloc (recO o s key ml ct vo A n c gone tt))) := Lib.hid (fun gone => (Below.refl _ _).alloc (Nat.le_refl _) _)
  go_enter Tryd.func46, Tryd.ntmps46
  go_wp2_with (go_at_call 77; refine (ref_version ml ct vo A n c gone tt _).mono ?_; rintro e w1 ⟨rfl, hb1⟩; obtain ⟨c0, c1, c2, c3, c4, c5, c6, c7, c8, lt⟩ := (HR.out gone).below hb1; have HB1 := Lib.hid ((HB.out gone).trans (hb1.mono (by simp))); clear hb1)
  go_ret
  exact ⟨by rw [HE.out]; rfl, HB1.out⟩
set_option maxHeartbeats 4000000 in
theorem ref_is_L19 (o s : Int) (key : ByteArray) (ml ct vo : Int) (A : Option Addr) (n c : Nat) (gone : Bool) (tt : Int) (w : World) (q0 : okV ml ct vo n gone tt = true) (q1a : ((vo) == o) = true) (q2a : decide ((1 : Int) ≤ s) = true) (q3a : decide (s ≤ (1099511627776 : Int)) = false) (HE : Hid (okN o s key.size ml ct vo n gone tt = false)) : Calls Tryd.prog 46 #[recV o s key ml ct vo A n c gone tt] w fun e w' => e = .returned (.bool (okN o s key.size ml ct vo n gone tt)) ∧ Below w.heap.size w w' := by
  have hud : undef = Value.tuple #[] := rfl
  have HR : Hid (∀ gone, Rec9 (w.alloc (recO o s key ml ct vo A n c gone tt)) w.heap.size o s key ml ct vo A n c gone tt) := Lib.hid (fun gone => Rec9.new w o s key ml ct vo A n c gone tt)
  have HB : Hid (∀ gone, Below w.heap.size w (w.alloc (recO o s key ml ct vo A n c gone tt))) := Lib.hid (fun gone => (Below.refl _ _).alloc (Nat.le_refl _) _)
  go_enter Tryd.func46, Tryd.ntmps46
  go_wp2_with (go_at_call 77; refine (ref_version ml ct vo A n c gone tt _).mono ?_; rintro e w1 ⟨rfl, hb1⟩; obtain ⟨c0, c1, c2, c3, c4, c5, c6, c7, c8, lt⟩ := (HR.out gone).below hb1; have HB1 := Lib.hid ((HB.out gone).trans (hb1.mono (by simp))); clear hb1)
  go_ret
  exact ⟨by rw [HE.out]; rfl, HB1.out⟩
end Go.Proofs.YtdffldlcbihjmaaDoor
