/- Is it a record: the program's word and the reference's (written by gen/recis.py). -/
import Derived.Test.YtpflbhcgkndpcaaGreatDoorRec9
/- Is it a record: leaves (written by gen/recis.py). -/
set_option linter.unusedSimpArgs false
set_option linter.unusedVariables false
namespace Go.Proofs.YtpflbhcgkndpcaaGreatDoor
open Go.RowKit

set_option maxHeartbeats 4000000 in
theorem rec_is_L0 (o s : Int) (key : ByteArray) (ml ct vo : Int) (A : Option Addr) (n c : Nat) (gone : Bool) (tt : Int) (w : World) (q0 : isStampB ml ct = false) (HE : Hid (okN o s key.size ml ct vo n gone tt = false)) : Calls Tryz.prog 54 #[recV o s key ml ct vo A n c gone tt] w fun e w' => e = .returned (.bool (okN o s key.size ml ct vo n gone tt)) ∧ Below w.heap.size w w' := by
  have hud : undef = Value.tuple #[] := rfl
  have HR : Hid (∀ gone, Rec9 (w.alloc (recO o s key ml ct vo A n c gone tt)) w.heap.size o s key ml ct vo A n c gone tt) := Lib.hid (fun gone => Rec9.new w o s key ml ct vo A n c gone tt)
  have HB : Hid (∀ gone, Below w.heap.size w (w.alloc (recO o s key ml ct vo A n c gone tt))) := Lib.hid (fun gone => (Below.refl _ _).alloc (Nat.le_refl _) _)
  go_enter Tryz.func54, Tryz.ntmps54
  go_wp2_with (go_at_call 65; refine (hlc_pack_no ml ct _ q0).mono ?_; rintro e w1 ⟨rfl, hb1⟩; obtain ⟨c0, c1, c2, c3, c4, c5, c6, c7, c8, lt⟩ := (HR.out gone).below hb1; have HB1 := Lib.hid ((HB.out gone).trans (hb1.mono (by simp))); clear hb1)
  go_ret
  exact ⟨by rw [HE.out]; rfl, HB1.out⟩
set_option maxHeartbeats 4000000 in
theorem rec_is_L4 (o s : Int) (key : ByteArray) (ml ct vo : Int) (A : Option Addr) (n c : Nat) (tt : Int) (w : World) (q0 : isStampB ml ct = true) (q1a : decide ((0 : Int) ≤ o) = true) (q2a : decide (o < (5 : Int)) = true) (q3a : ((vo) == o) = true) (q4a : decide ((1 : Int) ≤ s) = true) (q5a : decide (s ≤ (1099511627776 : Int)) = true) (q6a : decide ((1 : Int) ≤ (key.size : Int)) = true) (q7a : decide ((key.size : Int) ≤ (64 : Int)) = true) (q8a : decide ((n : Int) ≤ (1024 : Int)) = true) (q9a : decide ((0 : Int) ≤ tt) = true) (q10a : decide (tt ≤ (281474976710655 : Int)) = true) (q12a : (((n : Int)) == (0 : Int)) = false) (HE : Hid (okN o s key.size ml ct vo n true tt = false)) : Calls Tryz.prog 54 #[recV o s key ml ct vo A n c true tt] w fun e w' => e = .returned (.bool (okN o s key.size ml ct vo n true tt)) ∧ Below w.heap.size w w' := by
  have hud : undef = Value.tuple #[] := rfl
  have HR : Hid (∀ gone, Rec9 (w.alloc (recO o s key ml ct vo A n c gone tt)) w.heap.size o s key ml ct vo A n c gone tt) := Lib.hid (fun gone => Rec9.new w o s key ml ct vo A n c gone tt)
  have HB : Hid (∀ gone, Below w.heap.size w (w.alloc (recO o s key ml ct vo A n c gone tt))) := Lib.hid (fun gone => (Below.refl _ _).alloc (Nat.le_refl _) _)
  go_enter Tryz.func54, Tryz.ntmps54
  go_wp2_with (go_at_call 65; refine (hlc_pack_yes ml ct _ q0).mono ?_; rintro e w1 ⟨rfl, hb1⟩; obtain ⟨c0, c1, c2, c3, c4, c5, c6, c7, c8, lt⟩ := (HR.out true).below hb1; have HB1 := Lib.hid ((HB.out true).trans (hb1.mono (by simp))); clear hb1)
  go_ret
  exact ⟨by rw [HE.out]; rfl, HB1.out⟩
set_option maxHeartbeats 4000000 in
theorem rec_is_L8 (o s : Int) (key : ByteArray) (ml ct vo : Int) (A : Option Addr) (n c : Nat) (gone : Bool) (tt : Int) (w : World) (q0 : isStampB ml ct = true) (q1a : decide ((0 : Int) ≤ o) = true) (q2a : decide (o < (5 : Int)) = true) (q3a : ((vo) == o) = true) (q4a : decide ((1 : Int) ≤ s) = true) (q5a : decide (s ≤ (1099511627776 : Int)) = true) (q6a : decide ((1 : Int) ≤ (key.size : Int)) = true) (q7a : decide ((key.size : Int) ≤ (64 : Int)) = false) (HE : Hid (okN o s key.size ml ct vo n gone tt = false)) : Calls Tryz.prog 54 #[recV o s key ml ct vo A n c gone tt] w fun e w' => e = .returned (.bool (okN o s key.size ml ct vo n gone tt)) ∧ Below w.heap.size w w' := by
  have hud : undef = Value.tuple #[] := rfl
  have HR : Hid (∀ gone, Rec9 (w.alloc (recO o s key ml ct vo A n c gone tt)) w.heap.size o s key ml ct vo A n c gone tt) := Lib.hid (fun gone => Rec9.new w o s key ml ct vo A n c gone tt)
  have HB : Hid (∀ gone, Below w.heap.size w (w.alloc (recO o s key ml ct vo A n c gone tt))) := Lib.hid (fun gone => (Below.refl _ _).alloc (Nat.le_refl _) _)
  go_enter Tryz.func54, Tryz.ntmps54
  go_wp2_with (go_at_call 65; refine (hlc_pack_yes ml ct _ q0).mono ?_; rintro e w1 ⟨rfl, hb1⟩; obtain ⟨c0, c1, c2, c3, c4, c5, c6, c7, c8, lt⟩ := (HR.out gone).below hb1; have HB1 := Lib.hid ((HB.out gone).trans (hb1.mono (by simp))); clear hb1)
  go_ret
  exact ⟨by rw [HE.out]; rfl, HB1.out⟩
set_option maxHeartbeats 4000000 in
theorem rec_is_L12 (o s : Int) (key : ByteArray) (ml ct vo : Int) (A : Option Addr) (n c : Nat) (gone : Bool) (tt : Int) (w : World) (q0 : isStampB ml ct = true) (q1a : decide ((0 : Int) ≤ o) = true) (q2a : decide (o < (5 : Int)) = true) (q3a : ((vo) == o) = false) (HE : Hid (okN o s key.size ml ct vo n gone tt = false)) : Calls Tryz.prog 54 #[recV o s key ml ct vo A n c gone tt] w fun e w' => e = .returned (.bool (okN o s key.size ml ct vo n gone tt)) ∧ Below w.heap.size w w' := by
  have hud : undef = Value.tuple #[] := rfl
  have HR : Hid (∀ gone, Rec9 (w.alloc (recO o s key ml ct vo A n c gone tt)) w.heap.size o s key ml ct vo A n c gone tt) := Lib.hid (fun gone => Rec9.new w o s key ml ct vo A n c gone tt)
  have HB : Hid (∀ gone, Below w.heap.size w (w.alloc (recO o s key ml ct vo A n c gone tt))) := Lib.hid (fun gone => (Below.refl _ _).alloc (Nat.le_refl _) _)
  go_enter Tryz.func54, Tryz.ntmps54
  go_wp2_with (go_at_call 65; refine (hlc_pack_yes ml ct _ q0).mono ?_; rintro e w1 ⟨rfl, hb1⟩; obtain ⟨c0, c1, c2, c3, c4, c5, c6, c7, c8, lt⟩ := (HR.out gone).below hb1; have HB1 := Lib.hid ((HB.out gone).trans (hb1.mono (by simp))); clear hb1)
  go_ret
  exact ⟨by rw [HE.out]; rfl, HB1.out⟩
set_option maxHeartbeats 4000000 in
theorem ref_is_L16 (o s : Int) (key : ByteArray) (ml ct vo : Int) (A : Option Addr) (n c : Nat) (gone : Bool) (tt : Int) (w : World) (q0 : okV ml ct vo n gone tt = true) (q1a : ((vo) == o) = true) (q2a : decide ((1 : Int) ≤ s) = true) (q3a : decide (s ≤ (1099511627776 : Int)) = true) (q4a : decide ((1 : Int) ≤ (key.size : Int)) = true) (q5a : decide ((key.size : Int) ≤ (64 : Int)) = true) (HE : Hid (okN o s key.size ml ct vo n gone tt = true)) : Calls Tryz.prog 9 #[recV o s key ml ct vo A n c gone tt] w fun e w' => e = .returned (.bool (okN o s key.size ml ct vo n gone tt)) ∧ Below w.heap.size w w' := by
  have hud : undef = Value.tuple #[] := rfl
  have HR : Hid (∀ gone, Rec9 (w.alloc (recO o s key ml ct vo A n c gone tt)) w.heap.size o s key ml ct vo A n c gone tt) := Lib.hid (fun gone => Rec9.new w o s key ml ct vo A n c gone tt)
  have HB : Hid (∀ gone, Below w.heap.size w (w.alloc (recO o s key ml ct vo A n c gone tt))) := Lib.hid (fun gone => (Below.refl _ _).alloc (Nat.le_refl _) _)
  go_enter Tryz.func9, Tryz.ntmps9
  go_wp2_with (go_at_call 26; refine (ref_version ml ct vo A n c gone tt _).mono ?_; rintro e w1 ⟨rfl, hb1⟩; obtain ⟨c0, c1, c2, c3, c4, c5, c6, c7, c8, lt⟩ := (HR.out gone).below hb1; have HB1 := Lib.hid ((HB.out gone).trans (hb1.mono (by simp))); clear hb1)
  go_ret
  exact ⟨by rw [HE.out]; rfl, HB1.out⟩
set_option maxHeartbeats 4000000 in
theorem ref_is_L20 (o s : Int) (key : ByteArray) (ml ct vo : Int) (A : Option Addr) (n c : Nat) (gone : Bool) (tt : Int) (w : World) (q0 : okV ml ct vo n gone tt = true) (q1a : ((vo) == o) = true) (q2a : decide ((1 : Int) ≤ s) = false) (HE : Hid (okN o s key.size ml ct vo n gone tt = false)) : Calls Tryz.prog 9 #[recV o s key ml ct vo A n c gone tt] w fun e w' => e = .returned (.bool (okN o s key.size ml ct vo n gone tt)) ∧ Below w.heap.size w w' := by
  have hud : undef = Value.tuple #[] := rfl
  have HR : Hid (∀ gone, Rec9 (w.alloc (recO o s key ml ct vo A n c gone tt)) w.heap.size o s key ml ct vo A n c gone tt) := Lib.hid (fun gone => Rec9.new w o s key ml ct vo A n c gone tt)
  have HB : Hid (∀ gone, Below w.heap.size w (w.alloc (recO o s key ml ct vo A n c gone tt))) := Lib.hid (fun gone => (Below.refl _ _).alloc (Nat.le_refl _) _)
  go_enter Tryz.func9, Tryz.ntmps9
  go_wp2_with (go_at_call 26; refine (ref_version ml ct vo A n c gone tt _).mono ?_; rintro e w1 ⟨rfl, hb1⟩; obtain ⟨c0, c1, c2, c3, c4, c5, c6, c7, c8, lt⟩ := (HR.out gone).below hb1; have HB1 := Lib.hid ((HB.out gone).trans (hb1.mono (by simp))); clear hb1)
  go_ret
  exact ⟨by rw [HE.out]; rfl, HB1.out⟩
end Go.Proofs.YtpflbhcgkndpcaaGreatDoor

/- Is it a record: leaves (written by gen/recis.py). -/
namespace Go.Proofs.YtpflbhcgkndpcaaGreatDoor
open Go.RowKit

set_option maxHeartbeats 4000000 in
theorem rec_is_L1 (o s : Int) (key : ByteArray) (ml ct vo : Int) (A : Option Addr) (n c : Nat) (tt : Int) (w : World) (q0 : isStampB ml ct = true) (q1a : decide ((0 : Int) ≤ o) = true) (q2a : decide (o < (5 : Int)) = true) (q3a : ((vo) == o) = true) (q4a : decide ((1 : Int) ≤ s) = true) (q5a : decide (s ≤ (1099511627776 : Int)) = true) (q6a : decide ((1 : Int) ≤ (key.size : Int)) = true) (q7a : decide ((key.size : Int) ≤ (64 : Int)) = true) (q8a : decide ((n : Int) ≤ (1024 : Int)) = true) (q9a : decide ((0 : Int) ≤ tt) = true) (q10a : decide (tt ≤ (281474976710655 : Int)) = true) (HE : Hid (okN o s key.size ml ct vo n false tt = true)) : Calls Tryz.prog 54 #[recV o s key ml ct vo A n c false tt] w fun e w' => e = .returned (.bool (okN o s key.size ml ct vo n false tt)) ∧ Below w.heap.size w w' := by
  have hud : undef = Value.tuple #[] := rfl
  have HR : Hid (∀ gone, Rec9 (w.alloc (recO o s key ml ct vo A n c gone tt)) w.heap.size o s key ml ct vo A n c gone tt) := Lib.hid (fun gone => Rec9.new w o s key ml ct vo A n c gone tt)
  have HB : Hid (∀ gone, Below w.heap.size w (w.alloc (recO o s key ml ct vo A n c gone tt))) := Lib.hid (fun gone => (Below.refl _ _).alloc (Nat.le_refl _) _)
  go_enter Tryz.func54, Tryz.ntmps54
  go_wp2_with (go_at_call 65; refine (hlc_pack_yes ml ct _ q0).mono ?_; rintro e w1 ⟨rfl, hb1⟩; obtain ⟨c0, c1, c2, c3, c4, c5, c6, c7, c8, lt⟩ := (HR.out false).below hb1; have HB1 := Lib.hid ((HB.out false).trans (hb1.mono (by simp))); clear hb1)
  go_ret
  exact ⟨by rw [HE.out]; rfl, HB1.out⟩
set_option maxHeartbeats 4000000 in
theorem rec_is_L5 (o s : Int) (key : ByteArray) (ml ct vo : Int) (A : Option Addr) (n c : Nat) (gone : Bool) (tt : Int) (w : World) (q0 : isStampB ml ct = true) (q1a : decide ((0 : Int) ≤ o) = true) (q2a : decide (o < (5 : Int)) = true) (q3a : ((vo) == o) = true) (q4a : decide ((1 : Int) ≤ s) = true) (q5a : decide (s ≤ (1099511627776 : Int)) = true) (q6a : decide ((1 : Int) ≤ (key.size : Int)) = true) (q7a : decide ((key.size : Int) ≤ (64 : Int)) = true) (q8a : decide ((n : Int) ≤ (1024 : Int)) = true) (q9a : decide ((0 : Int) ≤ tt) = true) (q10a : decide (tt ≤ (281474976710655 : Int)) = false) (HE : Hid (okN o s key.size ml ct vo n gone tt = false)) : Calls Tryz.prog 54 #[recV o s key ml ct vo A n c gone tt] w fun e w' => e = .returned (.bool (okN o s key.size ml ct vo n gone tt)) ∧ Below w.heap.size w w' := by
  have hud : undef = Value.tuple #[] := rfl
  have HR : Hid (∀ gone, Rec9 (w.alloc (recO o s key ml ct vo A n c gone tt)) w.heap.size o s key ml ct vo A n c gone tt) := Lib.hid (fun gone => Rec9.new w o s key ml ct vo A n c gone tt)
  have HB : Hid (∀ gone, Below w.heap.size w (w.alloc (recO o s key ml ct vo A n c gone tt))) := Lib.hid (fun gone => (Below.refl _ _).alloc (Nat.le_refl _) _)
  go_enter Tryz.func54, Tryz.ntmps54
  go_wp2_with (go_at_call 65; refine (hlc_pack_yes ml ct _ q0).mono ?_; rintro e w1 ⟨rfl, hb1⟩; obtain ⟨c0, c1, c2, c3, c4, c5, c6, c7, c8, lt⟩ := (HR.out gone).below hb1; have HB1 := Lib.hid ((HB.out gone).trans (hb1.mono (by simp))); clear hb1)
  go_ret
  exact ⟨by rw [HE.out]; rfl, HB1.out⟩
set_option maxHeartbeats 4000000 in
theorem rec_is_L9 (o s : Int) (key : ByteArray) (ml ct vo : Int) (A : Option Addr) (n c : Nat) (gone : Bool) (tt : Int) (w : World) (q0 : isStampB ml ct = true) (q1a : decide ((0 : Int) ≤ o) = true) (q2a : decide (o < (5 : Int)) = true) (q3a : ((vo) == o) = true) (q4a : decide ((1 : Int) ≤ s) = true) (q5a : decide (s ≤ (1099511627776 : Int)) = true) (q6a : decide ((1 : Int) ≤ (key.size : Int)) = false) (HE : Hid (okN o s key.size ml ct vo n gone tt = false)) : Calls Tryz.prog 54 #[recV o s key ml ct vo A n c gone tt] w fun e w' => e = .returned (.bool (okN o s key.size ml ct vo n gone tt)) ∧ Below w.heap.size w w' := by
  have hud : undef = Value.tuple #[] := rfl
  have HR : Hid (∀ gone, Rec9 (w.alloc (recO o s key ml ct vo A n c gone tt)) w.heap.size o s key ml ct vo A n c gone tt) := Lib.hid (fun gone => Rec9.new w o s key ml ct vo A n c gone tt)
  have HB : Hid (∀ gone, Below w.heap.size w (w.alloc (recO o s key ml ct vo A n c gone tt))) := Lib.hid (fun gone => (Below.refl _ _).alloc (Nat.le_refl _) _)
  go_enter Tryz.func54, Tryz.ntmps54
  go_wp2_with (go_at_call 65; refine (hlc_pack_yes ml ct _ q0).mono ?_; rintro e w1 ⟨rfl, hb1⟩; obtain ⟨c0, c1, c2, c3, c4, c5, c6, c7, c8, lt⟩ := (HR.out gone).below hb1; have HB1 := Lib.hid ((HB.out gone).trans (hb1.mono (by simp))); clear hb1)
  go_ret
  exact ⟨by rw [HE.out]; rfl, HB1.out⟩
set_option maxHeartbeats 4000000 in
theorem rec_is_L13 (o s : Int) (key : ByteArray) (ml ct vo : Int) (A : Option Addr) (n c : Nat) (gone : Bool) (tt : Int) (w : World) (q0 : isStampB ml ct = true) (q1a : decide ((0 : Int) ≤ o) = true) (q2a : decide (o < (5 : Int)) = false) (HE : Hid (okN o s key.size ml ct vo n gone tt = false)) : Calls Tryz.prog 54 #[recV o s key ml ct vo A n c gone tt] w fun e w' => e = .returned (.bool (okN o s key.size ml ct vo n gone tt)) ∧ Below w.heap.size w w' := by
  have hud : undef = Value.tuple #[] := rfl
  have HR : Hid (∀ gone, Rec9 (w.alloc (recO o s key ml ct vo A n c gone tt)) w.heap.size o s key ml ct vo A n c gone tt) := Lib.hid (fun gone => Rec9.new w o s key ml ct vo A n c gone tt)
  have HB : Hid (∀ gone, Below w.heap.size w (w.alloc (recO o s key ml ct vo A n c gone tt))) := Lib.hid (fun gone => (Below.refl _ _).alloc (Nat.le_refl _) _)
  go_enter Tryz.func54, Tryz.ntmps54
  go_wp2_with (go_at_call 65; refine (hlc_pack_yes ml ct _ q0).mono ?_; rintro e w1 ⟨rfl, hb1⟩; obtain ⟨c0, c1, c2, c3, c4, c5, c6, c7, c8, lt⟩ := (HR.out gone).below hb1; have HB1 := Lib.hid ((HB.out gone).trans (hb1.mono (by simp))); clear hb1)
  go_ret
  exact ⟨by rw [HE.out]; rfl, HB1.out⟩
set_option maxHeartbeats 4000000 in
theorem ref_is_L17 (o s : Int) (key : ByteArray) (ml ct vo : Int) (A : Option Addr) (n c : Nat) (gone : Bool) (tt : Int) (w : World) (q0 : okV ml ct vo n gone tt = true) (q1a : ((vo) == o) = true) (q2a : decide ((1 : Int) ≤ s) = true) (q3a : decide (s ≤ (1099511627776 : Int)) = true) (q4a : decide ((1 : Int) ≤ (key.size : Int)) = true) (q5a : decide ((key.size : Int) ≤ (64 : Int)) = false) (HE : Hid (okN o s key.size ml ct vo n gone tt = false)) : Calls Tryz.prog 9 #[recV o s key ml ct vo A n c gone tt] w fun e w' => e = .returned (.bool (okN o s key.size ml ct vo n gone tt)) ∧ Below w.heap.size w w' := by
  have hud : undef = Value.tuple #[] := rfl
  have HR : Hid (∀ gone, Rec9 (w.alloc (recO o s key ml ct vo A n c gone tt)) w.heap.size o s key ml ct vo A n c gone tt) := Lib.hid (fun gone => Rec9.new w o s key ml ct vo A n c gone tt)
  have HB : Hid (∀ gone, Below w.heap.size w (w.alloc (recO o s key ml ct vo A n c gone tt))) := Lib.hid (fun gone => (Below.refl _ _).alloc (Nat.le_refl _) _)
  go_enter Tryz.func9, Tryz.ntmps9
  go_wp2_with (go_at_call 26; refine (ref_version ml ct vo A n c gone tt _).mono ?_; rintro e w1 ⟨rfl, hb1⟩; obtain ⟨c0, c1, c2, c3, c4, c5, c6, c7, c8, lt⟩ := (HR.out gone).below hb1; have HB1 := Lib.hid ((HB.out gone).trans (hb1.mono (by simp))); clear hb1)
  go_ret
  exact ⟨by rw [HE.out]; rfl, HB1.out⟩
set_option maxHeartbeats 4000000 in
theorem ref_is_L21 (o s : Int) (key : ByteArray) (ml ct vo : Int) (A : Option Addr) (n c : Nat) (gone : Bool) (tt : Int) (w : World) (q0 : okV ml ct vo n gone tt = true) (q1a : ((vo) == o) = false) (HE : Hid (okN o s key.size ml ct vo n gone tt = false)) : Calls Tryz.prog 9 #[recV o s key ml ct vo A n c gone tt] w fun e w' => e = .returned (.bool (okN o s key.size ml ct vo n gone tt)) ∧ Below w.heap.size w w' := by
  have hud : undef = Value.tuple #[] := rfl
  have HR : Hid (∀ gone, Rec9 (w.alloc (recO o s key ml ct vo A n c gone tt)) w.heap.size o s key ml ct vo A n c gone tt) := Lib.hid (fun gone => Rec9.new w o s key ml ct vo A n c gone tt)
  have HB : Hid (∀ gone, Below w.heap.size w (w.alloc (recO o s key ml ct vo A n c gone tt))) := Lib.hid (fun gone => (Below.refl _ _).alloc (Nat.le_refl _) _)
  go_enter Tryz.func9, Tryz.ntmps9
  go_wp2_with (go_at_call 26; refine (ref_version ml ct vo A n c gone tt _).mono ?_; rintro e w1 ⟨rfl, hb1⟩; obtain ⟨c0, c1, c2, c3, c4, c5, c6, c7, c8, lt⟩ := (HR.out gone).below hb1; have HB1 := Lib.hid ((HB.out gone).trans (hb1.mono (by simp))); clear hb1)
  go_ret
  exact ⟨by rw [HE.out]; rfl, HB1.out⟩
end Go.Proofs.YtpflbhcgkndpcaaGreatDoor

/- Is it a record: leaves (written by gen/recis.py). -/
namespace Go.Proofs.YtpflbhcgkndpcaaGreatDoor
open Go.RowKit

set_option maxHeartbeats 4000000 in
theorem rec_is_L2 (o s : Int) (key : ByteArray) (ml ct vo : Int) (A : Option Addr) (n c : Nat) (tt : Int) (w : World) (q0 : isStampB ml ct = true) (q1a : decide ((0 : Int) ≤ o) = true) (q2a : decide (o < (5 : Int)) = true) (q3a : ((vo) == o) = true) (q4a : decide ((1 : Int) ≤ s) = true) (q5a : decide (s ≤ (1099511627776 : Int)) = true) (q6a : decide ((1 : Int) ≤ (key.size : Int)) = true) (q7a : decide ((key.size : Int) ≤ (64 : Int)) = true) (q8a : decide ((n : Int) ≤ (1024 : Int)) = true) (q9a : decide ((0 : Int) ≤ tt) = true) (q10a : decide (tt ≤ (281474976710655 : Int)) = true) (q12a : (((n : Int)) == (0 : Int)) = true) (q13a : ((tt) == (0 : Int)) = true) (HE : Hid (okN o s key.size ml ct vo n true tt = true)) : Calls Tryz.prog 54 #[recV o s key ml ct vo A n c true tt] w fun e w' => e = .returned (.bool (okN o s key.size ml ct vo n true tt)) ∧ Below w.heap.size w w' := by
  have hud : undef = Value.tuple #[] := rfl
  have HR : Hid (∀ gone, Rec9 (w.alloc (recO o s key ml ct vo A n c gone tt)) w.heap.size o s key ml ct vo A n c gone tt) := Lib.hid (fun gone => Rec9.new w o s key ml ct vo A n c gone tt)
  have HB : Hid (∀ gone, Below w.heap.size w (w.alloc (recO o s key ml ct vo A n c gone tt))) := Lib.hid (fun gone => (Below.refl _ _).alloc (Nat.le_refl _) _)
  go_enter Tryz.func54, Tryz.ntmps54
  go_wp2_with (go_at_call 65; refine (hlc_pack_yes ml ct _ q0).mono ?_; rintro e w1 ⟨rfl, hb1⟩; obtain ⟨c0, c1, c2, c3, c4, c5, c6, c7, c8, lt⟩ := (HR.out true).below hb1; have HB1 := Lib.hid ((HB.out true).trans (hb1.mono (by simp))); clear hb1)
  go_ret
  exact ⟨by rw [HE.out]; rfl, HB1.out⟩
set_option maxHeartbeats 4000000 in
theorem rec_is_L6 (o s : Int) (key : ByteArray) (ml ct vo : Int) (A : Option Addr) (n c : Nat) (gone : Bool) (tt : Int) (w : World) (q0 : isStampB ml ct = true) (q1a : decide ((0 : Int) ≤ o) = true) (q2a : decide (o < (5 : Int)) = true) (q3a : ((vo) == o) = true) (q4a : decide ((1 : Int) ≤ s) = true) (q5a : decide (s ≤ (1099511627776 : Int)) = true) (q6a : decide ((1 : Int) ≤ (key.size : Int)) = true) (q7a : decide ((key.size : Int) ≤ (64 : Int)) = true) (q8a : decide ((n : Int) ≤ (1024 : Int)) = true) (q9a : decide ((0 : Int) ≤ tt) = false) (HE : Hid (okN o s key.size ml ct vo n gone tt = false)) : Calls Tryz.prog 54 #[recV o s key ml ct vo A n c gone tt] w fun e w' => e = .returned (.bool (okN o s key.size ml ct vo n gone tt)) ∧ Below w.heap.size w w' := by
  have hud : undef = Value.tuple #[] := rfl
  have HR : Hid (∀ gone, Rec9 (w.alloc (recO o s key ml ct vo A n c gone tt)) w.heap.size o s key ml ct vo A n c gone tt) := Lib.hid (fun gone => Rec9.new w o s key ml ct vo A n c gone tt)
  have HB : Hid (∀ gone, Below w.heap.size w (w.alloc (recO o s key ml ct vo A n c gone tt))) := Lib.hid (fun gone => (Below.refl _ _).alloc (Nat.le_refl _) _)
  go_enter Tryz.func54, Tryz.ntmps54
  go_wp2_with (go_at_call 65; refine (hlc_pack_yes ml ct _ q0).mono ?_; rintro e w1 ⟨rfl, hb1⟩; obtain ⟨c0, c1, c2, c3, c4, c5, c6, c7, c8, lt⟩ := (HR.out gone).below hb1; have HB1 := Lib.hid ((HB.out gone).trans (hb1.mono (by simp))); clear hb1)
  go_ret
  exact ⟨by rw [HE.out]; rfl, HB1.out⟩
set_option maxHeartbeats 4000000 in
theorem rec_is_L10 (o s : Int) (key : ByteArray) (ml ct vo : Int) (A : Option Addr) (n c : Nat) (gone : Bool) (tt : Int) (w : World) (q0 : isStampB ml ct = true) (q1a : decide ((0 : Int) ≤ o) = true) (q2a : decide (o < (5 : Int)) = true) (q3a : ((vo) == o) = true) (q4a : decide ((1 : Int) ≤ s) = true) (q5a : decide (s ≤ (1099511627776 : Int)) = false) (HE : Hid (okN o s key.size ml ct vo n gone tt = false)) : Calls Tryz.prog 54 #[recV o s key ml ct vo A n c gone tt] w fun e w' => e = .returned (.bool (okN o s key.size ml ct vo n gone tt)) ∧ Below w.heap.size w w' := by
  have hud : undef = Value.tuple #[] := rfl
  have HR : Hid (∀ gone, Rec9 (w.alloc (recO o s key ml ct vo A n c gone tt)) w.heap.size o s key ml ct vo A n c gone tt) := Lib.hid (fun gone => Rec9.new w o s key ml ct vo A n c gone tt)
  have HB : Hid (∀ gone, Below w.heap.size w (w.alloc (recO o s key ml ct vo A n c gone tt))) := Lib.hid (fun gone => (Below.refl _ _).alloc (Nat.le_refl _) _)
  go_enter Tryz.func54, Tryz.ntmps54
  go_wp2_with (go_at_call 65; refine (hlc_pack_yes ml ct _ q0).mono ?_; rintro e w1 ⟨rfl, hb1⟩; obtain ⟨c0, c1, c2, c3, c4, c5, c6, c7, c8, lt⟩ := (HR.out gone).below hb1; have HB1 := Lib.hid ((HB.out gone).trans (hb1.mono (by simp))); clear hb1)
  go_ret
  exact ⟨by rw [HE.out]; rfl, HB1.out⟩
set_option maxHeartbeats 4000000 in
theorem rec_is_L14 (o s : Int) (key : ByteArray) (ml ct vo : Int) (A : Option Addr) (n c : Nat) (gone : Bool) (tt : Int) (w : World) (q0 : isStampB ml ct = true) (q1a : decide ((0 : Int) ≤ o) = false) (HE : Hid (okN o s key.size ml ct vo n gone tt = false)) : Calls Tryz.prog 54 #[recV o s key ml ct vo A n c gone tt] w fun e w' => e = .returned (.bool (okN o s key.size ml ct vo n gone tt)) ∧ Below w.heap.size w w' := by
  have hud : undef = Value.tuple #[] := rfl
  have HR : Hid (∀ gone, Rec9 (w.alloc (recO o s key ml ct vo A n c gone tt)) w.heap.size o s key ml ct vo A n c gone tt) := Lib.hid (fun gone => Rec9.new w o s key ml ct vo A n c gone tt)
  have HB : Hid (∀ gone, Below w.heap.size w (w.alloc (recO o s key ml ct vo A n c gone tt))) := Lib.hid (fun gone => (Below.refl _ _).alloc (Nat.le_refl _) _)
  go_enter Tryz.func54, Tryz.ntmps54
  go_wp2_with (go_at_call 65; refine (hlc_pack_yes ml ct _ q0).mono ?_; rintro e w1 ⟨rfl, hb1⟩; obtain ⟨c0, c1, c2, c3, c4, c5, c6, c7, c8, lt⟩ := (HR.out gone).below hb1; have HB1 := Lib.hid ((HB.out gone).trans (hb1.mono (by simp))); clear hb1)
  go_ret
  exact ⟨by rw [HE.out]; rfl, HB1.out⟩
set_option maxHeartbeats 4000000 in
theorem ref_is_L18 (o s : Int) (key : ByteArray) (ml ct vo : Int) (A : Option Addr) (n c : Nat) (gone : Bool) (tt : Int) (w : World) (q0 : okV ml ct vo n gone tt = true) (q1a : ((vo) == o) = true) (q2a : decide ((1 : Int) ≤ s) = true) (q3a : decide (s ≤ (1099511627776 : Int)) = true) (q4a : decide ((1 : Int) ≤ (key.size : Int)) = false) (HE : Hid (okN o s key.size ml ct vo n gone tt = false)) : Calls Tryz.prog 9 #[recV o s key ml ct vo A n c gone tt] w fun e w' => e = .returned (.bool (okN o s key.size ml ct vo n gone tt)) ∧ Below w.heap.size w w' := by
  have hud : undef = Value.tuple #[] := rfl
  have HR : Hid (∀ gone, Rec9 (w.alloc (recO o s key ml ct vo A n c gone tt)) w.heap.size o s key ml ct vo A n c gone tt) := Lib.hid (fun gone => Rec9.new w o s key ml ct vo A n c gone tt)
  have HB : Hid (∀ gone, Below w.heap.size w (w.alloc (recO o s key ml ct vo A n c gone tt))) := Lib.hid (fun gone => (Below.refl _ _).alloc (Nat.le_refl _) _)
  go_enter Tryz.func9, Tryz.ntmps9
  go_wp2_with (go_at_call 26; refine (ref_version ml ct vo A n c gone tt _).mono ?_; rintro e w1 ⟨rfl, hb1⟩; obtain ⟨c0, c1, c2, c3, c4, c5, c6, c7, c8, lt⟩ := (HR.out gone).below hb1; have HB1 := Lib.hid ((HB.out gone).trans (hb1.mono (by simp))); clear hb1)
  go_ret
  exact ⟨by rw [HE.out]; rfl, HB1.out⟩
end Go.Proofs.YtpflbhcgkndpcaaGreatDoor

/- Is it a record: leaves (written by gen/recis.py). -/
namespace Go.Proofs.YtpflbhcgkndpcaaGreatDoor
open Go.RowKit

set_option maxHeartbeats 4000000 in
theorem rec_is_L3 (o s : Int) (key : ByteArray) (ml ct vo : Int) (A : Option Addr) (n c : Nat) (tt : Int) (w : World) (q0 : isStampB ml ct = true) (q1a : decide ((0 : Int) ≤ o) = true) (q2a : decide (o < (5 : Int)) = true) (q3a : ((vo) == o) = true) (q4a : decide ((1 : Int) ≤ s) = true) (q5a : decide (s ≤ (1099511627776 : Int)) = true) (q6a : decide ((1 : Int) ≤ (key.size : Int)) = true) (q7a : decide ((key.size : Int) ≤ (64 : Int)) = true) (q8a : decide ((n : Int) ≤ (1024 : Int)) = true) (q9a : decide ((0 : Int) ≤ tt) = true) (q10a : decide (tt ≤ (281474976710655 : Int)) = true) (q12a : (((n : Int)) == (0 : Int)) = true) (q13a : ((tt) == (0 : Int)) = false) (HE : Hid (okN o s key.size ml ct vo n true tt = false)) : Calls Tryz.prog 54 #[recV o s key ml ct vo A n c true tt] w fun e w' => e = .returned (.bool (okN o s key.size ml ct vo n true tt)) ∧ Below w.heap.size w w' := by
  have hud : undef = Value.tuple #[] := rfl
  have HR : Hid (∀ gone, Rec9 (w.alloc (recO o s key ml ct vo A n c gone tt)) w.heap.size o s key ml ct vo A n c gone tt) := Lib.hid (fun gone => Rec9.new w o s key ml ct vo A n c gone tt)
  have HB : Hid (∀ gone, Below w.heap.size w (w.alloc (recO o s key ml ct vo A n c gone tt))) := Lib.hid (fun gone => (Below.refl _ _).alloc (Nat.le_refl _) _)
  go_enter Tryz.func54, Tryz.ntmps54
  go_wp2_with (go_at_call 65; refine (hlc_pack_yes ml ct _ q0).mono ?_; rintro e w1 ⟨rfl, hb1⟩; obtain ⟨c0, c1, c2, c3, c4, c5, c6, c7, c8, lt⟩ := (HR.out true).below hb1; have HB1 := Lib.hid ((HB.out true).trans (hb1.mono (by simp))); clear hb1)
  go_ret
  exact ⟨by rw [HE.out]; rfl, HB1.out⟩
set_option maxHeartbeats 4000000 in
theorem rec_is_L7 (o s : Int) (key : ByteArray) (ml ct vo : Int) (A : Option Addr) (n c : Nat) (gone : Bool) (tt : Int) (w : World) (q0 : isStampB ml ct = true) (q1a : decide ((0 : Int) ≤ o) = true) (q2a : decide (o < (5 : Int)) = true) (q3a : ((vo) == o) = true) (q4a : decide ((1 : Int) ≤ s) = true) (q5a : decide (s ≤ (1099511627776 : Int)) = true) (q6a : decide ((1 : Int) ≤ (key.size : Int)) = true) (q7a : decide ((key.size : Int) ≤ (64 : Int)) = true) (q8a : decide ((n : Int) ≤ (1024 : Int)) = false) (HE : Hid (okN o s key.size ml ct vo n gone tt = false)) : Calls Tryz.prog 54 #[recV o s key ml ct vo A n c gone tt] w fun e w' => e = .returned (.bool (okN o s key.size ml ct vo n gone tt)) ∧ Below w.heap.size w w' := by
  have hud : undef = Value.tuple #[] := rfl
  have HR : Hid (∀ gone, Rec9 (w.alloc (recO o s key ml ct vo A n c gone tt)) w.heap.size o s key ml ct vo A n c gone tt) := Lib.hid (fun gone => Rec9.new w o s key ml ct vo A n c gone tt)
  have HB : Hid (∀ gone, Below w.heap.size w (w.alloc (recO o s key ml ct vo A n c gone tt))) := Lib.hid (fun gone => (Below.refl _ _).alloc (Nat.le_refl _) _)
  go_enter Tryz.func54, Tryz.ntmps54
  go_wp2_with (go_at_call 65; refine (hlc_pack_yes ml ct _ q0).mono ?_; rintro e w1 ⟨rfl, hb1⟩; obtain ⟨c0, c1, c2, c3, c4, c5, c6, c7, c8, lt⟩ := (HR.out gone).below hb1; have HB1 := Lib.hid ((HB.out gone).trans (hb1.mono (by simp))); clear hb1)
  go_ret
  exact ⟨by rw [HE.out]; rfl, HB1.out⟩
set_option maxHeartbeats 4000000 in
theorem rec_is_L11 (o s : Int) (key : ByteArray) (ml ct vo : Int) (A : Option Addr) (n c : Nat) (gone : Bool) (tt : Int) (w : World) (q0 : isStampB ml ct = true) (q1a : decide ((0 : Int) ≤ o) = true) (q2a : decide (o < (5 : Int)) = true) (q3a : ((vo) == o) = true) (q4a : decide ((1 : Int) ≤ s) = false) (HE : Hid (okN o s key.size ml ct vo n gone tt = false)) : Calls Tryz.prog 54 #[recV o s key ml ct vo A n c gone tt] w fun e w' => e = .returned (.bool (okN o s key.size ml ct vo n gone tt)) ∧ Below w.heap.size w w' := by
  have hud : undef = Value.tuple #[] := rfl
  have HR : Hid (∀ gone, Rec9 (w.alloc (recO o s key ml ct vo A n c gone tt)) w.heap.size o s key ml ct vo A n c gone tt) := Lib.hid (fun gone => Rec9.new w o s key ml ct vo A n c gone tt)
  have HB : Hid (∀ gone, Below w.heap.size w (w.alloc (recO o s key ml ct vo A n c gone tt))) := Lib.hid (fun gone => (Below.refl _ _).alloc (Nat.le_refl _) _)
  go_enter Tryz.func54, Tryz.ntmps54
  go_wp2_with (go_at_call 65; refine (hlc_pack_yes ml ct _ q0).mono ?_; rintro e w1 ⟨rfl, hb1⟩; obtain ⟨c0, c1, c2, c3, c4, c5, c6, c7, c8, lt⟩ := (HR.out gone).below hb1; have HB1 := Lib.hid ((HB.out gone).trans (hb1.mono (by simp))); clear hb1)
  go_ret
  exact ⟨by rw [HE.out]; rfl, HB1.out⟩
set_option maxHeartbeats 4000000 in
theorem ref_is_L15 (o s : Int) (key : ByteArray) (ml ct vo : Int) (A : Option Addr) (n c : Nat) (gone : Bool) (tt : Int) (w : World) (q0 : okV ml ct vo n gone tt = false) (HE : Hid (okN o s key.size ml ct vo n gone tt = false)) : Calls Tryz.prog 9 #[recV o s key ml ct vo A n c gone tt] w fun e w' => e = .returned (.bool (okN o s key.size ml ct vo n gone tt)) ∧ Below w.heap.size w w' := by
  have hud : undef = Value.tuple #[] := rfl
  have HR : Hid (∀ gone, Rec9 (w.alloc (recO o s key ml ct vo A n c gone tt)) w.heap.size o s key ml ct vo A n c gone tt) := Lib.hid (fun gone => Rec9.new w o s key ml ct vo A n c gone tt)
  have HB : Hid (∀ gone, Below w.heap.size w (w.alloc (recO o s key ml ct vo A n c gone tt))) := Lib.hid (fun gone => (Below.refl _ _).alloc (Nat.le_refl _) _)
  go_enter Tryz.func9, Tryz.ntmps9
  go_wp2_with (go_at_call 26; refine (ref_version ml ct vo A n c gone tt _).mono ?_; rintro e w1 ⟨rfl, hb1⟩; obtain ⟨c0, c1, c2, c3, c4, c5, c6, c7, c8, lt⟩ := (HR.out gone).below hb1; have HB1 := Lib.hid ((HB.out gone).trans (hb1.mono (by simp))); clear hb1)
  go_ret
  exact ⟨by rw [HE.out]; rfl, HB1.out⟩
set_option maxHeartbeats 4000000 in
theorem ref_is_L19 (o s : Int) (key : ByteArray) (ml ct vo : Int) (A : Option Addr) (n c : Nat) (gone : Bool) (tt : Int) (w : World) (q0 : okV ml ct vo n gone tt = true) (q1a : ((vo) == o) = true) (q2a : decide ((1 : Int) ≤ s) = true) (q3a : decide (s ≤ (1099511627776 : Int)) = false) (HE : Hid (okN o s key.size ml ct vo n gone tt = false)) : Calls Tryz.prog 9 #[recV o s key ml ct vo A n c gone tt] w fun e w' => e = .returned (.bool (okN o s key.size ml ct vo n gone tt)) ∧ Below w.heap.size w w' := by
  have hud : undef = Value.tuple #[] := rfl
  have HR : Hid (∀ gone, Rec9 (w.alloc (recO o s key ml ct vo A n c gone tt)) w.heap.size o s key ml ct vo A n c gone tt) := Lib.hid (fun gone => Rec9.new w o s key ml ct vo A n c gone tt)
  have HB : Hid (∀ gone, Below w.heap.size w (w.alloc (recO o s key ml ct vo A n c gone tt))) := Lib.hid (fun gone => (Below.refl _ _).alloc (Nat.le_refl _) _)
  go_enter Tryz.func9, Tryz.ntmps9
  go_wp2_with (go_at_call 26; refine (ref_version ml ct vo A n c gone tt _).mono ?_; rintro e w1 ⟨rfl, hb1⟩; obtain ⟨c0, c1, c2, c3, c4, c5, c6, c7, c8, lt⟩ := (HR.out gone).below hb1; have HB1 := Lib.hid ((HB.out gone).trans (hb1.mono (by simp))); clear hb1)
  go_ret
  exact ⟨by rw [HE.out]; rfl, HB1.out⟩
end Go.Proofs.YtpflbhcgkndpcaaGreatDoor

/- Is it a record: the program's word and the reference's (written by gen/recis.py). -/
namespace Go.Proofs.YtpflbhcgkndpcaaGreatDoor
open Go.RowKit

set_option maxHeartbeats 4000000 in
theorem rec_is (o s : Int) (key : ByteArray) (ml ct vo : Int) (A : Option Addr) (n c : Nat) (gone : Bool) (tt : Int) (w : World) :
    Calls Tryz.prog 54 #[recV o s key ml ct vo A n c gone tt] w fun e w' => e = .returned (.bool (okN o s key.size ml ct vo n gone tt)) ∧ Below w.heap.size w w' := by
  cases q0 : isStampB ml ct
  · skip
    have HE : Hid (okN o s key.size ml ct vo n gone tt = false) := Lib.hid (by simp [okN, okV, isStB_eq, q0]; try omega)
    exact rec_is_L0 o s key ml ct vo A n c gone tt w q0 HE
  · skip
    by_cases q1 : (0 : Int) ≤ o
    · skip
      have q1a : decide ((0 : Int) ≤ o) = true := by simp; omega
      by_cases q2 : o < (5 : Int)
      · skip
        have q2a : decide (o < (5 : Int)) = true := by simp; omega
        by_cases q3 : vo = o
        · skip
          have q3a : ((vo) == o) = true := by simp; omega
          by_cases q4 : (1 : Int) ≤ s
          · skip
            have q4a : decide ((1 : Int) ≤ s) = true := by simp; omega
            by_cases q5 : s ≤ (1099511627776 : Int)
            · skip
              have q5a : decide (s ≤ (1099511627776 : Int)) = true := by simp; omega
              by_cases q6 : (1 : Int) ≤ (key.size : Int)
              · skip
                have q6a : decide ((1 : Int) ≤ (key.size : Int)) = true := by simp; omega
                by_cases q7 : (key.size : Int) ≤ (64 : Int)
                · skip
                  have q7a : decide ((key.size : Int) ≤ (64 : Int)) = true := by simp; omega
                  by_cases q8 : (n : Int) ≤ (1024 : Int)
                  · skip
                    have q8a : decide ((n : Int) ≤ (1024 : Int)) = true := by simp; omega
                    by_cases q9 : (0 : Int) ≤ tt
                    · skip
                      have q9a : decide ((0 : Int) ≤ tt) = true := by simp; omega
                      by_cases q10 : tt ≤ (281474976710655 : Int)
                      · skip
                        have q10a : decide (tt ≤ (281474976710655 : Int)) = true := by simp; omega
                        cases gone
                        · skip
                          have HE : Hid (okN o s key.size ml ct vo n false tt = true) := Lib.hid (by simp [okN, okV, isStB_eq, q0, q1, q2, q3, q4, q5, q6, q7, q8, q9, q10]; try omega)
                          exact rec_is_L1 o s key ml ct vo A n c tt w q0 q1a q2a q3a q4a q5a q6a q7a q8a q9a q10a HE
                        · skip
                          by_cases q12 : (n : Int) = (0 : Int)
                          · skip
                            have q12a : (((n : Int)) == (0 : Int)) = true := by simp; omega
                            by_cases q13 : tt = (0 : Int)
                            · skip
                              have q13a : ((tt) == (0 : Int)) = true := by simp; omega
                              have HE : Hid (okN o s key.size ml ct vo n true tt = true) := Lib.hid (by simp [okN, okV, isStB_eq, q0, q1, q2, q3, q4, q5, q6, q7, q8, q9, q10, q12, q13]; try omega)
                              exact rec_is_L2 o s key ml ct vo A n c tt w q0 q1a q2a q3a q4a q5a q6a q7a q8a q9a q10a q12a q13a HE
                            · skip
                              have q13a : ((tt) == (0 : Int)) = false := by simp; omega
                              have HE : Hid (okN o s key.size ml ct vo n true tt = false) := Lib.hid (by simp [okN, okV, isStB_eq, q0, q1, q2, q3, q4, q5, q6, q7, q8, q9, q10, q12, q13]; try omega)
                              exact rec_is_L3 o s key ml ct vo A n c tt w q0 q1a q2a q3a q4a q5a q6a q7a q8a q9a q10a q12a q13a HE
                          · skip
                            have q12a : (((n : Int)) == (0 : Int)) = false := by simp; omega
                            have HE : Hid (okN o s key.size ml ct vo n true tt = false) := Lib.hid (by simp [okN, okV, isStB_eq, q0, q1, q2, q3, q4, q5, q6, q7, q8, q9, q10, q12]; try omega)
                            exact rec_is_L4 o s key ml ct vo A n c tt w q0 q1a q2a q3a q4a q5a q6a q7a q8a q9a q10a q12a HE
                      · skip
                        have q10a : decide (tt ≤ (281474976710655 : Int)) = false := by simp; omega
                        have HE : Hid (okN o s key.size ml ct vo n gone tt = false) := Lib.hid (by simp [okN, okV, isStB_eq, q0, q1, q2, q3, q4, q5, q6, q7, q8, q9, q10]; try omega)
                        exact rec_is_L5 o s key ml ct vo A n c gone tt w q0 q1a q2a q3a q4a q5a q6a q7a q8a q9a q10a HE
                    · skip
                      have q9a : decide ((0 : Int) ≤ tt) = false := by simp; omega
                      have HE : Hid (okN o s key.size ml ct vo n gone tt = false) := Lib.hid (by simp [okN, okV, isStB_eq, q0, q1, q2, q3, q4, q5, q6, q7, q8, q9]; try omega)
                      exact rec_is_L6 o s key ml ct vo A n c gone tt w q0 q1a q2a q3a q4a q5a q6a q7a q8a q9a HE
                  · skip
                    have q8a : decide ((n : Int) ≤ (1024 : Int)) = false := by simp; omega
                    have HE : Hid (okN o s key.size ml ct vo n gone tt = false) := Lib.hid (by simp [okN, okV, isStB_eq, q0, q1, q2, q3, q4, q5, q6, q7, q8]; try omega)
                    exact rec_is_L7 o s key ml ct vo A n c gone tt w q0 q1a q2a q3a q4a q5a q6a q7a q8a HE
                · skip
                  have q7a : decide ((key.size : Int) ≤ (64 : Int)) = false := by simp; omega
                  have HE : Hid (okN o s key.size ml ct vo n gone tt = false) := Lib.hid (by simp [okN, okV, isStB_eq, q0, q1, q2, q3, q4, q5, q6, q7]; try omega)
                  exact rec_is_L8 o s key ml ct vo A n c gone tt w q0 q1a q2a q3a q4a q5a q6a q7a HE
              · skip
                have q6a : decide ((1 : Int) ≤ (key.size : Int)) = false := by simp; omega
                have HE : Hid (okN o s key.size ml ct vo n gone tt = false) := Lib.hid (by simp [okN, okV, isStB_eq, q0, q1, q2, q3, q4, q5, q6]; try omega)
                exact rec_is_L9 o s key ml ct vo A n c gone tt w q0 q1a q2a q3a q4a q5a q6a HE
            · skip
              have q5a : decide (s ≤ (1099511627776 : Int)) = false := by simp; omega
              have HE : Hid (okN o s key.size ml ct vo n gone tt = false) := Lib.hid (by simp [okN, okV, isStB_eq, q0, q1, q2, q3, q4, q5]; try omega)
              exact rec_is_L10 o s key ml ct vo A n c gone tt w q0 q1a q2a q3a q4a q5a HE
          · skip
            have q4a : decide ((1 : Int) ≤ s) = false := by simp; omega
            have HE : Hid (okN o s key.size ml ct vo n gone tt = false) := Lib.hid (by simp [okN, okV, isStB_eq, q0, q1, q2, q3, q4]; try omega)
            exact rec_is_L11 o s key ml ct vo A n c gone tt w q0 q1a q2a q3a q4a HE
        · skip
          have q3a : ((vo) == o) = false := by simp; omega
          have HE : Hid (okN o s key.size ml ct vo n gone tt = false) := Lib.hid (by simp [okN, okV, isStB_eq, q0, q1, q2, q3]; try omega)
          exact rec_is_L12 o s key ml ct vo A n c gone tt w q0 q1a q2a q3a HE
      · skip
        have q2a : decide (o < (5 : Int)) = false := by simp; omega
        have HE : Hid (okN o s key.size ml ct vo n gone tt = false) := Lib.hid (by simp [okN, okV, isStB_eq, q0, q1, q2]; try omega)
        exact rec_is_L13 o s key ml ct vo A n c gone tt w q0 q1a q2a HE
    · skip
      have q1a : decide ((0 : Int) ≤ o) = false := by simp; omega
      have HE : Hid (okN o s key.size ml ct vo n gone tt = false) := Lib.hid (by simp [okN, okV, isStB_eq, q0, q1]; try omega)
      exact rec_is_L14 o s key ml ct vo A n c gone tt w q0 q1a HE
set_option maxHeartbeats 4000000 in
theorem ref_is (o s : Int) (key : ByteArray) (ml ct vo : Int) (A : Option Addr) (n c : Nat) (gone : Bool) (tt : Int) (w : World) :
    Calls Tryz.prog 9 #[recV o s key ml ct vo A n c gone tt] w fun e w' => e = .returned (.bool (okN o s key.size ml ct vo n gone tt)) ∧ Below w.heap.size w w' := by
  cases q0 : okV ml ct vo n gone tt
  · skip
    have HE : Hid (okN o s key.size ml ct vo n gone tt = false) := Lib.hid (by unfold okN; rw [q0]; simp; try omega)
    exact ref_is_L15 o s key ml ct vo A n c gone tt w q0 HE
  · skip
    by_cases q1 : vo = o
    · skip
      have q1a : ((vo) == o) = true := by simp; omega
      by_cases q2 : (1 : Int) ≤ s
      · skip
        have q2a : decide ((1 : Int) ≤ s) = true := by simp; omega
        by_cases q3 : s ≤ (1099511627776 : Int)
        · skip
          have q3a : decide (s ≤ (1099511627776 : Int)) = true := by simp; omega
          by_cases q4 : (1 : Int) ≤ (key.size : Int)
          · skip
            have q4a : decide ((1 : Int) ≤ (key.size : Int)) = true := by simp; omega
            by_cases q5 : (key.size : Int) ≤ (64 : Int)
            · skip
              have q5a : decide ((key.size : Int) ≤ (64 : Int)) = true := by simp; omega
              have HE : Hid (okN o s key.size ml ct vo n gone tt = true) := Lib.hid (by unfold okN; rw [q0]; simp; try omega)
              exact ref_is_L16 o s key ml ct vo A n c gone tt w q0 q1a q2a q3a q4a q5a HE
            · skip
              have q5a : decide ((key.size : Int) ≤ (64 : Int)) = false := by simp; omega
              have HE : Hid (okN o s key.size ml ct vo n gone tt = false) := Lib.hid (by unfold okN; rw [q0]; simp; try omega)
              exact ref_is_L17 o s key ml ct vo A n c gone tt w q0 q1a q2a q3a q4a q5a HE
          · skip
            have q4a : decide ((1 : Int) ≤ (key.size : Int)) = false := by simp; omega
            have HE : Hid (okN o s key.size ml ct vo n gone tt = false) := Lib.hid (by unfold okN; rw [q0]; simp; try omega)
            exact ref_is_L18 o s key ml ct vo A n c gone tt w q0 q1a q2a q3a q4a HE
        · skip
          have q3a : decide (s ≤ (1099511627776 : Int)) = false := by simp; omega
          have HE : Hid (okN o s key.size ml ct vo n gone tt = false) := Lib.hid (by unfold okN; rw [q0]; simp; try omega)
          exact ref_is_L19 o s key ml ct vo A n c gone tt w q0 q1a q2a q3a HE
      · skip
        have q2a : decide ((1 : Int) ≤ s) = false := by simp; omega
        have HE : Hid (okN o s key.size ml ct vo n gone tt = false) := Lib.hid (by unfold okN; rw [q0]; simp; try omega)
        exact ref_is_L20 o s key ml ct vo A n c gone tt w q0 q1a q2a HE
    · skip
      have q1a : ((vo) == o) = false := by simp; omega
      have HE : Hid (okN o s key.size ml ct vo n gone tt = false) := Lib.hid (by unfold okN; rw [q0]; simp; try omega)
      exact ref_is_L21 o s key ml ct vo A n c gone tt w q0 q1a HE
end Go.Proofs.YtpflbhcgkndpcaaGreatDoor

