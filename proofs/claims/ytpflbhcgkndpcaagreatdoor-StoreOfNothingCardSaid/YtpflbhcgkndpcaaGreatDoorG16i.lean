/- Stage 16: StoreOfNothing: the law's walk (written by gen/s16n.py). -/
import Derived.Test.YtpflbhcgkndpcaaGreatDoorG16h
/- Stage 16: what a store that is not there tells (written by gen/nl16.py). -/
set_option linter.unusedSimpArgs false
set_option linter.unusedVariables false
namespace Go.Proofs.YtpflbhcgkndpcaaGreatDoor
open Go.RowKit

theorem nul_readable (tm tc : Int) (w : World) : Calls Tryz.prog 33 #[.pointer none, .agg #[.int .i64 tm, .int .i64 tc]] w fun e w' => e = .returned (.int .i64 1) ∧ Below w.heap.size w w' := by
  go_enter Tryz.func33, Tryz.ntmps33
  go_wp2_with fail
  go_ret
  exact ⟨rfl, by first | exact Below.refl _ _ | (repeat' (first | (with_reducible exact Below.refl _ _) | (with_reducible assumption) | (with_reducible refine Below.trans ?_ (Below.mono (by with_reducible assumption) ?_)) | (with_reducible refine Below.alloc ?_ ?_ _) | (with_reducible refine Below.setCell ?_ ?_ _) | (with_reducible refine below_drewN ?_ _) | (with_reducible refine Below.drew ?_) | go_size))⟩
theorem nul_applied (n : Int) (w : World) : Calls Tryz.prog 13 #[.pointer none, .int .i64 n] w fun e w' => e = .returned (.tuple #[.int .i64 0, .agg #[.int .i64 0, .int .i64 0]]) ∧ Below w.heap.size w w' := by
  go_enter Tryz.func13, Tryz.ntmps13
  go_wp2_with fail
  refine bodyPost_ret (v := .tuple #[.int .i64 0, .agg #[.int .i64 0, .int .i64 0]]) (by simp [results, Tryz.results13, go_sem]) rfl ?_
  exact ⟨rfl, by first | exact Below.refl _ _ | (repeat' (first | (with_reducible exact Below.refl _ _) | (with_reducible assumption) | (with_reducible refine Below.trans ?_ (Below.mono (by with_reducible assumption) ?_)) | (with_reducible refine Below.alloc ?_ ?_ _) | (with_reducible refine Below.setCell ?_ ?_ _) | (with_reducible refine below_drewN ?_ _) | (with_reducible refine Below.drew ?_) | go_size))⟩
theorem nul_get (key : ByteArray) (tm tc : Int) (w : World) : Calls Tryz.prog 14 #[.pointer none, .string key, .agg #[.int .i64 tm, .int .i64 tc]] w fun e w' => e = .returned (.tuple #[.slice none 0 0, .bool false, .int .i64 1]) ∧ Below w.heap.size w w' := by
  have HR := Lib.hid (fun W : World => nul_readable tm tc W)
  go_enter Tryz.func14, Tryz.ntmps14
  go_wp2_with (go_at_call 33; refine (HR.out _).mono ?_; rintro e1 w1 ⟨rfl, k⟩; have HK := Lib.hid k; clear k)
  go_ret3
  exact ⟨rfl, (show Below w.heap.size w (w.alloc _) from (Below.refl _ _).alloc (Nat.le_refl _) _).trans (HK.out.mono (by simp))⟩
theorem nul_scan (key zz : ByteArray) (tm tc n : Int) (w : World) : Calls Tryz.prog 15 #[.pointer none, .string key, .string zz, .agg #[.int .i64 tm, .int .i64 tc], .int .i64 n] w fun e w' => e = .returned (.tuple #[.slice none 0 0, .int .i64 1]) ∧ Below w.heap.size w w' := by
  have HR := Lib.hid (fun W : World => nul_readable tm tc W)
  go_enter Tryz.func15, Tryz.ntmps15
  go_wp2_with (go_at_call 33; refine (HR.out _).mono ?_; rintro e1 w1 ⟨rfl, k⟩; have HK := Lib.hid k; clear k)
  go_ret2
  exact ⟨rfl, (show Below w.heap.size w (w.alloc _) from (Below.refl _ _).alloc (Nat.le_refl _) _).trans (HK.out.mono (by simp))⟩
theorem nul_trim (tm tc : Int) (w : World) : Calls Tryz.prog 16 #[.pointer none, .agg #[.int .i64 tm, .int .i64 tc]] w fun e w' => e = .returned (.tuple #[.int .i64 0, .int .i64 1]) ∧ Below w.heap.size w w' := by
  go_enter Tryz.func16, Tryz.ntmps16
  go_wp2_with fail
  go_ret2
  exact ⟨rfl, by first | exact Below.refl _ _ | (repeat' (first | (with_reducible exact Below.refl _ _) | (with_reducible assumption) | (with_reducible refine Below.trans ?_ (Below.mono (by with_reducible assumption) ?_)) | (with_reducible refine Below.alloc ?_ ?_ _) | (with_reducible refine Below.setCell ?_ ?_ _) | (with_reducible refine below_drewN ?_ _) | (with_reducible refine Below.drew ?_) | go_size))⟩
theorem nul_keys  (w : World) : Calls Tryz.prog 11 #[.pointer none] w fun e w' => e = .returned (.tuple #[.slice none 0 0, .int .i64 0]) ∧ Below w.heap.size w w' := by
  go_enter Tryz.func11, Tryz.ntmps11
  go_wp2_with fail
  go_ret2
  exact ⟨rfl, by first | exact Below.refl _ _ | (repeat' (first | (with_reducible exact Below.refl _ _) | (with_reducible assumption) | (with_reducible refine Below.trans ?_ (Below.mono (by with_reducible assumption) ?_)) | (with_reducible refine Below.alloc ?_ ?_ _) | (with_reducible refine Below.setCell ?_ ?_ _) | (with_reducible refine below_drewN ?_ _) | (with_reducible refine Below.drew ?_) | go_size))⟩
theorem nul_age  (w : World) : Calls Tryz.prog 12 #[.pointer none] w fun e w' => e = .returned (.tuple #[.int .i64 0, .int .i64 0]) ∧ Below w.heap.size w w' := by
  go_enter Tryz.func12, Tryz.ntmps12
  go_wp2_with fail
  go_ret2
  exact ⟨rfl, by first | exact Below.refl _ _ | (repeat' (first | (with_reducible exact Below.refl _ _) | (with_reducible assumption) | (with_reducible refine Below.trans ?_ (Below.mono (by with_reducible assumption) ?_)) | (with_reducible refine Below.alloc ?_ ?_ _) | (with_reducible refine Below.setCell ?_ ?_ _) | (with_reducible refine below_drewN ?_ _) | (with_reducible refine Below.drew ?_) | go_size))⟩
theorem nul_open  (w : World) : Calls Tryz.prog 17 #[.pointer none, .string ⟨#[109]⟩, .int .i64 0] w fun e w' => e = .returned (.tuple #[.pointer none, .int .i64 1]) ∧ Below w.heap.size w w' := by
  go_enter Tryz.func17, Tryz.ntmps17
  go_wp2_with fail
  go_ret2
  exact ⟨rfl, by first | exact Below.refl _ _ | (repeat' (first | (with_reducible exact Below.refl _ _) | (with_reducible assumption) | (with_reducible refine Below.trans ?_ (Below.mono (by with_reducible assumption) ?_)) | (with_reducible refine Below.alloc ?_ ?_ _) | (with_reducible refine Below.setCell ?_ ?_ _) | (with_reducible refine below_drewN ?_ _) | (with_reducible refine Below.drew ?_) | go_size))⟩
theorem nul_forget (n : Int) (w : World) : Calls Tryz.prog 18 #[.pointer none, .int .i64 n] w fun e w' => e = .returned (.tuple #[]) ∧ Below w.heap.size w w' := by
  go_enter Tryz.func18, Tryz.ntmps18
  go_wp2_with fail
  first | go_end0 | refine bodyPost_ret (results_none rfl _ _ _) rfl ?_
  exact ⟨rfl, by first | exact Below.refl _ _ | (repeat' (first | (with_reducible exact Below.refl _ _) | (with_reducible assumption) | (with_reducible refine Below.trans ?_ (Below.mono (by with_reducible assumption) ?_)) | (with_reducible refine Below.alloc ?_ ?_ _) | (with_reducible refine Below.setCell ?_ ?_ _) | (with_reducible refine below_drewN ?_ _) | (with_reducible refine Below.drew ?_) | go_size))⟩
theorem nul_put (v : Value) (w : World) : Calls Tryz.prog 10 #[.pointer none, v] w fun e w' => e = .returned (.int .i64 1) ∧ Below w.heap.size w w' := by
  go_enter Tryz.func10, Tryz.ntmps10
  go_wp2_with fail
  go_ret
  exact ⟨rfl, by first | exact Below.refl _ _ | (repeat' (first | (with_reducible exact Below.refl _ _) | (with_reducible assumption) | (with_reducible refine Below.trans ?_ (Below.mono (by with_reducible assumption) ?_)) | (with_reducible refine Below.alloc ?_ ?_ _) | (with_reducible refine Below.setCell ?_ ?_ _) | (with_reducible refine below_drewN ?_ _) | (with_reducible refine Below.drew ?_) | go_size))⟩
theorem nul_compact  (w : World) : Calls Tryz.prog 19 #[.pointer none] w fun e w' => e = .returned (.int .i64 1) ∧ Below w.heap.size w w' := by
  go_enter Tryz.func19, Tryz.ntmps19
  go_wp2_with fail
  go_ret
  exact ⟨rfl, by first | exact Below.refl _ _ | (repeat' (first | (with_reducible exact Below.refl _ _) | (with_reducible assumption) | (with_reducible refine Below.trans ?_ (Below.mono (by with_reducible assumption) ?_)) | (with_reducible refine Below.alloc ?_ ?_ _) | (with_reducible refine Below.setCell ?_ ?_ _) | (with_reducible refine below_drewN ?_ _) | (with_reducible refine Below.drew ?_) | go_size))⟩
theorem nul_mark  (w : World) : Calls Tryz.prog 20 #[.pointer none] w fun e w' => e = .returned (.agg #[.int .i64 0, .int .i64 0]) ∧ Below w.heap.size w w' := by
  go_enter Tryz.func20, Tryz.ntmps20
  go_wp2_with fail
  refine bodyPost_ret (v := .agg #[.int .i64 0, .int .i64 0]) (by simp [results, Tryz.results20, go_sem]) rfl ?_
  exact ⟨rfl, by first | exact Below.refl _ _ | (repeat' (first | (with_reducible exact Below.refl _ _) | (with_reducible assumption) | (with_reducible refine Below.trans ?_ (Below.mono (by with_reducible assumption) ?_)) | (with_reducible refine Below.alloc ?_ ?_ _) | (with_reducible refine Below.setCell ?_ ?_ _) | (with_reducible refine below_drewN ?_ _) | (with_reducible refine Below.drew ?_) | go_size))⟩
theorem nul_kept  (w : World) : Calls Tryz.prog 21 #[.pointer none, .int .i64 0, .int .i64 5] w fun e w' => e = .returned (.slice none 0 0) ∧ Below w.heap.size w w' := by
  go_enter Tryz.func21, Tryz.ntmps21
  go_wp2_with fail
  go_ret
  exact ⟨rfl, by first | exact Below.refl _ _ | (repeat' (first | (with_reducible exact Below.refl _ _) | (with_reducible assumption) | (with_reducible refine Below.trans ?_ (Below.mono (by with_reducible assumption) ?_)) | (with_reducible refine Below.alloc ?_ ?_ _) | (with_reducible refine Below.setCell ?_ ?_ _) | (with_reducible refine below_drewN ?_ _) | (with_reducible refine Below.drew ?_) | go_size))⟩
end Go.Proofs.YtpflbhcgkndpcaaGreatDoor

/- Stage 16: StoreOfNothing: the law's walk (written by gen/s16n.py). -/
namespace Go.Proofs.YtpflbhcgkndpcaaGreatDoor
open Go.RowKit

set_option maxRecDepth 100000 in
set_option maxHeartbeats 8000000 in
theorem law_nothing (o s1 : Int) (key : ByteArray) (ml ct vo : Int) (A : Option Addr) (nv cv : Nat) (gn : Bool) (tt tm tc n : Int) (w : World) (ht : Nib w) (hk : key.size ≤ 9223372036854775807) : Calls Tryz.prog 4 #[.agg #[.int .i64 o, .int .i64 s1, .string key, .int .i64 ml, .int .i64 ct, .int .i64 vo, .slice A nv cv, .bool gn, .int .i64 tt], .agg #[.int .i64 tm, .int .i64 tc], .int .i64 n] w fun e w' => e = .returned (.bool true) ∧ Below w.heap.size w w' := by
  have HNB := Lib.hid ht
  clear ht
  by_cases h1 : 12000 < nv
  · have t1 : decide ((12000 : Int) < (nv : Int)) = true := by simp; omega
    go_enter Tryz.func4, Tryz.ntmps4
    go_wp2_with fail
    go_ret
    exact ⟨rfl, by (repeat' (first | (with_reducible exact Below.refl _ _) | (with_reducible assumption) | (with_reducible refine Below.trans ?_ (Below.mono (by with_reducible assumption) ?_)) | (with_reducible refine Below.alloc ?_ ?_ _) | (with_reducible refine Below.setCell ?_ ?_ _) | (with_reducible refine below_drewN ?_ _) | (with_reducible refine Below.drew ?_) | go_size))⟩
  by_cases h2 : 12000 < key.size
  · have t1 : decide ((12000 : Int) < (nv : Int)) = false := by simp; omega
    have t2 : decide ((12000 : Int) < (key.size : Int)) = true := by simp; omega
    go_enter Tryz.func4, Tryz.ntmps4
    go_wp2_with fail
    go_ret
    exact ⟨rfl, by (repeat' (first | (with_reducible exact Below.refl _ _) | (with_reducible assumption) | (with_reducible refine Below.trans ?_ (Below.mono (by with_reducible assumption) ?_)) | (with_reducible refine Below.alloc ?_ ?_ _) | (with_reducible refine Below.setCell ?_ ?_ _) | (with_reducible refine below_drewN ?_ _) | (with_reducible refine Below.drew ?_) | go_size))⟩
  have t1 : decide ((12000 : Int) < (nv : Int)) = false := by simp; omega
  have t2 : decide ((12000 : Int) < (key.size : Int)) = false := by simp; omega
  clear h1 h2
  go_enter Tryz.func4, Tryz.ntmps4
  go_upto_region 4 with fail
  obtain ⟨V0, hV⟩ : ∃ V, ((w.alloc (.cells #[.int .i64 o, .int .i64 s1, .string key, .int .i64 ml, .int .i64 ct, .int .i64 vo, .slice A nv cv, .bool gn, .int .i64 tt] 46)).alloc (.cells #[.int .i64 tm, .int .i64 tc] 25)) = V := ⟨_, rfl⟩
  have k : Below w.heap.size w V0 := by rw [← hV]; exact ((Below.refl _ _).alloc (Nat.le_refl _) _).alloc (by simp) _
  have b1 : Bk V0 w.heap.size [.int .i64 o, .int .i64 s1, .string key, .int .i64 ml, .int .i64 ct, .int .i64 vo, .slice A nv cv, .bool gn, .int .i64 tt] := by
    rw [← hV]
    exact (Bk.new w #[.int .i64 o, .int .i64 s1, .string key, .int .i64 ml, .int .i64 ct, .int .i64 vo, .slice A nv cv, .bool gn, .int .i64 tt] 46).below ((Below.refl _ _).alloc (Nat.le_refl _) _)
  have b2 : Bk V0 (w.heap.size + 1) [.int .i64 tm, .int .i64 tc] := by
    rw [← hV]
    have := Bk.new (w.alloc (.cells #[.int .i64 o, .int .i64 s1, .string key, .int .i64 ml, .int .i64 ct, .int .i64 vo, .slice A nv cv, .bool gn, .int .i64 tt] 46)) #[.int .i64 tm, .int .i64 tc] 25
    rw [World.size_alloc] at this
    exact this
  rw [hV]
  clear hV t1 t2
  have HR0 := Lib.hid b1
  have HT0 := Lib.hid b2
  have HN0 := Lib.hid (HNB.out.below k)
  have HB0 := Lib.hid k
  clear k b1 b2 HNB
  go_upto_region 5 with (go_at_call 13; refine (nul_applied n V0).mono ?_; rintro e1 V1 ⟨rfl, k⟩)
  have HR1 := Lib.hid (HR0.out.below k)
  have HT1 := Lib.hid (HT0.out.below k)
  have HN1 := Lib.hid (HN0.out.below k)
  have HB1 := Lib.hid (HB0.out.trans (k.mono HB0.out.size))
  clear k HR0 HT0 HN0 HB0
  obtain ⟨V2, hV⟩ : ∃ V, V1.alloc (.cells #[.int .i64 0, .int .i64 0] 25) = V := ⟨_, rfl⟩
  have k : Below V1.heap.size V1 V2 := by rw [← hV]; exact (Below.refl _ _).alloc (Nat.le_refl _) _
  have HZ2 : Hid (Bk V2 V1.heap.size [.int .i64 0, .int .i64 0]) := Lib.hid (by rw [← hV]; exact Bk.new V1 #[.int .i64 0, .int .i64 0] 25)
  rw [hV]
  clear hV
  have HR2 := Lib.hid (HR1.out.below k)
  have HT2 := Lib.hid (HT1.out.below k)
  have HN2 := Lib.hid (HN1.out.below k)
  have HB2 := Lib.hid (HB1.out.trans (k.mono HB1.out.size))
  clear k HR1 HT1 HN1 HB1
  generalize V1.heap.size = zb at *
  have r2 := HR2.out.block (i := 2) rfl
  have t0 := HT2.out.block (i := 0) rfl
  have t1 := HT2.out.block (i := 1) rfl
  go_upto_region 6 with (go_at_call 14; refine (nul_get key tm tc V2).mono ?_; rintro e2 V3 ⟨rfl, k⟩)
  clear r2 t0 t1
  have HR3 := Lib.hid (HR2.out.below k)
  have HT3 := Lib.hid (HT2.out.below k)
  have HN3 := Lib.hid (HN2.out.below k)
  have HB3 := Lib.hid (HB2.out.trans (k.mono HB2.out.size))
  have HZ3 := Lib.hid (HZ2.out.below k)
  clear k HR2 HT2 HN2 HB2 HZ2
  have r2 := HR3.out.block (i := 2) rfl
  have t0 := HT3.out.block (i := 0) rfl
  have t1 := HT3.out.block (i := 1) rfl
  go_upto_region 7 with (go_at_call 15; refine (nul_scan key _ tm tc n V3).mono ?_; rintro e3 V4 ⟨rfl, k⟩)
  clear r2 t0 t1
  have HR4 := Lib.hid (HR3.out.below k)
  have HT4 := Lib.hid (HT3.out.below k)
  have HN4 := Lib.hid (HN3.out.below k)
  have HB4 := Lib.hid (HB3.out.trans (k.mono HB3.out.size))
  have HZ4 := Lib.hid (HZ3.out.below k)
  clear k HR3 HT3 HN3 HB3 HZ3
  have t0 := HT4.out.block (i := 0) rfl
  have t1 := HT4.out.block (i := 1) rfl
  go_upto_region 8 with (go_at_call 16; refine (nul_trim tm tc V4).mono ?_; rintro e4 V5 ⟨rfl, k⟩)
  clear t0 t1
  have HR5 := Lib.hid (HR4.out.below k)
  have HT5 := Lib.hid (HT4.out.below k)
  have HN5 := Lib.hid (HN4.out.below k)
  have HB5 := Lib.hid (HB4.out.trans (k.mono HB4.out.size))
  have HZ5 := Lib.hid (HZ4.out.below k)
  clear k HR4 HT4 HN4 HB4 HZ4
  go_upto_region 9 with (go_at_call 11; refine (nul_keys V5).mono ?_; rintro e5 V6 ⟨rfl, k⟩)
  have HR6 := Lib.hid (HR5.out.below k)
  have HT6 := Lib.hid (HT5.out.below k)
  have HN6 := Lib.hid (HN5.out.below k)
  have HB6 := Lib.hid (HB5.out.trans (k.mono HB5.out.size))
  have HZ6 := Lib.hid (HZ5.out.below k)
  clear k HR5 HT5 HN5 HB5 HZ5
  go_upto_region 10 with (go_at_call 12; refine (nul_age V6).mono ?_; rintro e6 V7 ⟨rfl, k⟩)
  have HR7 := Lib.hid (HR6.out.below k)
  have HT7 := Lib.hid (HT6.out.below k)
  have HN7 := Lib.hid (HN6.out.below k)
  have HB7 := Lib.hid (HB6.out.trans (k.mono HB6.out.size))
  have HZ7 := Lib.hid (HZ6.out.below k)
  clear k HR6 HT6 HN6 HB6 HZ6
  go_upto_region 11 with (go_at_call 17; refine (nul_open V7).mono ?_; rintro e7 V8 ⟨rfl, k⟩)
  have HR8 := Lib.hid (HR7.out.below k)
  have HT8 := Lib.hid (HT7.out.below k)
  have HN8 := Lib.hid (HN7.out.below k)
  have HB8 := Lib.hid (HB7.out.trans (k.mono HB7.out.size))
  have HZ8 := Lib.hid (HZ7.out.below k)
  clear k HR7 HT7 HN7 HB7 HZ7
  go_upto_region 12 with (go_at_call 18; refine (nul_forget n V8).mono ?_; rintro e8 V9 ⟨rfl, k⟩)
  have HR9 := Lib.hid (HR8.out.below k)
  have HT9 := Lib.hid (HT8.out.below k)
  have HN9 := Lib.hid (HN8.out.below k)
  have HB9 := Lib.hid (HB8.out.trans (k.mono HB8.out.size))
  have HZ9 := Lib.hid (HZ8.out.below k)
  clear k HR8 HT8 HN8 HB8 HZ8
  have z0 := HZ9.out.block (i := 0) rfl
  have z1 := HZ9.out.block (i := 1) rfl
  have r0 := HR9.out.block (i := 0) rfl
  have r1 := HR9.out.block (i := 1) rfl
  have r2 := HR9.out.block (i := 2) rfl
  have r3 := HR9.out.block (i := 3) rfl
  have r4 := HR9.out.block (i := 4) rfl
  have r5 := HR9.out.block (i := 5) rfl
  have r6 := HR9.out.block (i := 6) rfl
  have r7 := HR9.out.block (i := 7) rfl
  have r8 := HR9.out.block (i := 8) rfl
  go_wp2_with (first | (go_at_call 10; refine (nul_put _ _).mono ?_; rintro e9 V10 ⟨rfl, k⟩; have kA := ((Below.refl V9.heap.size V9).alloc (Nat.le_refl _) _).trans (k.mono (by simp)); have HN10 := Lib.hid (HN9.out.below kA); have HB10 := Lib.hid (HB9.out.trans (kA.mono HB9.out.size)); clear k kA) | (go_at_call 19; refine (nul_compact _).mono ?_; rintro e10 V11 ⟨rfl, k⟩; have HN11 := Lib.hid (HN10.out.below k); have HB11 := Lib.hid (HB10.out.trans (k.mono HB10.out.size)); clear k) | (go_at_call 20; refine (nul_mark _).mono ?_; rintro e11 V12 ⟨rfl, k⟩; have HN12 := Lib.hid (HN11.out.below k); have HB12 := Lib.hid (HB11.out.trans (k.mono HB11.out.size)); clear k) | (go_at_call 21; refine (nul_kept _).mono ?_; rintro e12 V13 ⟨rfl, k⟩; have HN13 := Lib.hid (HN12.out.below k); have HB13 := Lib.hid (HB12.out.trans (k.mono HB12.out.size)); clear k) | (go_at_call 6; refine (known16 _ HN13.out).mono ?_; rintro e13 V14 ⟨rfl, k⟩; have HB14 := Lib.hid (HB13.out.trans (k.mono HB13.out.size)); clear k))
  go_ret
  exact ⟨rfl, HB14.out⟩
end Go.Proofs.YtpflbhcgkndpcaaGreatDoor

