/- Stage 14: known; heavy of one record. -/
import Derived.Test.YtpccneikblbhdaaRecEnc
import Derived.Test.YtpccneikblbhdaaLSame14
import Derived.Test.YtpccneikblbhdaaLaw
import Derived.Lib.SmallJoins
set_option linter.unusedSimpArgs false
set_option linter.unusedVariables false
namespace Go.Proofs.Ytpccneikblbhdaa
open Go.RowKit Go.Joins

theorem known_enc : encR ⟨1, 2, kL ⟨#[107]⟩, 3, 4, 1, [118], false, 0⟩ = [1, 2, 1, 107, 3, 4, 0, 0, 1, 118] := by
  have h : kL ⟨#[107]⟩ = [107] := by decide
  rw [h]
  unfold encR encT
  simp [encN_low, goneN]
theorem known_bytes (W : World) : ByL (W.alloc (.cells #[.int .u8 1, .int .u8 2, .int .u8 1, .int .u8 107, .int .u8 3, .int .u8 4, .int .u8 0, .int .u8 0, .int .u8 1, .int .u8 118] 5)) (some ⟨W.heap.size, 0, none⟩) [1, 2, 1, 107, 3, 4, 0, 0, 1, 118] := by
  intro _
  refine ⟨W.heap.size, 0, rfl, by simp, fun j u hu => ?_⟩
  rw [Nat.zero_add, World.cell?_alloc_new]
  simpa [bC] using hu
set_option maxRecDepth 100000 in
set_option maxHeartbeats 4000000 in
theorem known14 (w : World) : Calls Try.prog 18 #[] w fun e w' => e = .returned (.bool true) ∧ Below w.heap.size w w' := by
  have HB0 : Below w.heap.size w (w.alloc (.cells #[.int .u8 118] 5 (1, 2))) := by (repeat' (first | (with_reducible exact Below.refl _ _) | (with_reducible assumption) | (with_reducible refine Below.trans ?_ (Below.mono (by with_reducible assumption) ?_)) | (with_reducible refine Below.alloc ?_ ?_ _) | (with_reducible refine Below.setCell ?_ ?_ _) | (with_reducible refine below_drewN ?_ _) | (with_reducible refine Below.drew ?_) | go_size))
  have hb : ByL (w.alloc (.cells #[.int .u8 118] 5 (1, 2))) (some ⟨w.heap.size, 0, none⟩) [118] := by
    intro _
    refine ⟨w.heap.size, 0, rfl, by simp, fun j u hu => ?_⟩
    rw [Nat.zero_add, World.cell?_alloc_mark]
    simpa [bC] using hu
  have hcv := run_convert_bytes_const_at (P := Try.prog) w 24 5 #[.int .u8 118] 1 1 w.heap.size rfl Try.underlying24 Try.underlying5
  have HE := Lib.hid (rec_enc_yes 1 2 ⟨#[107]⟩ 3 4 1 (some ⟨w.heap.size, 0, none⟩) [118] 1 false 0 _ (by decide) hb (fun h => by cases h))
  rw [known_enc] at HE
  have HB := Lib.hid HB0
  clear hb HB0
  go_enter Try.func18, Try.ntmps18
  go_wp2_with fail
  refine HE.out.mono ?_; rintro e w1 ⟨g, cap, rfl, hown, hb1⟩
  have HB1 := Lib.hid (HB.out.trans (hb1.mono HB.out.size))
  obtain ⟨A, c, e, hby, _⟩ := Own8.bytes hown
  obtain ⟨rfl, rfl⟩ : some ⟨g, 0, none⟩ = A ∧ cap = c := by injection e with h1 h2 h3; exact ⟨h1, h3⟩
  have hk : Below w1.heap.size w1 (w1.alloc (.cells #[.int .u8 1, .int .u8 2, .int .u8 1, .int .u8 107, .int .u8 3, .int .u8 4, .int .u8 0, .int .u8 0, .int .u8 1, .int .u8 118] 5)) := (Below.refl _ _).alloc (Nat.le_refl _) _
  have HS := Lib.hid (lsame (some ⟨g, 0, none⟩) [1, 2, 1, 107, 3, 4, 0, 0, 1, 118] cap (some ⟨w1.heap.size, 0, none⟩) [1, 2, 1, 107, 3, 4, 0, 0, 1, 118] 10 _ (by simp) (by simp) (hby.below hk) (known_bytes w1))
  have HK := Lib.hid hk
  clear hown hb1 hby e HE hk
  go_wp2_with fail
  refine HS.out.mono ?_; rintro e w2 ⟨rfl, q, rfl⟩
  go_wp2
  go_ret
  exact ⟨by simp, (HB1.out.trans (HK.out.mono HB1.out.size)).trans ((drewN_below _ q).mono (by have := HB1.out.size; have := HK.out.size; omega))⟩
set_option maxRecDepth 100000 in
set_option maxHeartbeats 4000000 in
theorem heavy1 (g cc : Nat) (o s : Int) (key : ByteArray) (ml ct vo : Int) (A : Option Addr) (n c : Nat) (gone : Bool) (tt : Int) (w : World) (h : Rec9 w g o s key ml ct vo A n c gone tt) (hk : key.size ≤ 281474976710656) (hn : n ≤ 281474976710656) :
    Calls Try.prog 11 #[.slice (some ⟨g, 0, none⟩) 1 cc] w fun e w' => e = .returned (.bool (decide (6000 < 20 + key.size + n))) ∧ Below w.heap.size w w' := by
  obtain ⟨c0, c1, c2, c3, c4, c5, c6, c7, c8, lt⟩ := h
  have e1 : IntKind.i64.wrap (20 + (key.size : Int)) = 20 + (key.size : Int) := IntWalk.i64_in _ (by omega)
  have e2 : IntKind.i64.wrap (20 + (key.size : Int) + (n : Int)) = 20 + (key.size : Int) + (n : Int) := IntWalk.i64_in _ (by omega)
  by_cases hh : 6000 < 20 + key.size + n
  · have t1 : decide ((6000 : Int) < 20 + (key.size : Int) + (n : Int)) = true := by simp; omega
    have HD : Hid (decide (6000 < 20 + key.size + n) = true) := Lib.hid (by simpa using hh)
    clear hh
    go_enter Try.func11, Try.ntmps11
    go_wp2
    refine wp_loop_rounds 2 ?_
    rw [rounds_succ]
    go_wp2
    go_quiet (fail)
    go_wp2
    go_ret
    exact ⟨by rw [HD.out]; rfl, by (repeat' (first | (with_reducible exact Below.refl _ _) | (with_reducible assumption) | (with_reducible refine Below.trans ?_ (Below.mono (by with_reducible assumption) ?_)) | (with_reducible refine Below.alloc ?_ ?_ _) | (with_reducible refine Below.setCell ?_ ?_ _) | (with_reducible refine below_drewN ?_ _) | (with_reducible refine Below.drew ?_) | go_size))⟩
  · have t1 : decide ((6000 : Int) < 20 + (key.size : Int) + (n : Int)) = false := by simp; omega
    have HD : Hid (decide (6000 < 20 + key.size + n) = false) := Lib.hid (by simpa using hh)
    clear hh
    go_enter Try.func11, Try.ntmps11
    go_wp2
    refine wp_loop_rounds 2 ?_
    rw [rounds_succ]
    go_wp2
    go_quiet (fail)
    go_wp2
    rw [rounds_succ]
    go_wp2
    go_ret
    exact ⟨by rw [HD.out]; rfl, by (repeat' (first | (with_reducible exact Below.refl _ _) | (with_reducible assumption) | (with_reducible refine Below.trans ?_ (Below.mono (by with_reducible assumption) ?_)) | (with_reducible refine Below.alloc ?_ ?_ _) | (with_reducible refine Below.setCell ?_ ?_ _) | (with_reducible refine below_drewN ?_ _) | (with_reducible refine Below.drew ?_) | go_size))⟩
end Go.Proofs.Ytpccneikblbhdaa
