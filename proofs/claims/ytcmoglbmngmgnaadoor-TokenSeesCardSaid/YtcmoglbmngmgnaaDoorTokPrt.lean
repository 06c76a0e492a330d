/- A token's Print of a stamp; known. -/
import Derived.Test.YtcmoglbmngmgnaaDoorTokHex
import Derived.Test.YtcmoglbmngmgnaaDoorTokSum
import Derived.Test.YtcmoglbmngmgnaaDoorHlcCmp
import Derived.Lib.ConvBytes
set_option linter.unusedSimpArgs false
set_option linter.unusedVariables false
namespace Go.Proofs.YtcmoglbmngmgnaaDoor
open Go.RowKit Go.Sort

theorem bytesWorld_below (w : World) (e : TypeId) (key : ByteArray) : Below w.heap.size w (Lib.bytesWorld w e key) :=
  ⟨rfl, rfl, rfl, by rw [Lib.bytesWorld_size]; omega, fun k hk => Lib.bytesWorld_at_old w e key k hk⟩
theorem bytesWorld_cells (w : World) (e : TypeId) (key : ByteArray) (j : Nat) (q : j < key.size) : ∃ b : Int, (Lib.bytesWorld w e key).cell? ⟨w.heap.size, j, none⟩ = some (.int .u8 b) ∧ 0 ≤ b ∧ b ≤ 255 := by
  rw [Lib.bytesWorld_cell w e key j q]
  refine ⟨_, rfl, by omega, ?_⟩
  have := (key.data.toList.getD j 0).toNat_lt
  omega
/-- A token's text: the stamp's 64 bits, and a sum. -/
def tokT (X y : Nat) : ByteArray := (⟨#[109]⟩ ++ hexP 16 X) ++ ⟨#[45]⟩ ++ hexP 8 y
theorem hexP_size (n U : Nat) (h : (hexF 16 U).length ≤ n) : (hexP n U).size = n := by
  unfold hexP
  rw [ByteArray.size_append]
  show (Lib.repeatL [48] (n - (hexF 16 U).length)).toArray.size + (hexF 16 U).toArray.size = n
  rw [List.size_toArray, List.size_toArray, Lib.repeatL_length]
  simp
  omega
set_option maxRecDepth 100000 in
set_option maxHeartbeats 4000000 in
theorem tok_print (m c : Int) (X : Nat) (w : World) (ht : Tb2 w) (hs : isStampB m c = true) (hX : m * 65536 + c = (X : Int)) :
    Calls Tryd.prog 8 #[.agg #[.int .i64 m, .int .i64 c]] w fun e w' => (∃ y : Nat, e = .returned (.tuple #[.string (tokT X y), .int .i64 0]) ∧ y ≤ 4294967295) ∧ Below w.heap.size w w' := by
  obtain ⟨m0, m1, c0, c1⟩ := stamp_bd hs
  have hXb : X < 18446744073709551616 := by omega
  have HB0 : Hid (Below w.heap.size w (w.alloc (.cells #[.int .i64 m, .int .i64 c] 27))) := Lib.hid (by (repeat' (first | (with_reducible exact Below.refl _ _) | (with_reducible assumption) | (with_reducible refine Below.trans ?_ (Below.mono (by with_reducible assumption) ?_)) | (with_reducible refine Below.alloc ?_ ?_ _) | (with_reducible refine Below.setCell ?_ ?_ _) | (with_reducible refine below_drewN ?_ _) | (with_reducible refine Below.drew ?_) | go_size)))
  have HPK := Lib.hid (hlc_pack_yes m c (w.alloc (.cells #[.int .i64 m, .int .i64 c] 27)) hs)
  rw [hX] at HPK
  have p16 : (16 : Nat) ^ 16 = 18446744073709551616 := by decide
  have h16 : (hexF 16 X).length ≤ 16 := hexF_len 16 X 16 (by rw [p16]; exact hXb) (by omega)
  clear p16
  have HH := Lib.hid (fun (W : World) (k : Below w.heap.size w W) => tok_hex X 16 W (ht.below k) hXb h16 (by omega))
  have HT := Lib.hid (fun (W : World) (k : Below w.heap.size w W) => ht.below k)
  have hhs := hexP_size 16 X h16
  have HTT : Hid (∀ y, tokT X y = (⟨#[109]⟩ ++ hexP 16 X) ++ ⟨#[45]⟩ ++ hexP 8 y) := Lib.hid (fun _ => rfl)
  have hXi : (X : Int) < 18446744073709551616 := by omega
  clear ht hs hX h16 m0 m1 c0 c1
  generalize hexP 16 X = HX at *
  generalize tokT X = TT at *
  go_enter Tryd.func8, Tryd.ntmps8
  go_wp2_with fail
  refine HPK.out.mono ?_; rintro e w1 ⟨rfl, k1⟩
  have HB1 := Lib.hid (HB0.out.trans (k1.mono HB0.out.size))
  clear k1 HPK HB0
  go_wp2_with fail
  refine (HH.out w1 HB1.out).mono ?_; rintro e w2 ⟨rfl, k2⟩
  have HB2 := Lib.hid (HB1.out.trans (k2.mono HB1.out.size))
  have b1 : ¬ 9223372036854775807 < 1 + HX.size := by omega
  have b2 : ¬ 9223372036854775807 < 1 + HX.size + 1 := by omega
  have b3 : ¬ 9223372036854775807 < 1 + 16 := by omega
  clear k2 HH HB1
  have hsz : (⟨#[109]⟩ ++ HX : ByteArray).size = 17 := by rw [ByteArray.size_append, hhs]; rfl
  have hcv := Lib.run_convert_string_bytes (P := Tryd.prog) w2 9 39 5 (⟨#[109]⟩ ++ HX) Tryd.underlying9 Tryd.underlying39 Tryd.underlying5
  have k3 := bytesWorld_below w2 5 (⟨#[109]⟩ ++ HX)
  have hcl := bytesWorld_cells w2 5 (⟨#[109]⟩ ++ HX)
  have hz3 := Lib.bytesWorld_size w2 5 (⟨#[109]⟩ ++ HX)
  rw [hsz] at hcv hcl
  generalize grownCap w2 17 0 5 = cp at *
  generalize Lib.bytesWorld w2 5 (⟨#[109]⟩ ++ HX) = w3 at *
  have k4 : Below w3.heap.size w3 (w3.alloc (.cells #[.slice (some ⟨w2.heap.size, 0, none⟩) 17 cp] 39)) := (Below.refl _ _).alloc (Nat.le_refl _) _
  have HB4 := Lib.hid ((HB2.out.trans (k3.mono HB2.out.size)).trans (k4.mono (HB2.out.trans (k3.mono HB2.out.size)).size))
  have HSM := Lib.hid (sum_any w3.heap.size 1 cp w2.heap.size 17 (w3.alloc (.cells #[.slice (some ⟨w2.heap.size, 0, none⟩) 17 cp] 39)) (HT.out _ HB4.out) (by simp [go_sem]) (by omega) (fun j hj => by
    obtain ⟨b, e1, e2, e3⟩ := hcl j hj
    exact ⟨b, (k4.cell (p := ⟨w2.heap.size, j, none⟩) (by show w2.heap.size < w3.heap.size; omega)).trans e1, e2, e3⟩))
  clear k3 k4 hcl hz3 hsz HB2
  go_wp2_with fail
  refine HSM.out.mono ?_; rintro e w5 ⟨⟨y, rfl, hy⟩, rfl⟩
  have p8 : (16 : Nat) ^ 8 = 4294967296 := by decide
  have h8 : (hexF 16 y).length ≤ 8 := hexF_len 16 y 8 (by rw [p8]; omega) (by omega)
  have HH8 := Lib.hid (tok_hex y 8 _ (HT.out _ HB4.out) (by omega) h8 (by omega))
  have hh8 := hexP_size 8 y h8
  have HTY := Lib.hid (HTT.out y)
  have hw8 : IntKind.u64.wrap (y : Int) = (y : Int) := IntWalk.u64_in _ (by omega)
  have HY := Lib.hid hy
  clear p8 h8 HSM HTT hy
  generalize hexP 8 y = H8 at *
  go_wp2_with fail
  refine HH8.out.mono ?_; rintro e w6 ⟨rfl, k6⟩
  have HB6 := Lib.hid (HB4.out.trans (k6.mono HB4.out.size))
  have b4 : ¬ 9223372036854775807 < 1 + HX.size + 1 + H8.size := by omega
  have b5 : ¬ 9223372036854775807 < 1 + 16 + 1 + 8 := by omega
  clear k6 HH8
  go_wp2
  go_ret2
  exact ⟨⟨y, by rw [HTY.out]; rfl, HY.out⟩, HB6.out⟩
theorem tok_head (y : Nat) (hy : y ≤ 4294967295) : (tokT 65538 y).size = 26 ∧ (tokT 65538 y).extract 0 18 = ⟨#[109, 48, 48, 48, 48, 48, 48, 48, 48, 48, 48, 48, 49, 48, 48, 48, 50, 45]⟩ := by
  have p8 : (16 : Nat) ^ 8 = 4294967296 := by decide
  have h8 : (hexF 16 y).length ≤ 8 := hexF_len 16 y 8 (by rw [p8]; omega) (by omega)
  have z8 := hexP_size 8 y h8
  have e1 : hexF 16 65538 = [49, 48, 48, 48, 50] := by decide
  have e2 : Lib.repeatL [48] 11 = [48, 48, 48, 48, 48, 48, 48, 48, 48, 48, 48] := by decide
  have eA : ((⟨#[109]⟩ ++ hexP 16 65538) ++ ⟨#[45]⟩ : ByteArray).data.toList = [109, 48, 48, 48, 48, 48, 48, 48, 48, 48, 48, 48, 49, 48, 48, 48, 50, 45] := by
    unfold hexP
    rw [e1]
    simp [e2]
  have sA : ((⟨#[109]⟩ ++ hexP 16 65538) ++ ⟨#[45]⟩ : ByteArray).size = 18 := by rw [Lib.size_eq, eA]; rfl
  unfold tokT
  refine ⟨by rw [ByteArray.size_append, sA, z8], ?_⟩
  apply ByteArray.ext
  apply Array.toList_inj.1
  rw [Lib.extract_data, List.drop_zero, show (((⟨#[109]⟩ ++ hexP 16 65538) ++ ⟨#[45]⟩) ++ hexP 8 y : ByteArray).data.toList = ((⟨#[109]⟩ ++ hexP 16 65538) ++ ⟨#[45]⟩ : ByteArray).data.toList ++ (hexP 8 y).data.toList from by simp, eA]
  rfl
theorem tok_known (w : World) (ht : Tb2 w) : Calls Tryd.prog 10 #[] w fun e w' => e = .returned (.bool true) ∧ Below w.heap.size w w' := by
  have HP := Lib.hid (tok_print 1 2 65538 w ht (by decide) (by decide))
  clear ht
  go_enter Tryd.func10, Tryd.ntmps10
  go_wp2_with fail
  refine HP.out.mono ?_; rintro e w1 ⟨⟨y, rfl, hy⟩, k1⟩
  obtain ⟨hs, hx⟩ := tok_head y hy
  have K1 := Lib.hid k1
  have hle : 18 ≤ (tokT 65538 y).size := by omega
  clear hy k1 HP
  generalize tokT 65538 y = T at *
  go_wp2
  go_ret
  exact ⟨rfl, K1.out⟩
end Go.Proofs.YtcmoglbmngmgnaaDoor
