/- Stage 22: TokenSees: the law's walk. -/
import Derived.Test.YtcmoglbmngmgnaaDoorTokSee
import Derived.Test.YtcmoglbmngmgnaaDoorS22Q
set_option linter.unusedSimpArgs false
set_option linter.unusedVariables false
namespace Go.Proofs.YtcmoglbmngmgnaaDoor
open Go.RowKit Go.Sort Go.Op

theorem and255 (n : Int) : ∃ d : Nat, d ≤ 255 ∧ bits .and .i64 n 255 = (d : Int) := by
  show ∃ d : Nat, d ≤ 255 ∧ IntKind.i64.wrap ((BitVec.ofInt 64 n &&& BitVec.ofInt 64 255).toNat : Int) = (d : Int)
  have e2 : (BitVec.ofInt 64 255).toNat = 2 ^ 8 - 1 := by decide
  have h1 : (BitVec.ofInt 64 n &&& BitVec.ofInt 64 255).toNat ≤ 255 := by
    rw [BitVec.toNat_and, e2]
    exact Nat.and_le_right
  exact ⟨_, h1, IntWalk.i64_in _ (by omega)⟩
theorem xor8 (a b : Nat) (ha : a ≤ 255) (hb : b ≤ 255) : bits .xor .u8 (a : Int) (b : Int) = ((a ^^^ b : Nat) : Int) ∧ a ^^^ b ≤ 255 := by
  have h : bits .xor .u8 (a : Int) (b : Int) = IntKind.u8.wrap ((BitVec.ofInt 8 a ^^^ BitVec.ofInt 8 b).toNat : Int) := rfl
  have hl := Nat.xor_lt_two_pow (n := 8) (x := a) (y := b) (by omega) (by omega)
  have e : (2 : Nat) ^ 8 = 256 := by decide
  rw [e] at hl
  have ht : (BitVec.ofInt 8 a ^^^ BitVec.ofInt 8 b).toNat = a ^^^ b := by
    rw [BitVec.toNat_xor, BitVec.ofInt_natCast, BitVec.ofInt_natCast, BitVec.toNat_ofNat, BitVec.toNat_ofNat, Nat.mod_eq_of_lt (by omega), Nat.mod_eq_of_lt (by omega)]
  rw [h, ht, w8 _ (by omega) (by omega)]
  exact ⟨rfl, by omega⟩
theorem xor_ne {a b : Nat} (h : b ≠ 0) : a ^^^ b ≠ a := fun e => h (by
  have := xor_left_inj (k := a) (a := b) (b := 0) (by rw [e, Nat.xor_zero])
  exact this)
set_option maxRecDepth 100000 in
set_option maxHeartbeats 4000000 in
theorem sees_zero (m c at_ : Int) (w : World) (ht : Tb2 w) :
    Calls Tryd.prog 5 #[.agg #[.int .i64 m, .int .i64 c], .int .i64 at_, .int .u8 0] w fun e w' => e = .returned (.bool true) ∧ Below w.heap.size w w' := by
  have HB0 : Hid (Below w.heap.size w (w.alloc (.cells #[.int .i64 m, .int .i64 c] 23))) := Lib.hid (by (repeat' (first | (with_reducible exact Below.refl _ _) | (with_reducible assumption) | (with_reducible refine Below.trans ?_ (Below.mono (by with_reducible assumption) ?_)) | (with_reducible refine Below.alloc ?_ ?_ _) | (with_reducible refine Below.setCell ?_ ?_ _) | (with_reducible refine below_drewN ?_ _) | (with_reducible refine Below.drew ?_) | go_size)))
  have HKN := Lib.hid (tok_known _ (ht.below HB0.out))
  clear ht
  go_enter Tryd.func5, Tryd.ntmps5
  go_wp2_with fail
  refine HKN.out.mono ?_; rintro e w3 ⟨rfl, k3⟩
  have HB3 := Lib.hid (HB0.out.trans (k3.mono HB0.out.size))
  clear k3 HKN
  go_wp2
  go_ret
  exact ⟨rfl, HB3.out⟩
set_option maxRecDepth 100000 in
set_option maxHeartbeats 4000000 in
theorem sees_no (m c at_ by_ : Int) (w : World) (ht : Tb2 w) (hby : ¬ by_ = 0) (h : isStampB m c = false) :
    Calls Tryd.prog 5 #[.agg #[.int .i64 m, .int .i64 c], .int .i64 at_, .int .u8 by_] w fun e w' => e = .returned (.bool true) ∧ Below w.heap.size w w' := by
  have HT := Lib.hid (fun (W : World) (k : Below w.heap.size w W) => ht.below k)
  have HB0 : Hid (Below w.heap.size w (w.alloc (.cells #[.int .i64 m, .int .i64 c] 23))) := Lib.hid (by (repeat' (first | (with_reducible exact Below.refl _ _) | (with_reducible assumption) | (with_reducible refine Below.trans ?_ (Below.mono (by with_reducible assumption) ?_)) | (with_reducible refine Below.alloc ?_ ?_ _) | (with_reducible refine Below.setCell ?_ ?_ _) | (with_reducible refine below_drewN ?_ _) | (with_reducible refine Below.drew ?_) | go_size)))
  have HA := Lib.hid (fun W => tok_print_bad m c W h)
  have HI : Hid (∀ W, Calls Tryd.prog 13 #[.agg #[.int .i64 m, .int .i64 c]] W fun e w' => e = .returned (.bool false) ∧ Below W.heap.size W w') := Lib.hid (fun W => by have := ref10_is m c W; rwa [h] at this)
  have hb2 : (by_ == 0) = false := by simpa using hby
  clear ht h hby
  go_enter Tryd.func5, Tryd.ntmps5
  go_wp2_with fail
  refine (HA.out _).mono ?_; rintro e w1 ⟨rfl, k1⟩
  have HB1 := Lib.hid (HB0.out.trans (k1.mono HB0.out.size))
  obtain ⟨hc1, _⟩ := bcell k1
  have a0 : w1.cell? ⟨w.heap.size, 0, none⟩ = some (.int .i64 m) := by rw [hc1 _ _ (by simp)]; simp
  have a1 : w1.cell? ⟨w.heap.size, 1, none⟩ = some (.int .i64 c) := by rw [hc1 _ _ (by simp)]; simp
  clear k1 hc1 HA HB0
  go_wp2_with fail
  refine (HI.out _).mono ?_; rintro e w2 ⟨rfl, k2⟩
  have HB2 := Lib.hid (HB1.out.trans (k2.mono HB1.out.size))
  have HKN := Lib.hid (tok_known w2 (HT.out _ HB2.out))
  clear k2 HI HB1 a0 a1
  go_wp2_with fail
  refine HKN.out.mono ?_; rintro e w3 ⟨rfl, k3⟩
  have HB3 := Lib.hid (HB2.out.trans (k3.mono HB2.out.size))
  clear k3 HKN
  go_wp2
  go_ret
  exact ⟨rfl, HB3.out⟩
/-- A text's bytes in memory, one of them written over, as a text again. -/
theorem run_spoilt (w : World) (T : ByteArray) (i : Nat) (v : Nat) (hi : i < T.size) (hv : v ≤ 255) (cap : Nat) : (convert 39 9 (.slice (some ⟨w.heap.size, 0, none⟩) T.size cap)).run Tryd.prog ((Lib.bytesWorld w 5 T).setCell ⟨w.heap.size, i, none⟩ (.int .u8 (v : Int))) = .ok (.string (strO (T.data.toList.set i (UInt8.ofNat v)))) ((Lib.bytesWorld w 5 T).setCell ⟨w.heap.size, i, none⟩ (.int .u8 (v : Int))) := by
  have hl : (T.data.toList.set i (UInt8.ofNat v)).length = T.size := by rw [List.length_set, Array.length_toList]; rfl
  have h := run_convert_bytes_back (P := Tryd.prog) ((Lib.bytesWorld w 5 T).setCell ⟨w.heap.size, i, none⟩ (.int .u8 (v : Int))) 39 9 5 ⟨w.heap.size, 0, none⟩ cap (T.data.toList.set i (UInt8.ofNat v)) Tryd.underlying39 Tryd.underlying5 Tryd.underlying9 (fun j hj => by
    have hj' : j < T.size := by omega
    have hc := Lib.bytesWorld_cell w 5 T
    rw [show (Addr.mk w.heap.size 0 none).add j = ⟨w.heap.size, j, none⟩ from by rw [Go.WideShapes.add_plain, Nat.zero_add]]
    by_cases hji : j = i
    · subst hji
      rw [World.cell?_setCell_same _ _ _ (hc j hj')]
      simp only [List.getElem_set_self]
      congr 2
      rw [UInt8.toNat_ofNat']
      omega
    · rw [World.cell?_setCell_other _ _ _ _ (fun e => hji (by injection e with e1 e2; omega)), hc j hj']
      simp only [List.getElem_set_ne (fun h => hji h.symm)]
      rw [List.getD_eq_getElem?_getD, List.getElem?_eq_getElem (by rw [Array.length_toList]; exact hj')]
      rfl)
  rw [hl] at h
  exact h
set_option maxRecDepth 100000 in
set_option maxHeartbeats 4000000 in
theorem sees_yes (m c at_ : Int) (by_ : Nat) (w : World) (ht : Tb2 w) (hv : EvAt w) (hs : 1 < w.heap.size) (hby : by_ ≠ 0) (hb1 : by_ ≤ 255) (h : isStampB m c = true) :
    Calls Tryd.prog 5 #[.agg #[.int .i64 m, .int .i64 c], .int .i64 at_, .int .u8 (by_ : Int)] w fun e w' => e = .returned (.bool true) ∧ Below w.heap.size w w' := by
  have HT := Lib.hid (fun (W : World) (k : Below w.heap.size w W) => ht.below k)
  have HV := Lib.hid (fun (W : World) (k : Below w.heap.size w W) => And.intro (hv.below k hs) (Nat.lt_of_lt_of_le hs k.size))
  have HB0 : Hid (Below w.heap.size w (w.alloc (.cells #[.int .i64 m, .int .i64 c] 23))) := Lib.hid (by (repeat' (first | (with_reducible exact Below.refl _ _) | (with_reducible assumption) | (with_reducible refine Below.trans ?_ (Below.mono (by with_reducible assumption) ?_)) | (with_reducible refine Below.alloc ?_ ?_ _) | (with_reducible refine Below.setCell ?_ ?_ _) | (with_reducible refine below_drewN ?_ _) | (with_reducible refine Below.drew ?_) | go_size)))
  obtain ⟨m0, m1, c0, c1⟩ := stamp_bd h
  obtain ⟨X, hX⟩ : ∃ X : Nat, m * 65536 + c = (X : Int) := ⟨(m * 65536 + c).toNat, by omega⟩
  have HA := Lib.hid (fun (W : World) (k : Below w.heap.size w W) => tok_print_val m c X W (ht.below k) h hX)
  have hXb : X < 18446744073709551616 := by omega
  have hsz := tokT_size X (sumH X) hXb (sumH_le X)
  obtain ⟨d, hd, had⟩ := and255 at_
  have hdi : (d : Int) ≤ 255 := by omega
  obtain ⟨i, hi⟩ : ∃ i, d % 26 = i := ⟨_, rfl⟩
  have hi26 : i < 26 := by omega
  have hrem : Int.tmod (d : Int) 26 = (i : Int) := by have q9 := Int.ofNat_tmod d 26; rw [hi] at q9; exact q9.symm
  have hrem2 : (d : Int) % 26 = (i : Int) := by omega
  have hii : (i : Int) < 26 := by omega
  obtain ⟨u, hu⟩ : ∃ u, (tokT X (sumH X)).data.toList[i]? = some u := ⟨_, List.getElem?_eq_getElem (by rw [Array.length_toList]; show i < (tokT X (sumH X)).size; omega)⟩
  have hug : (tokT X (sumH X)).data.toList.getD i 0 = u := by rw [List.getD_eq_getElem?_getD, hu]; rfl
  obtain ⟨hx8, hl8⟩ := xor8 u.toNat by_ (u8_le u) hb1
  have hxn : u.toNat ^^^ by_ ≠ u.toNat := xor_ne hby
  obtain ⟨x, hx⟩ : ∃ x, u.toNat ^^^ by_ = x := ⟨_, rfl⟩
  rw [hx] at hx8 hl8 hxn
  have hno := one_other X hXb i hi26 (UInt8.ofNat x) (fun u' hu' e => by
    rw [hu] at hu'
    injection hu' with hu'
    subst hu'
    have := congrArg UInt8.toNat e
    rw [UInt8.toNat_ofNat'] at this
    omega)
  have HNO := Lib.hid (tokR_none hno)
  have HP := Lib.hid (fun (s : ByteArray) (W : World) (k : Below w.heap.size w W) => tok_parse s W (ht.below k) (HV.out W k).1 (HV.out W k).2)
  have hbyi : ((by_ : Int) == 0) = false := by simp; omega
  have HSP := Lib.hid (fun (W : World) (cap : Nat) => run_spoilt W (tokT X (sumH X)) i x (by omega) hl8 cap)
  have HCV := Lib.hid (fun (W : World) => Lib.run_convert_string_bytes (P := Tryd.prog) W 9 39 5 (tokT X (sumH X)) Tryd.underlying9 Tryd.underlying39 Tryd.underlying5)
  have HBW := Lib.hid (fun (W : World) => And.intro (bytesWorld_below W 5 (tokT X (sumH X))) (And.intro (Lib.bytesWorld_cell W 5 (tokT X (sumH X)) i (by omega)) (Lib.bytesWorld_size W 5 (tokT X (sumH X)))))
  rw [hug] at HBW
  clear ht h hv hs m0 m1 c0 c1 hX hXb hug hu hno HV hd hi hxn hx
  generalize hS : strO ((tokT X (sumH X)).data.toList.set i (UInt8.ofNat x)) = S at *
  clear hS
  have hti : ((tokT X (sumH X)).size : Int) = 26 := by omega
  generalize tokT X (sumH X) = T at *
  rw [hsz] at HSP HCV
  go_enter Tryd.func5, Tryd.ntmps5
  go_wp2_with fail
  refine (HA.out _ HB0.out).mono ?_; rintro e w1 ⟨⟨rfl, _⟩, k1⟩
  have HB1 := Lib.hid (HB0.out.trans (k1.mono HB0.out.size))
  have hcv := HCV.out w1
  obtain ⟨k2, hc2, hz2⟩ := HBW.out w1
  have hsp := HSP.out w1 (grownCap w1 26 0 5)
  have HB2 := Lib.hid (HB1.out.trans (k2.mono HB1.out.size))
  clear k1 HA HB0 HCV HBW HSP k2
  have hfz : (Lib.bytesWorld w1 5 T).frozen? ⟨w1.heap.size, i, none⟩ = false := by
    have hnew := Lib.bytesWorld_at_new w1 5 T
    have hbs : T.size ≤ (Lib.bytesCells w1 5 T).size := by unfold Lib.bytesCells; simp
    simp only [World.frozen?, hnew]
    simp
    omega
  generalize grownCap w1 26 0 5 = cp at *
  generalize Lib.bytesWorld w1 5 T = w2 at *
  have hlt : w1.heap.size < w2.heap.size := by omega
  have HB3 : Hid (Below w.heap.size w (w2.setCell ⟨w1.heap.size, i, none⟩ (.int .u8 (x : Int)))) := Lib.hid (HB2.out.setCell HB1.out.size _)
  go_wp2_with fail
  refine (HP.out S _ HB3.out).mono ?_; rintro e w3 ⟨he, k3⟩
  have he2 := he.trans HNO.out
  subst he2
  clear he
  have HB4 := Lib.hid (HB3.out.trans (k3.mono HB3.out.size))
  have HB5 : Hid (Below w.heap.size w (w3.alloc (.cells #[.int .i64 0, .int .i64 0] 27))) := Lib.hid (HB4.out.alloc HB4.out.size _)
  have HKN := Lib.hid (tok_known _ (HT.out _ HB5.out))
  clear k3 HP HB3 hsp hcv hc2 hfz
  go_wp2_with fail
  refine HKN.out.mono ?_; rintro e w4 ⟨rfl, k4⟩
  have HB6 := Lib.hid (HB5.out.trans (k4.mono HB5.out.size))
  clear k4 HKN
  go_wp2
  go_ret
  exact ⟨rfl, HB6.out⟩
end Go.Proofs.YtcmoglbmngmgnaaDoor
