/- Stamps as 64 bits and back (the reference's too); the reference's digits of a number. -/
import Derived.Test.YtcmoglbmngmgnaaDoorTokOrd
import Derived.Test.YtcmoglbmngmgnaaDoorRefSum
import Derived.Test.YtcmoglbmngmgnaaDoorRef10Cmp
set_option linter.unusedSimpArgs false
set_option linter.unusedVariables false
namespace Go.Proofs.YtcmoglbmngmgnaaDoor
open Go.RowKit Go.Sort Go.Op

theorem bits_low (x : Int) (h0 : 0 ≤ x) (h1 : x < 18446744073709551616) : bits .and .u64 x 65535 = x % 65536 := by
  obtain ⟨x, rfl⟩ := Int.eq_ofNat_of_zero_le h0
  show IntKind.u64.wrap ((BitVec.ofInt 64 (x : Int) &&& BitVec.ofInt 64 (65535 : Int)).toNat : Int) = _
  have e1 : (BitVec.ofInt 64 (x : Int)).toNat = x := by rw [BitVec.ofInt_natCast, BitVec.toNat_ofNat]; exact Nat.mod_eq_of_lt (by omega)
  have e2 : (BitVec.ofInt 64 (65535 : Int)).toNat = 65535 := by decide
  have e3 : x &&& 65535 = x % 65536 := Nat.and_two_pow_sub_one_eq_mod x 16
  rw [BitVec.toNat_and, e1, e2, e3, IntWalk.u64_in _ (by omega)]
  omega
theorem hlc_unpack (x : Int) (w : World) (h0 : 0 ≤ x) (h1 : x < 18446744073709551616) : Calls Tryd.prog 23 #[.int .u64 x] w fun e w' => e = .returned (.agg #[.int .i64 (x / 65536), .int .i64 (x % 65536)]) ∧ Below w.heap.size w w' := by
  have hp := Lib.hid (bits_low x h0 h1)
  go_enter Tryd.func23, Tryd.ntmps23
  go_wp2
  refine bodyPost_ret (v := .agg #[.int .i64 (x / 65536), .int .i64 (wrap64 (bits BinOp.and IntKind.u64 x 65535))]) (by simp [results, Tryd.results23, go_sem]) rfl ⟨?_, ?_⟩
  · rw [hp.out, IntWalk.wrap64_in _ (by omega)]
  · go_light
    (repeat' (first | (with_reducible exact Below.refl _ _) | (with_reducible assumption) | (with_reducible refine Below.trans ?_ (Below.mono (by with_reducible assumption) ?_)) | (with_reducible refine Below.alloc ?_ ?_ _) | (with_reducible refine Below.setCell ?_ ?_ _) | (with_reducible refine below_drewN ?_ _) | (with_reducible refine Below.drew ?_) | go_size))
theorem ref10_pack_no (m c : Int) (w : World) (h : isStampB m c = false) : Calls Tryd.prog 19 #[.agg #[.int .i64 m, .int .i64 c]] w fun e w' => e = .returned (.tuple #[.int .u64 0, .int .i64 1]) ∧ Below w.heap.size w w' := by
  go_enter Tryd.func19, Tryd.ntmps19
  go_wp2_with (go_at_call 13; refine (ref10_is m c _).mono ?_; rintro e w1 ⟨rfl, hb1⟩; obtain ⟨hc1, hf1⟩ := bcell hb1; have hz1 := hb1.size; (try simp only [World.size_alloc, World.size_setCell, World.heap_drewN] at hb1 hc1 hf1 hz1); (try have ha01 : w.heap.size < w1.heap.size := by omega); (try have ha11 : w.heap.size + 1 < w1.heap.size := by omega); (try have ha21 : w.heap.size + 2 < w1.heap.size := by omega); (try have hal1 : w.heap.size ≤ w1.heap.size := by omega); (try have ham1 : w.heap.size < w1.heap.size + 2 := by omega))
  go_ret2
  go_light
  exact ⟨rfl, by (repeat' (first | (with_reducible exact Below.refl _ _) | (with_reducible assumption) | (with_reducible refine Below.trans ?_ (Below.mono (by with_reducible assumption) ?_)) | (with_reducible refine Below.alloc ?_ ?_ _) | (with_reducible refine Below.setCell ?_ ?_ _) | (with_reducible refine below_drewN ?_ _) | (with_reducible refine Below.drew ?_) | go_size))⟩
set_option maxHeartbeats 400000 in
theorem ref10_pack_yes (m c : Int) (w : World) (h : isStampB m c = true) : Calls Tryd.prog 19 #[.agg #[.int .i64 m, .int .i64 c]] w fun e w' => e = .returned (.tuple #[.int .u64 (m * 65536 + c), .int .i64 0]) ∧ Below w.heap.size w w' := by
  obtain ⟨m0, m1, c0, c1⟩ := stamp_bd h
  have hp := Lib.hid (bits_pack m c m0 m1 c0 c1)
  clear m0 m1 c0 c1
  go_enter Tryd.func19, Tryd.ntmps19
  go_wp2_with (go_at_call 13; refine (ref10_is m c _).mono ?_; rintro e w1 ⟨rfl, hb1⟩; obtain ⟨hc1, hf1⟩ := bcell hb1; have hz1 := hb1.size; (try simp only [World.size_alloc, World.size_setCell, World.heap_drewN] at hb1 hc1 hf1 hz1); (try have ha01 : w.heap.size < w1.heap.size := by omega); (try have ha11 : w.heap.size + 1 < w1.heap.size := by omega); (try have ha21 : w.heap.size + 2 < w1.heap.size := by omega); (try have hal1 : w.heap.size ≤ w1.heap.size := by omega); (try have ham1 : w.heap.size < w1.heap.size + 2 := by omega))
  go_ret2
  go_light
  refine ⟨?_, by (repeat' (first | (with_reducible exact Below.refl _ _) | (with_reducible assumption) | (with_reducible refine Below.trans ?_ (Below.mono (by with_reducible assumption) ?_)) | (with_reducible refine Below.alloc ?_ ?_ _) | (with_reducible refine Below.setCell ?_ ?_ _) | (with_reducible refine below_drewN ?_ _) | (with_reducible refine Below.drew ?_) | go_size))⟩
  show Ending.returned (.tuple #[.int .u64 (bits .or .u64 (IntKind.u64.wrap (IntKind.u64.wrap m * 65536)) (IntKind.u64.wrap c)), .int .i64 0]) = _
  rw [hp.out]
theorem ref10_unpack (x : Int) (w : World) (h0 : 0 ≤ x) (h1 : x < 18446744073709551616) : Calls Tryd.prog 24 #[.int .u64 x] w fun e w' => e = .returned (.agg #[.int .i64 (x / 65536), .int .i64 (x % 65536)]) ∧ Below w.heap.size w w' := by
  have hp := Lib.hid (bits_low x h0 h1)
  go_enter Tryd.func24, Tryd.ntmps24
  go_wp2
  refine bodyPost_ret (v := .agg #[.int .i64 (x / 65536), .int .i64 (wrap64 (bits BinOp.and IntKind.u64 x 65535))]) (by simp [results, Tryd.results24, go_sem]) rfl ⟨?_, ?_⟩
  · rw [hp.out, IntWalk.wrap64_in _ (by omega)]
  · go_light
    (repeat' (first | (with_reducible exact Below.refl _ _) | (with_reducible assumption) | (with_reducible refine Below.trans ?_ (Below.mono (by with_reducible assumption) ?_)) | (with_reducible refine Below.alloc ?_ ?_ _) | (with_reducible refine Below.setCell ?_ ?_ _) | (with_reducible refine below_drewN ?_ _) | (with_reducible refine Below.drew ?_) | go_size))

def digS : ByteArray := ⟨#[48, 49, 50, 51, 52, 53, 54, 55, 56, 57, 97, 98, 99, 100, 101, 102]⟩
theorem digS_at (d : Nat) (h : d < digS.size) : digS[d]'h = hdV d := by
  have : ∀ i : Fin 16, digS[i.val]'(by show i.val < 16; exact i.isLt) = hdV i.val := by decide
  exact this ⟨d, h⟩
theorem fixH_cons : ∀ (k X : Nat), fixH (k + 1) X = hdV (X / 16 ^ k % 16) :: fixH k X
  | 0, X => by simp [fixH]
  | k + 1, X => by
    have ih := fixH_cons k (X / 16)
    rw [fixH, ih, Nat.div_div_eq_div_mul, show 16 * 16 ^ k = 16 ^ (k + 1) from by rw [Nat.pow_succ, Nat.mul_comm]]
    rfl
def strO (l : List UInt8) : ByteArray := ⟨l.toArray⟩
theorem strO_cons (c : UInt8) (l : List UInt8) : (⟨#[c]⟩ : ByteArray) ++ strO l = strO (c :: l) := by
  apply ByteArray.ext
  simp [strO]
theorem hexP_fix (n U : Nat) (hn : n ≤ 15) (h : U < 16 ^ (n + 1)) : hexP (n + 1) U = strO (fixH (n + 1) U) := by
  have e := fixH_hex n 16 U h (by omega)
  unfold hexP strO
  rw [← e]
  apply ByteArray.ext
  simp
set_option maxHeartbeats 2000000 in
theorem ref_hex (X many : Nat) (w : World) (hX : X < 18446744073709551616) (hm : many ≤ 16) :
    Calls Tryd.prog 20 #[.int .u64 X, .int .i64 many] w fun e w' => e = .returned (.string (strO (fixH many X))) ∧ Below w.heap.size w w' := by
  have HB0 := Below.refl w.heap.size w
  have h0 : Hid (strO (fixH 0 X) = ⟨#[]⟩) := Lib.hid rfl
  have HX := Lib.hid hX
  have hmi : (many : Int) ≤ 16 := by omega
  clear hX
  go_enter Tryd.func20, Tryd.ntmps20
  go_wp2
  go_loopw [0, 5, 6] (fun x s i wr => ∃ k : Nat, k ≤ many ∧ i = .int .i64 k ∧ x = .int .u64 ((X / 16 ^ k : Nat) : Int) ∧ s = .string (strO (fixH k X)) ∧ Below w.heap.size w wr) (fun _ _ i _ => many - (intOf i).toNat)
  case atStart => exact ⟨0, Nat.zero_le _, rfl, by simp, by rw [h0.out], HB0⟩
  case round =>
    obtain ⟨k, hk, rfl, rfl, rfl, HB⟩ := hrel
    clear HB0
    by_cases hlt : k < many
    · have hq : X / 16 ^ k < 18446744073709551616 := Nat.lt_of_le_of_lt (Nat.div_le_self _ _) HX.out
      have hS : (strO (fixH k X)).size ≤ 16 := by
        have : (strO (fixH k X)).size = (fixH k X).length := by simp [strO, ByteArray.size]
        rw [this, fixH_len]; omega
      have HC : Hid (strO (fixH (k + 1) X) = ⟨#[hdV (X / 16 ^ k % 16)]⟩ ++ strO (fixH k X)) := Lib.hid (by rw [fixH_cons]; exact (strO_cons _ _).symm)
      have HD : Hid (X / 16 ^ (k + 1) = X / 16 ^ k / 16) := Lib.hid (by rw [Nat.pow_succ, Nat.div_div_eq_div_mul])
      generalize hSS : strO (fixH k X) = S at *
      clear hSS
      generalize hQ : X / 16 ^ k = q at *
      clear hQ
      have hqi : (q : Int) < 18446744073709551616 := by omega
      have ha := and15 q hq
      obtain ⟨d, hd⟩ : ∃ d, q % 16 = d := ⟨_, rfl⟩
      rw [hd] at ha HC
      have hd16 : d < 16 := by omega
      have hdi : (d : Int) < 16 := by omega
      have hda := digS_at d hd16
      obtain ⟨cb, hcb⟩ : ∃ cb : UInt8, hdV d = cb := ⟨_, rfl⟩
      rw [hcb] at hda HC
      unfold digS at hda
      have hcv : (convert 39 9 (.slice (some ⟨wr.heap.size, 0, none⟩) 1 1)).run Tryd.prog (wr.alloc (.cells #[.int .u8 (cb.toNat : Int)] 5)) = .ok (.string ⟨#[cb]⟩) (wr.alloc (.cells #[.int .u8 (cb.toNat : Int)] 5)) := by
        refine run_convert_bytes_back _ _ _ 5 ⟨wr.heap.size, 0, none⟩ 1 [cb] Tryd.underlying39 Tryd.underlying5 Tryd.underlying9 ?_
        intro j hj
        simp only [List.length_cons, List.length_nil] at hj
        obtain rfl : j = 0 := by omega
        show (wr.alloc _).cell? ((⟨wr.heap.size, 0, none⟩ : Addr).add 0) = _
        rw [show ((⟨wr.heap.size, 0, none⟩ : Addr).add 0) = ⟨wr.heap.size, 0, none⟩ from by unfold Addr.add; simp]
        simp
      have hq16 : (q : Int) / 16 = ((q / 16 : Nat) : Int) := rfl
      obtain ⟨q2, hq2⟩ : ∃ q2, q / 16 = q2 := ⟨_, rfl⟩
      rw [hq2] at hq16 HD
      have hb1 : ¬ 9223372036854775807 < 1 + S.size := by omega
      have lk : (k : Int) < (many : Int) := by omega
      clear hd hcb hq2
      have zr := HB.size
      go_wp2
      go_roundw
      case rel => exact ⟨k + 1, by omega, by go_num, by rw [HD.out], by rw [HC.out], by (repeat' (first | (with_reducible exact Below.refl _ _) | (with_reducible assumption) | (with_reducible refine Below.trans ?_ (Below.mono (by with_reducible assumption) ?_)) | (with_reducible refine Below.alloc ?_ ?_ _) | (with_reducible refine Below.setCell ?_ ?_ _) | (with_reducible refine below_drewN ?_ _) | (with_reducible refine Below.drew ?_) | go_size))⟩
      case measure => simp [intOf]; omega
    · obtain rfl : k = many := by omega
      go_wp2
      go_ret
      exact ⟨rfl, HB⟩
end Go.Proofs.YtcmoglbmngmgnaaDoor
