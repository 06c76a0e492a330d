/- The reference's lay. -/
import Derived.Test.YtfllemmmgmdliaaPkZeros
set_option linter.unusedSimpArgs false
set_option linter.unusedVariables false
namespace Go.Proofs.Ytfllemmmgmdliaa
open Go.RowKit

set_option maxHeartbeats 4000000 in
theorem ref6_lay (base n k : Nat) (f : Nat → Int) (x : Int) (v : Value) (w : World) (h : BOwn base w v n f) (hb : base ≤ w.heap.size) (hn : n ≤ 1000) (hk : k ≤ 8) (x0 : 0 ≤ x) (x1 : x < 18446744073709551616) :
    Calls Try.prog 18 #[v, .int .u64 x, .int .i64 k] w fun e w' => ∃ v', e = .returned v' ∧ BOwn base w' v' (n + k) (layF f n k x) ∧ Below base w w' := by
  obtain ⟨i0, hi, hz0, hz1, hz2⟩ := info_parts u8_info
  have H0 := Lib.hid (h.congr (f' := layF f n k x) (fun j hj => by unfold layF; rw [if_neg (by omega)]))
  have hk' : (k : Int) ≤ 8 := by omega
  clear h
  go_enter Try.func18, Try.ntmps18
  go_wp2
  go_loopw [0, 7] (fun u i wr => ∃ q : Nat, q ≤ k ∧ i = .int .i64 ((k : Int) - 1 - (q : Int)) ∧ BOwn base wr u (n + q) (layF f n k x) ∧ Below base w wr) (fun _ i _ => (intOf i + 1).toNat)
  case atStart => exact ⟨0, Nat.zero_le _, by simp, H0.out, Below.refl _ _⟩
  case round =>
    obtain ⟨q, hq, rfl, hB, hbl⟩ := hrel
    clear H0
    have zr := hbl.size
    by_cases hlt : q < k
    · have hbyte : layF f n k x (n + q) = x / 256 ^ (k - 1 - q) % 256 := by unfold layF; rw [if_pos (by omega), show n + k - 1 - (n + q) = k - 1 - q from by omega]
      have HBY := Lib.hid hbyte
      have hi0 : (k : Int) - 1 - (q : Int) = ((k - 1 - q : Nat) : Int) := by omega
      have hi8 : k - 1 - q ≤ 7 := by omega
      have HO := Lib.hid hB
      rw [hi0]
      clear hbyte hi0 hB
      generalize hii : k - 1 - q = ii at *
      have HII := Lib.hid hii
      clear hii
      have hl0 : base ≤ wr.heap.size := by omega
      rcases (show ii = 0 ∨ ii = 1 ∨ ii = 2 ∨ ii = 3 ∨ ii = 4 ∨ ii = 5 ∨ ii = 6 ∨ ii = 7 from by omega) with rfl | rfl | rfl | rfl | rfl | rfl | rfl | rfl
      · go_wp2_with (at_builtin; refine wpList_append_own _ rfl (.tmp 14) (.tmp 21) _ rfl base 5 i0 _ 1 1 Try.underlying25 hi hz0 hz1 hz2 rfl (by decide) u0 (n + q) _ rfl (World.ownsRow.alloc HO.out _) ⟨wr.heap.size, 0, none⟩ 1 1 [.int .u8 (x % 256)] rfl rfl (World.news_of_block (cs := #[.int .u8 (x % 256)]) (t := 5) (fr := (0, 0)) (heap_alloc_new wr _)) (by simp [Value.oneCell']) (by unfold maxLen; omega) (by omega) (by simp; omega) ?_; intro v1 w1 hown1 hg1 hat1)
        have hP1 : BOwn base w1 v1 (n + (q + 1)) (layF f n k x) := by
          unfold BOwn
          rw [← Nat.add_assoc, bytesC_succ, HBY.out]
          simpa using hown1
        have HP1 := Lib.hid hP1
        have HB1 : Below base w w1 := (hbl.alloc hl0 _).grown hg1 (by simp; omega) (fun b hb' => (World.ownsRow.lt HO.out b hb').1)
        have HE := HII.out
        clear hP1 hown1 hg1 hat1
        go_wp2
        go_roundw
        case rel => exact ⟨q + 1, by omega, by first | go_num | (congr 1; omega), HP1.out, HB1⟩
        case measure => first | (simp [intOf]; done) | (simp [intOf]; omega)
      · go_wp2_with (at_builtin; refine wpList_append_own _ rfl (.tmp 14) (.tmp 21) _ rfl base 5 i0 _ 1 1 Try.underlying25 hi hz0 hz1 hz2 rfl (by decide) u0 (n + q) _ rfl (World.ownsRow.alloc HO.out _) ⟨wr.heap.size, 0, none⟩ 1 1 [.int .u8 (x / 256 % 256)] rfl rfl (World.news_of_block (cs := #[.int .u8 (x / 256 % 256)]) (t := 5) (fr := (0, 0)) (heap_alloc_new wr _)) (by simp [Value.oneCell']) (by unfold maxLen; omega) (by omega) (by simp; omega) ?_; intro v1 w1 hown1 hg1 hat1)
        have hP1 : BOwn base w1 v1 (n + (q + 1)) (layF f n k x) := by
          unfold BOwn
          rw [← Nat.add_assoc, bytesC_succ, HBY.out]
          simpa using hown1
        have HP1 := Lib.hid hP1
        have HB1 : Below base w w1 := (hbl.alloc hl0 _).grown hg1 (by simp; omega) (fun b hb' => (World.ownsRow.lt HO.out b hb').1)
        have HE := HII.out
        clear hP1 hown1 hg1 hat1
        go_wp2
        go_roundw
        case rel => exact ⟨q + 1, by omega, by first | go_num | (congr 1; omega), HP1.out, HB1⟩
        case measure => first | (simp [intOf]; done) | (simp [intOf]; omega)
      · go_wp2_with (at_builtin; refine wpList_append_own _ rfl (.tmp 14) (.tmp 21) _ rfl base 5 i0 _ 1 1 Try.underlying25 hi hz0 hz1 hz2 rfl (by decide) u0 (n + q) _ rfl (World.ownsRow.alloc HO.out _) ⟨wr.heap.size, 0, none⟩ 1 1 [.int .u8 (x / 65536 % 256)] rfl rfl (World.news_of_block (cs := #[.int .u8 (x / 65536 % 256)]) (t := 5) (fr := (0, 0)) (heap_alloc_new wr _)) (by simp [Value.oneCell']) (by unfold maxLen; omega) (by omega) (by simp; omega) ?_; intro v1 w1 hown1 hg1 hat1)
        have hP1 : BOwn base w1 v1 (n + (q + 1)) (layF f n k x) := by
          unfold BOwn
          rw [← Nat.add_assoc, bytesC_succ, HBY.out]
          simpa using hown1
        have HP1 := Lib.hid hP1
        have HB1 : Below base w w1 := (hbl.alloc hl0 _).grown hg1 (by simp; omega) (fun b hb' => (World.ownsRow.lt HO.out b hb').1)
        have HE := HII.out
        clear hP1 hown1 hg1 hat1
        go_wp2
        go_roundw
        case rel => exact ⟨q + 1, by omega, by first | go_num | (congr 1; omega), HP1.out, HB1⟩
        case measure => first | (simp [intOf]; done) | (simp [intOf]; omega)
      · go_wp2_with (at_builtin; refine wpList_append_own _ rfl (.tmp 14) (.tmp 21) _ rfl base 5 i0 _ 1 1 Try.underlying25 hi hz0 hz1 hz2 rfl (by decide) u0 (n + q) _ rfl (World.ownsRow.alloc HO.out _) ⟨wr.heap.size, 0, none⟩ 1 1 [.int .u8 (x / 16777216 % 256)] rfl rfl (World.news_of_block (cs := #[.int .u8 (x / 16777216 % 256)]) (t := 5) (fr := (0, 0)) (heap_alloc_new wr _)) (by simp [Value.oneCell']) (by unfold maxLen; omega) (by omega) (by simp; omega) ?_; intro v1 w1 hown1 hg1 hat1)
        have hP1 : BOwn base w1 v1 (n + (q + 1)) (layF f n k x) := by
          unfold BOwn
          rw [← Nat.add_assoc, bytesC_succ, HBY.out]
          simpa using hown1
        have HP1 := Lib.hid hP1
        have HB1 : Below base w w1 := (hbl.alloc hl0 _).grown hg1 (by simp; omega) (fun b hb' => (World.ownsRow.lt HO.out b hb').1)
        have HE := HII.out
        clear hP1 hown1 hg1 hat1
        go_wp2
        go_roundw
        case rel => exact ⟨q + 1, by omega, by first | go_num | (congr 1; omega), HP1.out, HB1⟩
        case measure => first | (simp [intOf]; done) | (simp [intOf]; omega)
      · go_wp2_with (at_builtin; refine wpList_append_own _ rfl (.tmp 14) (.tmp 21) _ rfl base 5 i0 _ 1 1 Try.underlying25 hi hz0 hz1 hz2 rfl (by decide) u0 (n + q) _ rfl (World.ownsRow.alloc HO.out _) ⟨wr.heap.size, 0, none⟩ 1 1 [.int .u8 (x / 4294967296 % 256)] rfl rfl (World.news_of_block (cs := #[.int .u8 (x / 4294967296 % 256)]) (t := 5) (fr := (0, 0)) (heap_alloc_new wr _)) (by simp [Value.oneCell']) (by unfold maxLen; omega) (by omega) (by simp; omega) ?_; intro v1 w1 hown1 hg1 hat1)
        have hP1 : BOwn base w1 v1 (n + (q + 1)) (layF f n k x) := by
          unfold BOwn
          rw [← Nat.add_assoc, bytesC_succ, HBY.out]
          simpa using hown1
        have HP1 := Lib.hid hP1
        have HB1 : Below base w w1 := (hbl.alloc hl0 _).grown hg1 (by simp; omega) (fun b hb' => (World.ownsRow.lt HO.out b hb').1)
        have HE := HII.out
        clear hP1 hown1 hg1 hat1
        go_wp2
        go_roundw
        case rel => exact ⟨q + 1, by omega, by first | go_num | (congr 1; omega), HP1.out, HB1⟩
        case measure => first | (simp [intOf]; done) | (simp [intOf]; omega)
      · go_wp2_with (at_builtin; refine wpList_append_own _ rfl (.tmp 14) (.tmp 21) _ rfl base 5 i0 _ 1 1 Try.underlying25 hi hz0 hz1 hz2 rfl (by decide) u0 (n + q) _ rfl (World.ownsRow.alloc HO.out _) ⟨wr.heap.size, 0, none⟩ 1 1 [.int .u8 (x / 1099511627776 % 256)] rfl rfl (World.news_of_block (cs := #[.int .u8 (x / 1099511627776 % 256)]) (t := 5) (fr := (0, 0)) (heap_alloc_new wr _)) (by simp [Value.oneCell']) (by unfold maxLen; omega) (by omega) (by simp; omega) ?_; intro v1 w1 hown1 hg1 hat1)
        have hP1 : BOwn base w1 v1 (n + (q + 1)) (layF f n k x) := by
          unfold BOwn
          rw [← Nat.add_assoc, bytesC_succ, HBY.out]
          simpa using hown1
        have HP1 := Lib.hid hP1
        have HB1 : Below base w w1 := (hbl.alloc hl0 _).grown hg1 (by simp; omega) (fun b hb' => (World.ownsRow.lt HO.out b hb').1)
        have HE := HII.out
        clear hP1 hown1 hg1 hat1
        go_wp2
        go_roundw
        case rel => exact ⟨q + 1, by omega, by first | go_num | (congr 1; omega), HP1.out, HB1⟩
        case measure => first | (simp [intOf]; done) | (simp [intOf]; omega)
      · go_wp2_with (at_builtin; refine wpList_append_own _ rfl (.tmp 14) (.tmp 21) _ rfl base 5 i0 _ 1 1 Try.underlying25 hi hz0 hz1 hz2 rfl (by decide) u0 (n + q) _ rfl (World.ownsRow.alloc HO.out _) ⟨wr.heap.size, 0, none⟩ 1 1 [.int .u8 (x / 281474976710656 % 256)] rfl rfl (World.news_of_block (cs := #[.int .u8 (x / 281474976710656 % 256)]) (t := 5) (fr := (0, 0)) (heap_alloc_new wr _)) (by simp [Value.oneCell']) (by unfold maxLen; omega) (by omega) (by simp; omega) ?_; intro v1 w1 hown1 hg1 hat1)
        have hP1 : BOwn base w1 v1 (n + (q + 1)) (layF f n k x) := by
          unfold BOwn
          rw [← Nat.add_assoc, bytesC_succ, HBY.out]
          simpa using hown1
        have HP1 := Lib.hid hP1
        have HB1 : Below base w w1 := (hbl.alloc hl0 _).grown hg1 (by simp; omega) (fun b hb' => (World.ownsRow.lt HO.out b hb').1)
        have HE := HII.out
        clear hP1 hown1 hg1 hat1
        go_wp2
        go_roundw
        case rel => exact ⟨q + 1, by omega, by first | go_num | (congr 1; omega), HP1.out, HB1⟩
        case measure => first | (simp [intOf]; done) | (simp [intOf]; omega)
      · go_wp2_with (at_builtin; refine wpList_append_own _ rfl (.tmp 14) (.tmp 21) _ rfl base 5 i0 _ 1 1 Try.underlying25 hi hz0 hz1 hz2 rfl (by decide) u0 (n + q) _ rfl (World.ownsRow.alloc HO.out _) ⟨wr.heap.size, 0, none⟩ 1 1 [.int .u8 (x / 72057594037927936)] rfl rfl (World.news_of_block (cs := #[.int .u8 (x / 72057594037927936)]) (t := 5) (fr := (0, 0)) (heap_alloc_new wr _)) (by simp [Value.oneCell']) (by unfold maxLen; omega) (by omega) (by simp; omega) ?_; intro v1 w1 hown1 hg1 hat1)
        have hP1 : BOwn base w1 v1 (n + (q + 1)) (layF f n k x) := by
          unfold BOwn
          rw [← Nat.add_assoc, bytesC_succ, HBY.out, show x / 256 ^ 7 % 256 = x / 72057594037927936 from by rw [show (256 : Int) ^ 7 = 72057594037927936 from rfl]; omega]
          simpa using hown1
        have HP1 := Lib.hid hP1
        have HB1 : Below base w w1 := (hbl.alloc hl0 _).grown hg1 (by simp; omega) (fun b hb' => (World.ownsRow.lt HO.out b hb').1)
        have HE := HII.out
        clear hP1 hown1 hg1 hat1
        go_wp2
        go_roundw
        case rel => exact ⟨q + 1, by omega, by first | go_num | (congr 1; omega), HP1.out, HB1⟩
        case measure => first | (simp [intOf]; done) | (simp [intOf]; omega)
    · obtain rfl : q = k := by omega
      have HB := Lib.hid hB
      clear hB
      have e0 : ((q : Int) - 1 - (q : Int)) = -1 := by omega
      rw [e0]
      go_wp2
      go_ret
      exact ⟨u0, rfl, HB.out, hbl⟩
end Go.Proofs.Ytfllemmmgmdliaa
