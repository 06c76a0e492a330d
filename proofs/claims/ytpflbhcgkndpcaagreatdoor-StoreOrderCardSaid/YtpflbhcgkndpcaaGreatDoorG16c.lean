/- Stage 16: the cells of the one record and of what is applied; stores of several cells. -/
import Derived.Test.YtpflbhcgkndpcaaGreatDoorG16b
import Derived.Deep.MidRow
import Derived.Deep.WholeRow
/- Stage 16: the reference's store over an empty disk (written by gen/ro16.py). -/
set_option linter.unusedSimpArgs false
set_option linter.unusedVariables false
namespace Go.Proofs.YtpflbhcgkndpcaaGreatDoor
open Go.RowKit

/-- The cells of the reference's empty disk. -/
def rdE (room : Int) : List Value := [.int .i64 room, .slice none 0 0, .int .i64 (-1)]
/-- The cells of the reference's store without keys. -/
def rsE (d : Nat) (lg : Value) : List Value := [.pointer (some ⟨d, 0, none⟩), .string ⟨#[109]⟩, .int .i64 0, lg, .int .i64 0, .slice none 0 0, .int .i64 0, .int .i64 0, .int .i64 0, .int .i64 0, .int .i64 0, .int .i64 0, .int .i64 0, .int .i64 0, .int .i64 0, .int .i64 0, .int .i64 0, .int .i64 0, .int .i64 0, .int .i64 0, .int .i64 0, .int .i64 0, .int .i64 0, .slice none 0 0, .int .i64 0, .bool false]
/-- The cells of the reference's log without entries. -/
def rlE (d : Nat) (sure : Int) : List Value := [.pointer (some ⟨d, 0, none⟩), .string ⟨#[109, 48, 46]⟩, .slice none 0 0, .slice none 0 0, .int .i64 sure, .bool false]
theorem rdisk_new (w : World) : Calls Tryz.prog 24 #[.int .i64 1048576] w fun e w' => e = .returned (.tuple #[.pointer (some ⟨w.heap.size, 0, none⟩), .int .i64 0]) ∧ w' = w.alloc (.cells (rdE 1048576).toArray 132) := by
  go_enter Tryz.func24, Tryz.ntmps24
  go_wp2
  go_ret2
  exact ⟨rfl, rfl⟩
theorem rspot_none (d : Nat) (room : Int) (n : ByteArray) (w : World) (h : Bk w d (rdE room)) : Calls Tryz.prog 188 #[.pointer (some ⟨d, 0, none⟩), .string n] w fun e w' => e = .returned (.tuple #[.int .i64 0, .bool false]) ∧ Below w.heap.size w w' := by
  have c1 := h.block (i := 1) rfl
  clear h
  go_enter Tryz.func188, Tryz.ntmps188
  go_wp2_with fail
  refine wp_loop_rounds 1 ?_
  rw [rounds_succ]
  go_upto_region 4 with fail
  go_quiet (fail)
  go_wp2_with fail
  go_ret2
  exact ⟨rfl, by (repeat' (first | (with_reducible exact Below.refl _ _) | (with_reducible assumption) | (with_reducible refine Below.trans ?_ (Below.mono (by with_reducible assumption) ?_)) | (with_reducible refine Below.alloc ?_ ?_ _) | (with_reducible refine Below.setCell ?_ ?_ _) | (with_reducible refine below_drewN ?_ _) | (with_reducible refine Below.drew ?_) | go_size))⟩
theorem rread_none (d : Nat) (room : Int) (n : ByteArray) (w : World) (h : Bk w d (rdE room)) : Calls Tryz.prog 135 #[.pointer (some ⟨d, 0, none⟩), .string n] w fun e w' => e = .returned (.tuple #[.slice none 0 0, .int .i64 7]) ∧ Below w.heap.size w w' := by
  have HB := Lib.hid (rspot_none d room n w h)
  clear h
  go_enter Tryz.func135, Tryz.ntmps135
  go_wp2_with (go_at_call 188; refine HB.out.mono ?_; rintro e1 w1 ⟨rfl, k1⟩)
  go_ret2
  exact ⟨rfl, k1⟩
theorem rnames_none (d : Nat) (room : Int) (w : World) (h : Bk w d (rdE room)) : Calls Tryz.prog 139 #[.pointer (some ⟨d, 0, none⟩)] w fun e w' => e = .returned (.slice none 0 0) ∧ w' = w := by
  have c1 := h.block (i := 1) rfl
  clear h
  go_enter Tryz.func139, Tryz.ntmps139
  go_wp2_with fail
  refine wp_loop_rounds 1 ?_
  rw [rounds_succ]
  go_wp2_with fail
  go_ret
  exact ⟨rfl, rfl⟩
theorem rnumber_none (d : Nat) (room : Int) (n : ByteArray) (w : World) (h : Bk w d (rdE room)) : Calls Tryz.prog 97 #[.pointer (some ⟨d, 0, none⟩), .string n] w fun e w' => e = .returned (.tuple #[.int .i64 0, .int .i64 0]) ∧ Below w.heap.size w w' := by
  have HB := Lib.hid (rread_none d room n w h)
  clear h
  go_enter Tryz.func97, Tryz.ntmps97
  go_wp2_with (go_at_call 135; refine HB.out.mono ?_; rintro e1 w1 ⟨rfl, k1⟩)
  go_ret2
  exact ⟨rfl, k1⟩
theorem rclear_none (d : Nat) (room : Int) (a b c : ByteArray) (w : World) (h : Bk w d (rdE room)) : Calls Tryz.prog 98 #[.pointer (some ⟨d, 0, none⟩), .string a, .string b, .string c] w fun e w' => e = .returned (.int .i64 0) ∧ w' = w := by
  have HB := Lib.hid (rnames_none d room w h)
  clear h
  go_enter Tryz.func98, Tryz.ntmps98
  go_wp2_with (go_at_call 139; refine HB.out.mono ?_; rintro e1 w1 ⟨rfl, rfl⟩)
  refine wp_loop_rounds 1 ?_
  rw [rounds_succ]
  go_wp2_with fail
  go_ret
  exact ⟨rfl, rfl⟩
set_option maxRecDepth 100000 in
theorem dec_0 (w : World) : Calls Tryz.prog 142 #[.int .i64 0] w fun e w' => e = .returned (.string ⟨#[48]⟩) ∧ Below w.heap.size w w' := by
  have hcv : (convert 42 9 (.slice (some ⟨w.heap.size, 0, none⟩) 1 1)).run Tryz.prog (w.alloc (.cells #[.int .u8 48] 5)) = .ok (.string ⟨#[48]⟩) (w.alloc (.cells #[.int .u8 48] 5)) := by
    refine run_convert_bytes_back _ _ _ 5 ⟨w.heap.size, 0, none⟩ 1 [48] Tryz.underlying42 Tryz.underlying5 Tryz.underlying9 ?_
    intro j hj
    simp only [List.length_cons, List.length_nil] at hj
    obtain rfl : j = 0 := by omega
    show (w.alloc _).cell? ((⟨w.heap.size, 0, none⟩ : Addr).add 0) = _
    simp [Addr.add]
  go_enter Tryz.func142, Tryz.ntmps142
  go_wp2_with fail
  refine wp_loop_rounds 1 ?_
  rw [rounds_succ]
  go_wp2_with fail
  go_ret
  exact ⟨by rfl, by (repeat' (first | (with_reducible exact Below.refl _ _) | (with_reducible assumption) | (with_reducible refine Below.trans ?_ (Below.mono (by with_reducible assumption) ?_)) | (with_reducible refine Below.alloc ?_ ?_ _) | (with_reducible refine Below.setCell ?_ ?_ _) | (with_reducible refine below_drewN ?_ _) | (with_reducible refine Below.drew ?_) | go_size))⟩
theorem logged_0 (w : World) : Calls Tryz.prog 99 #[.string ⟨#[109]⟩, .int .i64 0] w fun e w' => e = .returned (.string ⟨#[109, 48, 46]⟩) ∧ Below w.heap.size w w' := by
  have HD := Lib.hid (dec_0 w)
  go_enter Tryz.func99, Tryz.ntmps99
  go_wp2_with (go_at_call 142; refine HD.out.mono ?_; rintro e1 w1 ⟨rfl, k1⟩)
  go_ret
  exact ⟨by rfl, k1⟩
set_option maxRecDepth 100000 in
theorem rlog_none (d : Nat) (room : Int) (w : World) (h : Bk w d (rdE room)) : Calls Tryz.prog 100 #[.pointer (some ⟨d, 0, none⟩), .string ⟨#[109, 48, 46]⟩] w fun e w' => (∃ l, e = .returned (.tuple #[.pointer (some ⟨l, 0, none⟩), .int .i64 0]) ∧ w.heap.size ≤ l ∧ Bk w' l (rlE d 1)) ∧ Below w.heap.size w w' := by
  have HD := Lib.hid h
  clear h
  go_enter Tryz.func100, Tryz.ntmps100
  go_upto_region 5 with fail
  obtain ⟨V, hV⟩ : ∃ V, w.alloc (.cells #[.pointer (some ⟨d, 0, none⟩), .string ⟨#[109, 48, 46]⟩, .slice none 0 0, .slice none 0 0, .int .i64 0, .bool false] 185) = V := ⟨_, rfl⟩
  have bl : Bk V w.heap.size (rlE d 0) := by rw [← hV]; exact Bk.new w (rlE d 0).toArray 185
  have kb : Below w.heap.size w V := by rw [← hV]; exact (Below.refl _ _).alloc (Nat.le_refl _) _
  rw [hV]
  clear hV
  have HN := Lib.hid (rnames_none d room V (HD.out.below kb))
  have HB := Lib.hid kb
  have HL := Lib.hid bl
  have c3 := bl.block (i := 3) rfl
  have c2 := bl.block (i := 2) rfl
  have c4 := bl.block (i := 4) rfl
  have f4 := bl.fz 4
  clear kb bl HD
  go_wp2_with (go_at_call 139; refine HN.out.mono ?_; rintro e1 w1 ⟨rfl, rfl⟩)
  refine wp_loop_rounds 1 ?_
  rw [rounds_succ]
  go_wp2_with fail
  refine wp_loop_rounds 1 ?_
  rw [rounds_succ]
  go_wp2_with fail
  refine wp_loop_rounds 1 ?_
  rw [rounds_succ]
  go_wp2_with fail
  go_ret2
  exact ⟨⟨w.heap.size, rfl, Nat.le_refl _, HL.out.set 4 (by simp [rlE]) (.int .i64 1)⟩, HB.out.setCell (p := ⟨w.heap.size, 4, none⟩) (Nat.le_refl _) _⟩
set_option maxRecDepth 100000 in
set_option maxHeartbeats 4000000 in
theorem ropen_none (d : Nat) (room : Int) (w : World) (h : Bk w d (rdE room)) : Calls Tryz.prog 52 #[.pointer (some ⟨d, 0, none⟩), .string ⟨#[109]⟩, .int .i64 0] w fun e w' => (∃ x, e = .returned (.tuple #[.pointer (some ⟨x, 0, none⟩), .int .i64 0]) ∧ w.heap.size ≤ x ∧ ∃ lg, Bk w' x (rsE d lg)) ∧ Below w.heap.size w w' := by
  have HD := Lib.hid h
  clear h
  go_enter Tryz.func52, Tryz.ntmps52
  go_upto_region 4 with fail
  obtain ⟨V, hV⟩ : ∃ V, w.alloc (.cells #[.pointer (some ⟨d, 0, none⟩), .string ⟨#[109]⟩, .int .i64 0, .pointer none, .int .i64 0, .slice none 0 0, .int .i64 0, .int .i64 0, .int .i64 0, .int .i64 0, .int .i64 0, .int .i64 0, .int .i64 0, .int .i64 0, .int .i64 0, .int .i64 0, .int .i64 0, .int .i64 0, .int .i64 0, .int .i64 0, .int .i64 0, .int .i64 0, .int .i64 0, .slice none 0 0, .int .i64 0, .bool false] 84) = V := ⟨_, rfl⟩
  have bl : Bk V w.heap.size (rsE d (.pointer none)) := by rw [← hV]; exact Bk.new w (rsE d (.pointer none)).toArray 84
  have kb : Below w.heap.size w V := by rw [← hV]; exact (Below.refl _ _).alloc (Nat.le_refl _) _
  rw [hV]
  clear hV
  have HL := Lib.hid bl
  have HB := Lib.hid kb
  have HD1 := Lib.hid (HD.out.below kb)
  have HSD := Lib.hid HD.out.lt
  have HA := Lib.hid (fun n : ByteArray => rnumber_none d room n V HD1.out)
  clear bl kb HD
  generalize hx : w.heap.size = x at *
  have HX := Lib.hid hx
  clear hx
  go_upto_region 7 with (go_at_call 97; refine (HA.out _).mono ?_; rintro e1 V1 ⟨rfl, k1⟩; have HL1 := Lib.hid (HL.out.below k1); have HB1 := Lib.hid (HB.out.trans (k1.mono (HX.out ▸ HB.out.size))); have HD2 := Lib.hid (HD1.out.below k1); clear k1)
  clear HL HB HD1 HA
  have c4 := HL1.out.block (i := 4) rfl
  have f4 := HL1.out.fz 4
  go_upto_region 8 with fail
  clear c4 f4
  obtain ⟨V2, hV⟩ : ∃ V', V1.setCell ⟨x, 4, none⟩ (.int .i64 0) = V' := ⟨_, rfl⟩
  have HL2 : Hid (Bk V2 x (rsE d (.pointer none))) := Lib.hid (by rw [← hV]; exact HL1.out.set 4 (by simp [rsE]) (.int .i64 0))
  have HD3 : Hid (Bk V2 d (rdE room)) := Lib.hid (by rw [← hV]; exact HD2.out.other (p := ⟨x, 4, none⟩) (by show x ≠ d; have := HSD.out; omega) _)
  have HB2 : Hid (Below x w V2) := Lib.hid (by rw [← hV]; exact HB1.out.setCell (p := ⟨x, 4, none⟩) (Nat.le_refl _) _)
  rw [hV]
  clear hV HL1 HD2 HB1
  go_upto_region 11 with (first | (go_at_call 99; refine (logged_0 _).mono ?_; rintro e1 V3 ⟨rfl, k3⟩; have HL3 := Lib.hid (HL2.out.below k3); have HB3 := Lib.hid (HB2.out.trans (k3.mono (HX.out ▸ HB2.out.size))); have HD4 := Lib.hid (HD3.out.below k3); have HSZ := Lib.hid k3.size; clear k3) | (go_at_call 98; refine (rclear_none d room _ _ _ _ HD4.out).mono ?_; rintro e1 V3 ⟨rfl, rfl⟩))
  clear HL2 HB2 HD3
  refine wp_region_lit ?_
  refine wpList_plain rfl (fun KK hKK => ?_)
  go_simp
  refine hKK _ _ ?_
  refine wpList_plain rfl (fun KK hKK => ?_)
  go_simp
  refine hKK _ _ ?_
  refine wpList_plain rfl (fun KK hKK => ?_)
  go_simp
  refine hKK _ _ ?_
  refine wpList_plain rfl (fun KK hKK => ?_)
  go_simp
  refine hKK _ _ ?_
  refine wpList_plain rfl (fun KK hKK => ?_)
  go_simp
  (go_at_call 99; refine (logged_0 _).mono ?_; rintro e1 V4 ⟨rfl, k4⟩)
  refine hKK _ _ ?_
  have HL4 := Lib.hid (HL3.out.below k4)
  have HB4 := Lib.hid (HB3.out.trans (k4.mono (HX.out ▸ HB3.out.size)))
  have HD5 := Lib.hid (HD4.out.below k4)
  clear k4 HL3 HB3 HD4
  refine wpList_plain rfl (fun KK hKK => ?_)
  go_simp
  (go_at_call 100; refine (rlog_none d room V4 HD5.out).mono ?_; rintro e1 V5 ⟨⟨l, rfl, hle, hbl⟩, k5⟩)
  refine hKK _ _ ?_
  have HL5 := Lib.hid (HL4.out.below k5)
  have HB5 := Lib.hid (HB4.out.trans (k5.mono (HX.out ▸ HB4.out.size)))
  have HXL : Hid (x < l) := Lib.hid (by have := HL4.out.lt; omega)
  have HG := Lib.hid hbl
  clear k5 hle hbl HL4 HB4 HD5
  refine wpList_plain rfl (fun KK hKK => ?_)
  go_simp
  refine hKK _ _ ?_
  refine wpList_plain rfl (fun KK hKK => ?_)
  go_simp
  refine hKK _ _ ?_
  refine wpList_plain rfl (fun KK hKK => ?_)
  go_simp
  refine hKK _ _ ?_
  refine wpList_plain rfl (fun KK hKK => ?_)
  go_simp
  refine hKK _ _ ?_
  refine wpList_plain rfl (fun KK hKK => ?_)
  go_simp
  refine hKK _ _ ?_
  have c3 := HL5.out.block (i := 3) rfl
  have f3 := HL5.out.fz 3
  refine wpList_plain rfl (fun KK hKK => ?_)
  go_simp
  refine hKK _ _ ?_
  clear c3 f3
  refine wpList_plain rfl (fun KK hKK => ?_)
  go_simp
  refine hKK _ _ ?_
  refine wpList_nil ?_
  obtain ⟨V6, hV⟩ : ∃ V', V5.setCell ⟨x, 3, none⟩ (.pointer (some ⟨l, 0, none⟩)) = V' := ⟨_, rfl⟩
  have b6 : Bk V6 x (rsE d (.pointer (some ⟨l, 0, none⟩))) := by rw [← hV]; exact HL5.out.set 3 (by simp [rsE]) _
  have g6 : Bk V6 l (rlE d 1) := by rw [← hV]; exact HG.out.other (p := ⟨x, 3, none⟩) (by show x ≠ l; have := HXL.out; omega) _
  have HB6 : Hid (Below x w V6) := Lib.hid (by rw [← hV]; exact HB5.out.setCell (p := ⟨x, 3, none⟩) (Nat.le_refl _) _)
  rw [hV]
  clear hV HL5 HB5 HG
  have c3 := b6.block (i := 3) rfl
  have l2 := g6.block (i := 2) rfl
  have HB7 := Lib.hid b6
  clear b6 g6
  go_wp2_with fail
  refine wp_loop_rounds 1 ?_
  rw [rounds_succ]
  go_wp2_with fail
  go_ret2
  exact ⟨⟨x, rfl, by rw [HX.out]; exact Nat.le_refl _, _, HB7.out⟩, by rw [HX.out]; exact HB6.out⟩
end Go.Proofs.YtpflbhcgkndpcaaGreatDoor

/- Stage 16: the law's pair over two empty disks (written by gen/st16.py). -/
namespace Go.Proofs.YtpflbhcgkndpcaaGreatDoor
open Go.RowKit

def ptr (b : Nat) : Value := .pointer (some ⟨b, 0, none⟩)
/-- A pair whose stores are empty. -/
structure St0 (B p d s l m x rd : Nat) (w : World) : Prop where
  bp : Bk w p [ptr d, ptr s, ptr rd, ptr x]
  bs : Bk w s (stE d (ptr l) 0 m)
  bl : Bk w l (lgE d)
  bd : Bk w d (dkE 1048576)
  br : Bk w rd (rdE 1048576)
  hm : w.heap[m]? = some (.map #[] 0)
  bx : ∃ lg, Bk w x (rsE rd lg)
  ne : B ≤ d ∧ d < rd ∧ rd < p ∧ p < m ∧ m < s ∧ s < l ∧ l < x
theorem St0.below {B p d s l m x rd : Nat} {w w' : World} (h : St0 B p d s l m x rd w) (k : Below w.heap.size w w') : St0 B p d s l m x rd w' :=
  ⟨h.bp.below k, h.bs.below k, h.bl.below k, h.bd.below k, h.br.below k, map_but (S := fun _ => False) h.hm (But.of_below k) (fun q => q), h.bx.imp (fun _ q => q.below k), h.ne⟩
set_option maxRecDepth 100000 in
set_option maxHeartbeats 4000000 in
theorem opens_none (p d rd : Nat) (w : World) (hp : Bk w p [ptr d, .pointer none, ptr rd, .pointer none]) (hd : Bk w d (dkE 1048576)) (hr : Bk w rd (rdE 1048576)) (h1 : d < rd) (h2 : rd < p) : Calls Tryz.prog 25 #[.pointer (some ⟨p, 0, none⟩)] w fun e w' => e = .returned (.bool true) ∧ (∃ s l m x, St0 d p d s l m x rd w') ∧ But (fun i => i = p) w w' := by
  have HD := Lib.hid hd
  have HR := Lib.hid hr
  have HP := Lib.hid hp
  have HN := Lib.hid (And.intro h1 h2)
  have c0 := hp.block (i := 0) rfl
  have HO := Lib.hid (sopen_none d 1048576 w hd)
  unfold ptr at c0
  clear hd hr hp h1 h2
  go_enter Tryz.func25, Tryz.ntmps25
  go_upto_region 2 with (go_at_call 17; refine HO.out.mono ?_; rintro e1 V1 ⟨⟨s, l, m, rfl, hs, hl, hm, q1, q2, q3⟩, k1⟩; clear c0)
  have HP1 := Lib.hid (HP.out.below k1)
  have HD1 := Lib.hid (HD.out.below k1)
  have HR1 := Lib.hid (HR.out.below k1)
  have HS := Lib.hid (And.intro hs (And.intro hl hm))
  have HQ := Lib.hid (And.intro (Nat.lt_of_lt_of_le HP.out.lt q1) (And.intro q2 q3))
  have HB1 := Lib.hid (But.of_below (S := fun i => i = p) k1)
  clear hs hl hm q1 q2 q3 k1 HO HP HD HR
  have c2 := HP1.out.block (i := 2) rfl
  unfold ptr at c2
  have HO := Lib.hid (ropen_none rd 1048576 V1 HR1.out)
  go_upto_region 3 with (go_at_call 52; refine HO.out.mono ?_; rintro e2 V2 ⟨⟨x, rfl, q1, lg, hx⟩, k2⟩; clear c2)
  have HP2 := Lib.hid (HP1.out.below k2)
  have HD2 := Lib.hid (HD1.out.below k2)
  have HR2 := Lib.hid (HR1.out.below k2)
  have HS2 : Hid (Bk V2 s (stE d (ptr l) 0 m) ∧ Bk V2 l (lgE d) ∧ V2.heap[m]? = some (.map #[] 0)) := Lib.hid ⟨HS.out.1.below k2, HS.out.2.1.below k2, map_but (S := fun _ => False) HS.out.2.2 (But.of_below k2) (fun q => q)⟩
  have HX := Lib.hid hx
  have HLX : Hid (l < x) := Lib.hid (Nat.lt_of_lt_of_le HS.out.2.1.lt q1)
  have HB2 := Lib.hid (HB1.out.next k2)
  clear hx q1 k2 HP1 HD1 HR1 HS HB1 HO
  have c1 := HP2.out.block (i := 1) rfl
  have f1 := HP2.out.fz 1
  refine wp_region_lit ?_
  refine wpList_plain rfl (fun KK hKK => ?_)
  go_simp
  refine hKK _ _ ?_
  refine wpList_plain rfl (fun KK hKK => ?_)
  go_simp
  refine hKK _ _ ?_
  refine wpList_plain rfl (fun KK hKK => ?_)
  go_simp
  refine hKK _ _ ?_
  refine wpList_plain rfl (fun KK hKK => ?_)
  go_simp
  refine hKK _ _ ?_
  refine wpList_plain rfl (fun KK hKK => ?_)
  go_simp
  refine hKK _ _ ?_
  refine wpList_plain rfl (fun KK hKK => ?_)
  go_simp
  refine hKK _ _ ?_
  have c1 := HP2.out.block (i := 1) rfl
  have f1 := HP2.out.fz 1
  refine wpList_plain rfl (fun KK hKK => ?_)
  go_simp
  refine hKK _ _ ?_
  clear c1 f1
  obtain ⟨V3, hV⟩ : ∃ V', V2.setCell ⟨p, 1, none⟩ (.pointer (some ⟨s, 0, none⟩)) = V' := ⟨_, rfl⟩
  have b3 : Bk V3 p [ptr d, ptr s, ptr rd, .pointer none] := by rw [← hV]; exact HP2.out.set 1 (by simp) _
  have k3 : But (fun i => i = p) V2 V3 := by rw [← hV]; exact (But.refl (fun i => i = p) V2).setCell (p := ⟨p, 1, none⟩) (fun _ => rfl) _
  rw [hV]
  clear hV
  refine wpList_plain rfl (fun KK hKK => ?_)
  go_simp
  refine hKK _ _ ?_
  refine wpList_plain rfl (fun KK hKK => ?_)
  go_simp
  refine hKK _ _ ?_
  have c3 := b3.block (i := 3) rfl
  have f3 := b3.fz 3
  refine wpList_plain rfl (fun KK hKK => ?_)
  go_simp
  refine hKK _ _ ?_
  clear c3 f3
  refine wpList_nil ?_
  obtain ⟨V4, hV⟩ : ∃ V', V3.setCell ⟨p, 3, none⟩ (.pointer (some ⟨x, 0, none⟩)) = V' := ⟨_, rfl⟩
  have b4 : Bk V4 p [ptr d, ptr s, ptr rd, ptr x] := by rw [← hV]; exact b3.set 3 (by simp) _
  have k4 : But (fun i => i = p) V2 V4 := by rw [← hV]; exact k3.setCell (p := ⟨p, 3, none⟩) (fun _ => rfl) _
  rw [hV]
  clear hV
  have HF : Hid (St0 d p d s l m x rd V4) := Lib.hid ⟨b4, HS2.out.1.but k4 (by have := HQ.out; omega), HS2.out.2.1.but k4 (by have := HQ.out; omega), HD2.out.but k4 (by have := HN.out; omega), HR2.out.but k4 (by have := HN.out; omega), map_but HS2.out.2.2 k4 (by have := HQ.out; omega), ⟨lg, HX.out.but k4 (by have := HQ.out; have := HLX.out; omega)⟩, by have := HN.out; have := HQ.out; have := HLX.out; omega⟩
  have HB4 := Lib.hid (HB2.out.trans k4 (fun i _ hi => hi))
  clear b3 k3 b4 k4
  go_wp2_with fail
  go_ret
  exact ⟨by first | trivial | rfl, ⟨s, l, m, x, HF.out⟩, HB4.out⟩
set_option maxRecDepth 100000 in
set_option maxHeartbeats 4000000 in
theorem start_none (w : World) : Calls Tryz.prog 7 #[.int .i64 1048576] w fun e w' => (∃ p d s l m x rd, e = .returned (.tuple #[.pointer (some ⟨p, 0, none⟩), .bool true]) ∧ St0 w.heap.size p d s l m x rd w') ∧ Below w.heap.size w w' := by
  have HN1 := Lib.hid (disk_new w)
  go_enter Tryz.func7, Tryz.ntmps7
  go_upto_region 2 with (go_at_call 23; refine HN1.out.mono ?_; rintro e1 V1 ⟨rfl, rfl⟩)
  clear HN1
  obtain ⟨V1, hV⟩ : ∃ V, w.alloc (.cells (dkE 1048576).toArray 129) = V := ⟨_, rfl⟩
  have k1 : Below w.heap.size w V1 := by rw [← hV]; exact (Below.refl _ _).alloc (Nat.le_refl _) _
  have b1 : Bk V1 w.heap.size (dkE 1048576) := by rw [← hV]; exact Bk.new w (dkE 1048576).toArray 129
  rw [hV]
  clear hV
  have HN2 := Lib.hid (rdisk_new V1)
  go_upto_region 7 with (go_at_call 24; refine HN2.out.mono ?_; rintro e2 V2 ⟨rfl, rfl⟩)
  clear HN2
  obtain ⟨V2, hV⟩ : ∃ V, V1.alloc (.cells (rdE 1048576).toArray 132) = V := ⟨_, rfl⟩
  have k2 : Below V1.heap.size V1 V2 := by rw [← hV]; exact (Below.refl _ _).alloc (Nat.le_refl _) _
  have b2 : Bk V2 V1.heap.size (rdE 1048576) := by rw [← hV]; exact Bk.new V1 (rdE 1048576).toArray 132
  rw [hV]
  clear hV
  have l1 : w.heap.size < V1.heap.size := b1.lt
  have l2 : V1.heap.size < V2.heap.size := b2.lt
  replace b1 := b1.below k2
  replace k1 := k1.trans (k2.mono k1.size)
  clear k2
  generalize hd : w.heap.size = d at *
  have HD := Lib.hid hd
  clear hd
  generalize V1.heap.size = rd at *
  have H2 := Lib.hid (And.intro b1 (And.intro b2 (And.intro k1 (And.intro l1 l2))))
  clear b1 b2 k1 l1 l2
  go_upto_region 8 with fail
  obtain ⟨V3, hV⟩ : ∃ V, V2.alloc (.cells #[.pointer (some ⟨d, 0, none⟩), .pointer none, .pointer (some ⟨rd, 0, none⟩), .pointer none] 39) = V := ⟨_, rfl⟩
  have k3 : Below V2.heap.size V2 V3 := by rw [← hV]; exact (Below.refl _ _).alloc (Nat.le_refl _) _
  have b3 : Bk V3 V2.heap.size [ptr d, .pointer none, ptr rd, .pointer none] := by rw [← hV]; exact Bk.new V2 #[ptr d, .pointer none, ptr rd, .pointer none] 39
  rw [hV]
  clear hV
  have HO := Lib.hid (opens_none V2.heap.size d rd V3 b3 (H2.out.1.below k3) (H2.out.2.1.below k3) H2.out.2.2.2.1 H2.out.2.2.2.2)
  have HK := Lib.hid (H2.out.2.2.1.trans (k3.mono (HD.out ▸ H2.out.2.2.1.size)))
  have HLT := Lib.hid H2.out.2.2.2
  clear k3 b3 H2
  generalize V2.heap.size = p at *
  go_upto_region 9 with (go_at_call 25; refine HO.out.mono ?_; rintro e3 V4 ⟨rfl, hst, k4⟩)
  obtain ⟨s, l, m, x, hst⟩ := hst
  go_ret2
  exact ⟨⟨p, d, s, l, m, x, rd, rfl, by rw [HD.out]; exact hst⟩, by rw [HD.out]; exact HK.out.trans (k4.below (fun i hi => by have := HLT.out; omega) (HD.out ▸ HK.out.size))⟩
end Go.Proofs.YtpflbhcgkndpcaaGreatDoor

/- Stage 16: the cells of the one record and of what is applied; stores of several cells. -/
namespace Go.Proofs.YtpflbhcgkndpcaaGreatDoor
open Go.RowKit

/-- The cells of the one record. -/
def rc1 (A : Option Addr) (c : Nat) : List Value := [.int .i64 0, .int .i64 1, .string ⟨#[107]⟩, .int .i64 5, .int .i64 0, .int .i64 0, .slice A 1 c, .bool false, .int .i64 0]
/-- Fifteen zeros. -/
def zr15 : List Value := [.int .i64 0, .int .i64 0, .int .i64 0, .int .i64 0, .int .i64 0, .int .i64 0, .int .i64 0, .int .i64 0, .int .i64 0, .int .i64 0, .int .i64 0, .int .i64 0, .int .i64 0, .int .i64 0, .int .i64 0]
theorem zr_at {W : World} {s d : Nat} {lg : Value} {en : Int} {m : Nat} (h : Bk W s (stE d lg en m)) : W.rangeAt s 10 zr15 := fun j u hu => by
  have hj : j < 15 := (List.getElem?_eq_some_iff.1 hu).1
  refine h.c (10 + j) u ?_
  have e1 : (stE d lg en m)[10 + j]? = ((stE d lg en m).drop 10)[j]? := by rw [List.getElem?_drop]
  have e2 : ((stE d lg en m).drop 10) = zr15 ++ [.slice none 0 0, .bool false] := rfl
  rw [e1, e2, List.getElem?_append_left hj]
  exact hu
theorem ap_there {W : World} {b : Nat} {v0 v1 v2 : Value} {r : List Value} (h : Bk W b (v0 :: v1 :: v2 :: r)) : W.there b 0 3 := fun j hj => ⟨by
  rw [Nat.zero_add]
  match j, hj with
  | 0, _ => rw [h.block (i := 0) rfl]; rfl
  | 1, _ => rw [h.block (i := 1) rfl]; rfl
  | 2, _ => rw [h.block (i := 2) rfl]; rfl, h.fz _⟩
theorem rec_size : (Tryz.prog.info? 46).map (·.size) = some 9 := by kernel_rfl
theorem ap_size : (Tryz.prog.info? 90).map (·.size) = some 15 := by kernel_rfl
theorem last_size : (Tryz.prog.info? 89).map (·.size) = some 3 := by kernel_rfl
theorem below_sets (B b : Nat) (hb : B ≤ b) (w : World) : ∀ (vs : List Value) (o : Nat) (w' : World), Below B w w' → Below B w (w'.setCells b o vs)
  | [], _, _, h => h
  | v :: r, o, w', h => by
    rw [World.setCells]
    exact below_sets B b hb w r (o + 1) _ (h.setCell (p := ⟨b, o, none⟩) hb v)
theorem range16 (w : World) (C : List Value) (t : TypeId) : (w.alloc (.cells C.toArray t)).rangeAt w.heap.size 0 C := fun j u hu => by
  have hj : j < C.length := (List.getElem?_eq_some_iff.1 hu).1
  have : C[j] = u := (List.getElem?_eq_some_iff.1 hu).2
  simp [hj, this]
theorem rng_below {w w' : World} {b o : Nat} {cs : List Value} (h : w.rangeAt b o cs) (k : Below w.heap.size w w') (hb : b < w.heap.size) : w'.rangeAt b o cs := fun j u hu => (k.cell (p := ⟨b, o + j, none⟩) hb).trans (h j u hu)
set_option maxRecDepth 100000 in
theorem wpList_store_new16 {ops : Array Oper} {rest : List Oper} {op : Oper} {a : Go.Act} {w : World} {Q : Exit → Go.Act → World → Prop} (hgd : op.guard = none) (ty : TypeId) (x y : Operand) (ho : op.op = .store ty x y)
    (c c' : Array Value) (hx : a.eval x = .pointer (some ⟨w.heap.size, 0, none⟩)) (hy : a.eval y = .agg c') (hi : (Tryz.prog.info? ty).map (·.size) = some c'.size) (hs : c.size = c'.size) (h1 : c'.all (·.oneCell') = true)
    (h : wpList Tryz.prog ops Q rest (a.put op.dst undef) (w.alloc (.cells c' ty))) : wpList Tryz.prog ops Q (op :: rest) a (w.alloc (.cells c ty)) :=
  wpList_plain hgd fun _ hK => by
    unfold Oper.wp execOp
    simp only [ho, hx, hy, Instr.storeAt, Instr.sureAddr, Sem.run_bind, Sem.run_pure, Result.andThen_ok, Go.run_storeVar_new w ty c c' hi hs h1]
    exact hK _ _ h
end Go.Proofs.YtpflbhcgkndpcaaGreatDoor

