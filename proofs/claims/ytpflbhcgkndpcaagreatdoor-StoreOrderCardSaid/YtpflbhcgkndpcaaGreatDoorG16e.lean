/- Stage 16: a segment's name; last, gate (written by gen/wn16.py). -/
import Derived.Test.YtpflbhcgkndpcaaGreatDoorFr16
import Derived.Test.YtpflbhcgkndpcaaGreatDoorG16m
import Derived.Test.YtpflbhcgkndpcaaGreatDoorG16d
import Derived.Test.YtpflbhcgkndpcaaGreatDoorRepL
/- Stage 16: what Append asks of the log: a number's bytes, a segment's name. -/
set_option linter.unusedSimpArgs false
set_option linter.unusedVariables false
namespace Go.Proofs.YtpflbhcgkndpcaaGreatDoor
open Go.RowKit

theorem nums_1 : ([] : List Int) ++ numsE [1] = [1] := by
  unfold numsE
  simp
  unfold encN
  simp
set_option maxRecDepth 100000 in
theorem number_1 (w : World) : Calls Tryz.prog 105 #[.int .i64 1] w fun e w' => Told8 [1] w w' e ∧ Below w.heap.size w w' := by
  go_enter Tryz.func105, Tryz.ntmps105
  go_upto_region 2 with fail
  have W0 : Wr (w.alloc (.cells #[.slice none 0 0] 137)) w.heap.size (.slice none 0 0) [] := Wr.new w _
  obtain ⟨V1, hV⟩ : ∃ V, w.alloc (.cells #[.slice none 0 0] 137) = V := ⟨_, rfl⟩
  rw [hV] at W0 ⊢
  have k1 : Below w.heap.size w V1 := by rw [← hV]; exact (Below.refl _ _).alloc (Nat.le_refl _) _
  clear hV
  refine wp_region_lit ?_
  refine wpList_plain rfl (fun KK hKK => ?_)
  go_simp
  refine hKK _ _ ?_
  refine wpList_plain rfl (fun KK hKK => ?_)
  go_simp
  refine hKK _ _ ?_
  obtain ⟨V2, hV⟩ : ∃ V, V1.alloc (.cells #[.int .i64 1] 3) = V := ⟨_, rfl⟩
  have k2 : Below V1.heap.size V1 V2 := by rw [← hV]; exact (Below.refl _ _).alloc (Nat.le_refl _) _
  have c2 : V2.cell? ⟨V1.heap.size, 0, none⟩ = some (.int .i64 1) := by rw [← hV]; exact (Bk.new V1 #[.int .i64 1] 3).block (i := 0) rfl
  have z2 : V1.heap.size < V2.heap.size := by rw [← hV]; simp
  rw [hV]
  clear hV
  have HW := Lib.hid (W0.below k2)
  have HNF : Hid (¬ Foot w.heap.size (.slice none 0 0) V1.heap.size) := Lib.hid (by
    rintro (e | e)
    · have := W0.lt; omega
    · cases e)
  have HB2 := Lib.hid (k1.trans (k2.mono k1.size))
  have HC := Lib.hid c2
  clear k1 k2 c2 W0
  refine wpList_plain rfl (fun KK hKK => ?_)
  go_simp
  (go_at_call 55; refine (wr_nums w.heap.size V1.heap.size 1 (.slice none 0 0) [] [1] V2 HW.out HNF.out z2 (fun j q => by
    have : j = 0 := by simp at q; omega
    subst this
    exact HC.out) (fun x hx => by rw [List.mem_singleton.1 hx]; omega) (by simp) (by rw [nums_1]; simp)).mono ?_; rintro e1 V3 ⟨rfl, v', hpost⟩)
  refine hKK _ _ ?_
  refine wpList_nil ?_
  have HW3 : Hid (Wr V3 w.heap.size v' [1]) := Lib.hid (nums_1 ▸ hpost.wr)
  have HB3 : Hid (Below w.heap.size w V3) := Lib.hid (HB2.out.trans (hpost.but.below (fun k hk => by
    rcases hk with e | e
    · omega
    · cases e) HB2.out.size))
  clear hpost HW HNF HB2 HC z2
  go_wp2_with (go_at_call 58; refine (wr_out w.heap.size v' [1] V3 HW3.out (by simp)).mono ?_; rintro e2 V4 ⟨⟨g, cap, rfl, ho⟩, k4⟩)
  go_ret
  exact ⟨⟨g, cap, rfl, own_base HB3.out.size ho⟩, HB3.out.trans (k4.mono HB3.out.size)⟩
end Go.Proofs.YtpflbhcgkndpcaaGreatDoor

/- Stage 16: a segment's name; last, gate (written by gen/wn16.py). -/
namespace Go.Proofs.YtpflbhcgkndpcaaGreatDoor
open Go.RowKit

theorem rep_extra : Builder.Extra Tryz.prog Tryz.lays105_ren := {
  sizeBuilder := by kernel_rfl
  liesBuilder := by kernel_rfl
  t5 := Tryz.underlying5
  a5 := Tryz.lays105.a5
  z5 := Tryz.lays105.z5
  v5 := Tryz.lays105.v5
  infoByte := by kernel_rfl
  cellsByte := by kernel_rfl
  sizeByte := by kernel_rfl
  neB5 := by decide }
/-- The first segment's name. -/
def nm1 : ByteArray := ⟨#[109, 48, 46, 48, 48, 48, 48, 48, 48, 48, 49]⟩
set_option maxRecDepth 100000 in
theorem wname_1 (l : Nat) (d0 v2 v3 v4 v5 : Value) (w : World) (h : Bk w l [d0, .string ⟨#[109, 48, 46]⟩, v2, v3, v4, v5]) : Calls Tryz.prog 106 #[.pointer (some ⟨l, 0, none⟩), .int .i64 1] w fun e w' => e = .returned (.string nm1) ∧ Below w.heap.size w w' := by
  have HI := Lib.hid (fun W : World => (Any.strconv_Itoa_small Tryz.lays171 1 (by omega) W).mono (fun e w' q => (show e = .returned (.string ⟨#[49]⟩) ∧ w' = W from ⟨by rw [q.1]; kernel_rfl, q.2⟩)))
  have HRP := Lib.hid (fun W : World => (Any.strings_Repeat_main Tryz.lays105 rep_extra ⟨#[48]⟩ 7 W (by omega) (by omega) (by decide) (by decide)).mono (fun e w' q => (show e = .returned (.string ⟨#[48, 48, 48, 48, 48, 48, 48]⟩) ∧ Below W.heap.size W w' from ⟨by rw [q.1]; kernel_rfl, q.2⟩)))
  have HL := Lib.hid h
  clear h
  go_enter Tryz.func106, Tryz.ntmps106
  go_upto_region 2 with (go_at_call 74; refine (HI.out _).mono ?_; rintro e1 w1 ⟨rfl, rfl⟩)
  refine wp_region_held_drew (S := fun w' => w'.cell? ⟨l, 1, none⟩ = some (.string ⟨#[109, 48, 46]⟩)) (by kernel_rfl) ?_ (fun hHeld => ?_)
  · exact HL.out.block (i := 1) rfl
  have kd : Below w1.heap.size w1 w1.drew := (Below.refl _ _).drew
  obtain ⟨V1, hV1⟩ : ∃ V, w1.drew = V := ⟨_, rfl⟩
  rw [hV1] at kd hHeld ⊢
  clear hV1
  have HL1 := Lib.hid (HL.out.below kd)
  have HB1 := Lib.hid kd
  clear kd HL
  refine tk9 0 ?_
  refine tk9 1 ?_
  refine tk9 2 ?_
  refine tk9 3 ?_
  refine tk9 4 ?_
  refine tk9 5 ?_
  refine tk9 6 ?_
  refine tk9 7 ?_
  refine tk9 10 ?_
  refine wpAnyH_ready (rs := [8]) (by kernel_rfl) (by simp) ?_
  refine AllReadyH.cons rfl (fun K hK => ?_) (AllReadyH.nil)
  go_simp
  (go_at_call 157; refine (HRP.out _).mono ?_; rintro e1 V2 ⟨rfl, k2⟩)
  have HL2 := Lib.hid (HL1.out.below k2)
  have HB2 := Lib.hid (HB1.out.trans (k2.mono HB1.out.size))
  clear k2 HL1 HB1
  (try dsimp only)
  refine hK.out _ _ ?_ (fun hHeld => ?_)
  · exact HL2.out.block (i := 1) rfl
  clear hK K
  (try simp only [Act.put, List.setIfInBounds_toArray, List.set_cons_zero, List.set_cons_succ, List.getElem_toArray, List.getElem_cons_succ, List.getElem_cons_zero])
  refine tk9 9 ?_
  refine tk9 11 ?_
  refine tk9 12 ?_
  refine wpAnyH_done (by kernel_rfl) ?_ _
  clear hHeld
  go_wp2_with fail
  go_ret
  exact ⟨by rfl, HB2.out⟩
theorem gate_ok (w : World) : Calls Tryz.prog 84 #[.int .i64 0] w fun e w' => e = .returned (.tuple #[]) ∧ w' = w := by
  go_enter Tryz.func84, Tryz.ntmps84
  go_wp2_with fail
  go_end0
  exact ⟨rfl, rfl⟩
theorem last_none (l : Nat) (d0 v1 v3 v4 v5 : Value) (w : World) (h : Bk w l [d0, v1, .slice none 0 0, v3, v4, v5]) : Calls Tryz.prog 107 #[.pointer (some ⟨l, 0, none⟩)] w fun e w' => e = .returned (.pointer none) ∧ w' = w := by
  have c2 := h.block (i := 2) rfl
  clear h
  go_enter Tryz.func107, Tryz.ntmps107
  go_wp2_with fail
  go_ret
  exact ⟨rfl, rfl⟩
theorem last_one (l sg c : Nat) (d0 v1 v3 v4 v5 : Value) (w : World) (h : Bk w l [d0, v1, .slice (some ⟨sg, 0, none⟩) 1 c, v3, v4, v5]) : Calls Tryz.prog 107 #[.pointer (some ⟨l, 0, none⟩)] w fun e w' => e = .returned (.pointer (some ⟨sg, 0, none⟩)) ∧ Below w.heap.size w w' := by
  have c2 := h.block (i := 2) rfl
  clear h
  go_enter Tryz.func107, Tryz.ntmps107
  go_upto_region 3 with fail
  go_quiet (fail)
  go_wp2_with fail
  go_ret
  exact ⟨rfl, by (repeat' (first | (with_reducible exact Below.refl _ _) | (with_reducible assumption) | (with_reducible refine Below.trans ?_ (Below.mono (by with_reducible assumption) ?_)) | (with_reducible refine Below.alloc ?_ ?_ _) | (with_reducible refine Below.setCell ?_ ?_ _) | (with_reducible refine below_drewN ?_ _) | (with_reducible refine Below.drew ?_) | go_size))⟩
theorem sync_not (l : Nat) (d0 v1 v2 v5 : Value) (w : World) (h : Bk w l [d0, v1, v2, .slice none 0 0, .int .i64 0, v5]) : Calls Tryz.prog 108 #[.pointer (some ⟨l, 0, none⟩)] w fun e w' => e = .returned (.tuple #[]) ∧ Below w.heap.size w w' := by
  have c3 := h.block (i := 3) rfl
  have c4 := h.block (i := 4) rfl
  clear h
  go_enter Tryz.func108, Tryz.ntmps108
  go_upto_region 0 with fail
  go_quiet (fail)
  go_wp2_with fail
  go_end0
  exact ⟨rfl, by (repeat' (first | (with_reducible exact Below.refl _ _) | (with_reducible assumption) | (with_reducible refine Below.trans ?_ (Below.mono (by with_reducible assumption) ?_)) | (with_reducible refine Below.alloc ?_ ?_ _) | (with_reducible refine Below.setCell ?_ ?_ _) | (with_reducible refine below_drewN ?_ _) | (with_reducible refine Below.drew ?_) | go_size))⟩
end Go.Proofs.YtpflbhcgkndpcaaGreatDoor

