/- Stage 17: known: an ack and back; heavy. -/
import Derived.Test.YtlgnjjjbajfjaaaDoorWdEnc
import Derived.Test.YtlgnjjjbajfjaaaDoorWdDec
import Derived.Test.YtlgnjjjbajfjaaaDoorRecs17
import Derived.BigQuiet
set_option linter.unusedSimpArgs false
set_option linter.unusedVariables false
namespace Go.Proofs.YtlgnjjjbajfjaaaDoor
open Go.RowKit Go.Sort

abbrev ack : Wd := wdOf 2 1 5 0 0 0 0 []
theorem ack_ok : okW ack = true := by decide
theorem ack_nums : numsR 3 (some (encW ack)) = ([2, 1, 5], some []) := by
  have h := numsR_enc [2, 1, 5] [] (by intro x hx; simp at hx; omega)
  have he : encW ack = numsE [2, 1, 5] := by
    show encW (wdOf 2 1 5 0 0 0 0 []) = _
    rw [encW_nums, if_neg (by decide), if_neg (by decide), List.append_nil]
  rw [he]
  rw [List.append_nil] at h
  exact h
theorem ack_plain {l : List Int} (h : frP l = encW ack) : plainW l = ack := by
  unfold plainW
  rw [h, ack_nums]
  rfl
set_option maxRecDepth 100000 in
set_option maxHeartbeats 4000000 in
theorem known17 (w : World) (ht : Nib w) : Calls Tryd.prog 14 #[] w fun e w' => e = .returned (.bool true) ∧ Below w.heap.size w w' := by
  have HE := Lib.hid (wd_enc 2 1 5 0 0 0 0 none 0 [] w ht (rowAt_nil w) (fun m hm => by cases hm) (fun m hm => by cases hm) (by simp) ack_ok)
  have HBD := Lib.hid (encW_bd ack_ok)
  have hbk : isBy (encW ack) := encW_by (w := ack) (fun r hr => by cases hr)
  have HFB := Lib.hid (frO_back hbk (by have := HBD.out.2; omega))
  have HFY := Lib.hid (frE_by hbk)
  have HT := Lib.hid (fun (W : World) (q : Below w.heap.size w W) => ht.below q)
  have HPL := Lib.hid (ack_plain HFB.out.2)
  clear ht hbk
  go_enter Tryd.func14, Tryd.ntmps14
  go_wp2_with fail
  refine HE.out.mono ?_; rintro e w1 ⟨⟨g, cap, rfl, hr⟩, k1⟩
  have hr' : Row8 w.heap.size w1 g cap (12 + (encW ack).length) (frE (encW ack)) := hr
  have hcl := hr'.cap_le
  have HD := Lib.hid (wd_dec_plain (some ⟨g, 0, none⟩) (frE (encW ack)) cap w1 (HT.out _ k1) hr'.by_ HFY.out (by rw [hr'.len]; have := HBD.out.2; omega) (by rw [hr'.len]; exact hcl.1) hcl.2 HFB.out.1 (by rw [HFB.out.2]; exact HBD.out.2) (by rw [HFB.out.2, ack_nums]; decide) (by rw [HFB.out.2, ack_nums]; decide))
  rw [hr'.len, HFB.out.2, HPL.out, decW_enc ack_ok] at HD
  have HB1 := Lib.hid k1
  have h12 : (3 : Int) < ((12 + (encW ack).length : Nat) : Int) := by omega
  have h12' : 3 < 12 + (encW ack).length := by omega
  clear hr hr' hcl k1 HE
  obtain ⟨n, hn⟩ : ∃ n, 12 + (encW ack).length = n := ⟨_, rfl⟩
  rw [hn] at HD h12 h12' ⊢
  clear hn
  go_wp2_with fail
  refine HD.out.mono ?_; rintro e w2 ⟨hd, k2⟩
  rcases hd with ⟨h0, _⟩ | ⟨_, rfl⟩
  · cases h0
  have hb2 := HB1.out.trans (k2.mono HB1.out.size)
  have HB3 := Lib.hid (hb2.alloc hb2.size (.cells (wdC 2 1 5 0 0 0 0 (.slice none 0 0)) 26))
  have HW := Lib.hid (fun (W : World) => law_words 2 1 5 0 0 0 0 2 1 5 0 0 0 0 none none 0 0 [] [] W (rowAt_nil W) (rowAt_nil W) (fun m hm => by cases hm) (fun m hm => by cases hm) (fun m hm => by cases hm) (fun m hm => by cases hm) (by simp))
  clear k2 hb2 HD
  go_wp2_with fail
  refine (HW.out _).mono ?_; rintro e w3 ⟨⟨b, rfl, hb⟩, k3⟩
  have hbt : b = true := hb.2 trivial
  subst hbt
  have HB4 := Lib.hid (HB3.out.trans (k3.mono HB3.out.size))
  clear k3 hb HW
  go_wp2
  go_ret
  exact ⟨rfl, HB4.out⟩
end Go.Proofs.YtlgnjjjbajfjaaaDoor
