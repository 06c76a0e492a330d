/- lease.Leases with any number of leases: Close of any numbers. -/
import Derived.Test.YtacchkokbibeaaaLsDel
import Derived.Test.YtacchkokbibeaaaLsMath
set_option linter.unusedSimpArgs false
set_option linter.unusedVariables false
namespace Go.Proofs.Ytacchkokbibeaaa
open Go.RowKit

/-- Behind a delete: the row in the block of before. -/
theorem Ls.delRow {w w2 : World} {b g c : Nat} {L : List Le} {nx : Int} (h : Ls w b (.slice (some ⟨g, 0, none⟩) L.length c) L nx) (ho : Only g w w2) (M : List Le) (hr : w2.ownsRow 0 65 4 (.slice (some ⟨g, 0, none⟩) M.length c) M.length (flat M)) :
    Ls (w2.setCell ⟨b, 0, none⟩ (.slice (some ⟨g, 0, none⟩) M.length c)) b (.slice (some ⟨g, 0, none⟩) M.length c) M nx := by
  have hne : b ≠ g := fun e => h.ne (by simp [Value.ownBlock, e])
  have c0 := (ho.cell b 0 h.lt hne).trans h.c0
  have c1 := (ho.cell b 1 h.lt hne).trans h.c1
  have f0 := (ho.frozen b 0 h.lt hne).trans h.f0
  have f1 := (ho.frozen b 1 h.lt hne).trans h.f1
  refine ⟨World.cell?_setCell_same _ _ _ c0, (World.cell?_setCell_other _ _ _ _ (by simp)).trans c1, by simpa using f0, by simpa using f1, by simpa [World.setCell] using Nat.lt_of_lt_of_le h.lt ho.size, ?_, by simp [Value.ownBlock]; omega⟩
  exact (But.of_only (S := fun k => k = b) ((Only.refl b w2).setB _) rfl).row hr (fun i hi hb => by simp [Value.ownBlock] at hi; omega)
def CloseRel (b : Nat) (v : Value) (L : List Le) (nx : Int) (ids : List Int) (w w' : World) : Prop := ∃ v', Ls w' b v' (closeL L ids) nx ∧ But (Foot b v) w w' ∧ v'.ownBlock = v.ownBlock
set_option maxRecDepth 100000 in
set_option maxHeartbeats 4000000 in
theorem ls_close (b B cb : Nat) (v : Value) (L : List Le) (nx : Int) (ids : List Int) (w : World) (h : Ls w b v L nx) (hr : Rise L) (hl : L.length ≤ 1000) (hi : ids.length ≤ 1000) (hc : ∀ j i, ids[j]? = some i → w.cell? ⟨B, j, none⟩ = some (.int .i64 i)) (hB : ¬ Foot b v B) (lB : B < w.heap.size) :
    Calls Try.prog 15 #[.pointer (some ⟨b, 0, none⟩), .slice (some ⟨B, 0, none⟩) ids.length cb] w fun e w' => e = .returned (.int .i64 ((L.length : Int) - ((closeL L ids).length : Int))) ∧ CloseRel b v L nx ids w w' := by
  have hft : closeL L (ids.take ids.length) = closeL L ids := by rw [List.take_length]
  have HFT := Lib.hid hft
  have HC := Lib.hid hc
  have HH := Lib.hid h
  have HR := Lib.hid hr
  have HL := Lib.hid hl
  have h0 : Hid (CloseRel b v L nx (ids.take 0) w w) := ⟨v, h, But.refl _ _, rfl⟩
  generalize hn : ids.length = n at *
  have HN := Lib.hid hn
  clear h hr hl hc hft hn
  go_enter Try.func15, Try.ntmps15
  go_wp2
  go_loopw [5, 14] (fun s i wr => ∃ k : Nat, k ≤ n ∧ i = .int .i64 k ∧ s = .int .i64 ((L.length : Int) - ((closeL L (ids.take k)).length : Int)) ∧ CloseRel b v L nx (ids.take k) w wr) (fun _ i _ => n - (intOf i).toNat)
  case atStart => exact ⟨0, Nat.zero_le _, rfl, by simp [closeL], h0.out⟩
  case round =>
    obtain ⟨k, hk, rfl, rfl, v', H', hbt, hvo⟩ := hrel
    clear h0
    have HBT := Lib.hid hbt
    have HVO := Lib.hid hvo
    have hlen := (closeL_sub (ids.take k) L).length_le
    by_cases hlt : k < n
    · obtain ⟨id, hid⟩ : ∃ id, ids[k]? = some id := ⟨ids[k]'(by rw [HN.out]; exact hlt), List.getElem?_eq_getElem _⟩
      have ci := (hbt.cell B k lB hB).trans (HC.out k id hid)
      have htk : ids.take (k + 1) = ids.take k ++ [id] := by
        have hkk : k < ids.length := by rw [HN.out]; exact hlt
        rw [List.take_succ_eq_append_getElem hkk]
        rw [List.getElem?_eq_getElem hkk] at hid
        injection hid with hid
        rw [hid]
      have hcs : closeL L (ids.take (k + 1)) = rm (closeL L (ids.take k)) id := by rw [htk, closeL_snoc]
      have HCS := Lib.hid hcs
      have hrise := HR.out.sub (closeL_sub (ids.take k) L)
      obtain ⟨at', bb, hfa⟩ := find_ex hrise id
      have HRI := Lib.hid hrise
      have HFA := Lib.hid hfa
      have hl1 : (closeL L (ids.take k)).length ≤ 1000 := by have := HL.out; omega
      have HF := Lib.hid (ls_find b v' _ nx id at' bb wr H' hl1 hfa)
      have HS := Lib.hid H'
      clear hid htk hcs hrise hfa H' hbt hvo
      generalize hM : closeL L (ids.take k) = M at *
      clear hM
      cases bb with
      | false =>
        have hrn := rm_none (find_none HFA.out HRI.out)
        have HE : Hid (closeL L (ids.take (k + 1)) = M) := HCS.out.trans hrn
        clear hrn
        go_wp2_with fail
        refine HF.out.mono ?_; rintro e w1 ⟨rfl, hb1⟩
        have HREL : Hid (CloseRel b v L nx (ids.take (k + 1)) w w1) := ⟨v', by rw [HE.out]; exact HS.out.below hb1, HBT.out.next hb1, HVO.out⟩
        clear hb1 ci
        go_wp2
        go_roundw
        case rel => exact ⟨k + 1, by omega, by go_num, by rw [HE.out], HREL.out⟩
        case measure => simp [intOf]; omega
      | true =>
        obtain ⟨he, hat, hlm⟩ := find_some HFA.out HRI.out
        rcases nil_len HS.out with ⟨g, c, rfl, hgc⟩ | ⟨_, hM0⟩
        · have HE := Lib.hid he
          have HLM := Lib.hid hlm
          have hw1 : IntKind.i64.wrap ((at' : Int) + 1) = (at' : Int) + 1 := IntWalk.i64_in _ (by omega)
          have hw2 : IntKind.i64.wrap ((L.length : Int) - (M.length : Int) + 1) = (L.length : Int) - ((closeL L (ids.take (k + 1))).length : Int) := by
            rw [HCS.out]
            refine (IntWalk.i64_in _ (by have := HL.out; omega)).trans ?_
            omega
          have HW2 := Lib.hid hw2
          clear he hlm hw2
          go_wp2_with fail
          refine HF.out.mono ?_; rintro e w1 ⟨rfl, hb1⟩
          have S1 := HS.out.below hb1
          have d0 := S1.c0
          have e0 := S1.f0
          have lb := S1.lt
          have S1h := Lib.hid S1
          have B1 := Lib.hid (HBT.out.next hb1)
          clear hb1 ci S1
          go_wp2_with fail
          refine (ls_delete g c M at' w1 S1h.out.row hl1 hat).mono ?_; rintro e w2 ⟨rfl, ho2, hr2⟩
          have hne : b ≠ g := fun e => S1h.out.ne (by simp [Value.ownBlock, e])
          have hcast : M.length - 1 = (rm M id).length := by have := HLM.out; omega
          have hr2' : w2.ownsRow 0 65 4 (.slice (some ⟨g, 0, none⟩) (rm M id).length c) (rm M id).length (flat (rm M id)) := by rw [← HE.out, ← show M.length - 1 = (M.eraseIdx at').length from by rw [hcast, HE.out]]; exact hr2
          have SN := Lib.hid (S1h.out.delRow ho2 (rm M id) hr2')
          have d0 := (ho2.cell b 0 lb hne).trans d0
          have e0 := (ho2.frozen b 0 lb hne).trans e0
          have BN : Hid (But (Foot b v) w (w2.setCell ⟨b, 0, none⟩ (.slice (some ⟨g, 0, none⟩) (rm M id).length c))) := (B1.out.trans (But.of_only (S := Foot b v) ho2 (.inr (by rw [← HVO.out]; rfl))) (fun _ _ h => h)).setCell (fun _ => .inl rfl) _
          rw [hcast]
          have lb := Nat.lt_of_lt_of_le lb ho2.size
          have HREL : Hid (CloseRel b v L nx (ids.take (k + 1)) w (w2.setCell ⟨b, 0, none⟩ (.slice (some ⟨g, 0, none⟩) (rm M id).length c))) := ⟨_, by rw [HCS.out]; exact SN.out, BN.out, by rw [← HVO.out]; rfl⟩
          clear ho2 hr2 hr2' hcast
          have hw2 := HW2.out
          go_wp2
          go_roundw
          case rel => exact ⟨k + 1, by omega, by go_num, by first | rfl | rw [hw2], HREL.out⟩
          case measure => simp [intOf]; omega
        · rw [hM0] at hat; simp at hat
    · obtain rfl : k = n := by omega
      have hbx : CloseRel b v L nx ids w wr := ⟨v', by rw [← HFT.out]; exact H', hbt, hvo⟩
      have HX := Lib.hid hbx
      clear H' hbt hvo hbx
      go_wp2
      go_ret
      go_light
      exact ⟨ret_int (by rw [HFT.out]), HX.out⟩
end Go.Proofs.Ytacchkokbibeaaa
