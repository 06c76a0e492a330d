/- leap.Parse of the text of any table: the walk. -/
import Derived.Test.YtonleiffbfdikaaDoorTxt
set_option linter.unusedSimpArgs false
set_option linter.unusedVariables false
namespace Go.Proofs.YtonleiffbfdikaaDoor
open Go.RowKit

theorem GS.setex {L : List ByteArray} {w0 w : World} {v : Value} {xs : List Value} {n : Nat} (h : GS L w0 w v xs n 0) (x : Int) : GS L w0 (w.setCell ⟨w0.heap.size + 2, 1, none⟩ (.int .i64 x)) v xs n x :=
  ⟨h.x0.other (by simp) _, h.xl.other (by simp) _, h.xt.set1 x, (But.of_only (S := fun k => k = w0.heap.size + 2) ((Only.refl _ w).setB _) rfl).row h.row (fun g hg e => by have := h.nb g hg; omega), h.nb, h.hb.setCell (by simp) _⟩
def ParseTb (w : World) (n : Nat) (z : Nat → Int) (x : Int) (e : Ending) (w' : World) : Prop := ∃ A c, e = .returned (.tuple #[.agg #[.slice A n c, .int .i64 x], .int .i64 0, .int .i64 0]) ∧ FlatAt w' A 2 n z
set_option maxRecDepth 100000 in
set_option maxHeartbeats 8000000 in
theorem parse_tab (n : Nat) (x : Int) (z : Nat → Int) (w : World) (hm : Mx w) (hT : IsTab z n x) (hzb : ∀ j, j < n * 2 → -9223372036854775808 ≤ z j ∧ z j ≤ 9223372036854775807) :
    Calls Tryd.prog 23 #[.string (strOf (tabB z n x))] w fun e w' => ParseTb w n z x e w' ∧ Below w.heap.size w w' := by
  have hsz := tab_size hT
  have hsp := tab_split hT
  have J0 := Tb.new w (.slice none 0 0) 0 24
  have HB0 : Below w.heap.size w (w.alloc (.cells #[.slice none 0 0, .int .i64 0] 24)) := by (repeat' (first | (with_reducible exact Below.refl _ _) | (with_reducible assumption) | (with_reducible refine Below.trans ?_ (Below.mono (by with_reducible assumption) ?_)) | (with_reducible refine Below.alloc ?_ ?_ _) | (with_reducible refine Below.setCell ?_ ?_ _) | (with_reducible refine below_drewN ?_ _) | (with_reducible refine Below.drew ?_) | go_size))
  have HS := Lib.hid (split_ok (strOf (tabB z n x)) nlT _ (hm.below HB0) (by omega) (by decide))
  rw [hsp.1, hsp.2] at HS
  have HM := Lib.hid hm
  have HTT := Lib.hid hT
  have HZB := Lib.hid hzb
  have n1 := hT.1
  have n100 := hT.2.1
  have hx1 := hT.2.2.2.1
  have hx2 := hT.2.2.2.2.1
  have t0 : decide ((8192 : Int) < ((strOf (tabB z n x)).size : Int)) = false := by simp only [decide_eq_false_iff_not]; omega
  generalize strOf (tabB z n x) = TXT at *
  have HL := Lib.hid (tabL_line z n x)
  have HE := Lib.hid (tabL_end z n x)
  have hlast := tabL_last z n x
  have hlen : (tabL z n x ++ [(⟨#[]⟩ : ByteArray)]).length = n + 2 := by rw [List.length_append, tabL_len]; rfl
  generalize tabL z n x ++ [(⟨#[]⟩ : ByteArray)] = L at *
  have LC : ∀ w1 : World, LnG (w1.alloc (.cells (L.map Value.string).toArray 9)) w1.heap.size L := fun w1 => ⟨fun j l hl => by
    rw [cell_of_row _ _ j _ _ _ (heap_alloc_new w1 _)]
    simp [hl], by simp⟩
  have LCW := LC (w.alloc (.cells #[.slice none 0 0, .int .i64 0] 24))
  have hsa : (w.alloc (.cells #[.slice none 0 0, .int .i64 0] 24)).heap.size = w.heap.size + 1 := by simp
  rw [hsa] at LCW HS
  have cl := LCW.c (n + 1) ⟨#[]⟩ hlast
  have LLT := LCW.lt
  have HBS : Below w.heap.size w ((w.alloc (.cells #[.slice none 0 0, .int .i64 0] 24)).alloc (.cells (L.map Value.string).toArray 9)) := by (repeat' (first | (with_reducible exact Below.refl _ _) | (with_reducible assumption) | (with_reducible refine Below.trans ?_ (Below.mono (by with_reducible assumption) ?_)) | (with_reducible refine Below.alloc ?_ ?_ _) | (with_reducible refine Below.setCell ?_ ?_ _) | (with_reducible refine below_drewN ?_ _) | (with_reducible refine Below.drew ?_) | go_size))
  have JS : Tb ((w.alloc (.cells #[.slice none 0 0, .int .i64 0] 24)).alloc (.cells (L.map Value.string).toArray 9)) w.heap.size (.slice none 0 0) 0 := J0.below ((Below.refl _ _).alloc (Nat.le_refl _) _)
  have hsb : ((w.alloc (.cells #[.slice none 0 0, .int .i64 0] 24)).alloc (.cells (L.map Value.string).toArray 9)).heap.size = w.heap.size + 2 := by simp
  have u1 : IntKind.i64.wrap (((n + 1 + 1 : Nat) : Int) - 1) = (n : Int) + 1 := (IntWalk.i64_in (((n + 1 + 1 : Nat) : Int) - 1) (by omega)).trans (by omega)
  have u1' : IntKind.i64.wrap ((n : Int) + 1 + 1 - 1) = (n : Int) + 1 := (IntWalk.i64_in ((n : Int) + 1 + 1 - 1) (by omega)).trans (by omega)
  have u1'' : IntKind.i64.wrap ((n : Int) + 1) = (n : Int) + 1 := IntWalk.i64_in _ (by omega)
  have u2 : (0 : Int) ≤ (n : Int) + 1 := by omega
  have u3 : (n : Int) + 1 < (n : Int) + 1 + 1 := by omega
  have u4 : ((n : Int) + 1).toNat = n + 1 := by omega
  have u5 : (n : Int) + 1 ≤ (n : Int) + 1 + 1 := by omega
  clear hm hT hzb hsp J0 HB0 LC hlast hlen hsa
  go_enter Tryd.func23, Tryd.ntmps23
  go_wp2_with fail
  refine HS.out.mono ?_; rintro e w' ⟨rfl, rfl⟩
  generalize (w.alloc (.cells #[.slice none 0 0, .int .i64 0] 24)).alloc (.cells (L.map Value.string).toArray 9) = ws at *
  clear HS
  have GX : Hid (GS L w (ws.alloc (.cells #[.slice none 0 0, .int .i64 0] 24)) (.slice none 0 0) (cellsOf z (0 * 2)) 0 0) := by
    have HA : Below ws.heap.size ws (ws.alloc (.cells #[.slice none 0 0, .int .i64 0] 24)) := (Below.refl _ _).alloc (Nat.le_refl _) _
    have hn := Tb.new ws (.slice none 0 0) 0 24
    rw [hsb] at hn
    exact Lib.hid ⟨JS.below HA, LCW.below HA, hn, World.ownsRow_nil _ _ _ _, fun g hg => by simp [Value.ownBlock] at hg, HBS.trans (HA.mono HBS.size)⟩
  obtain ⟨i0, hi0, hz0, hz1, hz2⟩ := info_parts leap_info
  have lcw := LCW.lt
  go_wp2_with fail
  go_loopw [34, 7] (fun i wh wr => ∃ k : Nat, i = .int .i64 k ∧ ((k ≤ n ∧ wh = .bool false ∧ ∃ v, GS L w wr v (cellsOf z (k * 2)) k 0) ∨ (k = n + 1 ∧ wh = .bool true ∧ ∃ v, GS L w wr v (cellsOf z (n * 2)) n x))) (fun i _ _ => n + 1 - (intOf i).toNat)
  case atStart => exact ⟨0, rfl, .inl ⟨Nat.zero_le _, rfl, _, GX.out⟩⟩
  case round =>
    clear GX LCW cl LLT HBS JS hsb lcw
    obtain ⟨k, rfl, ⟨hk, rfl, v, G⟩ | ⟨rfl, rfl, v, G⟩⟩ := hrel
    · by_cases hlt : k < n
      · have hok := HTT.out.2.2.1 k hlt
        have lk := G.xl.c k _ (HL.out k hlt)
        have ll := G.xl.lt
        obtain ⟨cc, tt, hd, hc1, hc2⟩ := line_first hok
        have e1 : (lineS z k).toList.isEmpty = false := by rw [Lib.toList_data, hd]; rfl
        have s0 : 0 < (lineS z k).size := by rw [Lib.size_eq, hd]; simp
        have b0 : ((((lineS z k)[0]'s0).toNat : Int) == 35) = false := by
          have : (lineS z k)[0]'s0 = cc := by
            show (lineS z k).data[0] = cc
            have h0 : (lineS z k).data.toList[0]? = some cc := by rw [hd]; rfl
            rw [Array.getElem?_toList] at h0
            exact (Array.getElem?_eq_some_iff.1 h0).2
          rw [this]
          simp
          omega
        have PE := Lib.hid fun w => line_end w hok
        have PL := Lib.hid fun w h => line_leap w h hok
        have HI := Lib.hid fun (w : World) (g cap : Nat) (h : FlatAt w (some ⟨g, 0, none⟩) 2 (k + 1) z) => leap_is_yes (some ⟨g, 0, none⟩) (k + 1) cap _ z w h (tab_pre HTT.out k hlt)
        have HC2 := Lib.hid (cellsOf_two z k)
        have t2 : (k : Int) < (n : Int) + 1 := by omega
        have t3 : (0 : Int) ≤ (k : Int) := by omega
        have zb1 := hok.1
        have zb2 := hok.2.1
        have w1 : IntKind.i64.wrap (z (k * 2) + 1) = z (k * 2) + 1 := IntWalk.i64_in _ (by omega)
        generalize lineS z k = ln at *
        generalize z (k * 2) = zd at *
        generalize z (k * 2 + 1) = zo at *
        have HG := Lib.hid G
        clear hok hd hc1 hc2 G
        go_wp2_with fail
        refine (PE.out wr).mono ?_; rintro e w1 ⟨rfl, hb1⟩
        go_wp2_with fail
        refine (PL.out w1 (HM.out.below (HG.out.hb.trans (hb1.mono HG.out.hb.size)))).mono ?_; rintro e w2 ⟨rfl, hb2⟩
        have P2 := Lib.hid (HG.out.below (hb1.trans (hb2.mono hb1.size)))
        clear hb1 hb2 HG lk ll
        have tc0 := P2.out.xt.c0
        have tl := P2.out.xt.lt
        go_wp2_with (at_builtin; refine wpList_append_lies _ rfl (.tmp 57) (.tmp 59) 22 rfl 0 33 i0 _ 2 16 Tryd.underlying22 hi0 hz0 hz1 hz2 rfl (by decide) v k (cellsOf z (k * 2)) rfl (World.ownsRow.alloc (World.ownsRow.alloc P2.out.row _) _) ⟨w2.heap.size + 1, 0, none⟩ 1 1 [.int .i64 zd, .int .i64 zo] rfl rfl (World.news_of_block (cs := #[.int .i64 zd, .int .i64 zo]) (t := 33) (fr := (0, 0)) (by have h := heap_alloc_new (w2.alloc (.cells #[.int .i64 zd, .int .i64 zo] 33)) (.cells #[.int .i64 zd, .int .i64 zo] 33); simpa using h)) (by simp [Value.oneCell']) (by omega) (by unfold maxLen; omega) (by omega) (by simp) (w2.heap.size + 2) (by simp) ?_; intro g cap w3 hown hgrow hat hlt3; have AO := Lib.hid (P2.out.app hgrow hown (fun k hk => by have hk' : g = k := (by simpa [Value.ownBlock] using hk); exact hat.imp (fun h => hk' ▸ h) (fun h => hk' ▸ h))); have c3 := AO.out.c; have f3 := AO.out.f; have l3 := AO.out.l0; clear hown hgrow hat tc0)
        have FL : FlatAt (w3.setCell ⟨w.heap.size + 2, 0, none⟩ (.slice (some ⟨g, 0, none⟩) (k + 1) cap)) (some ⟨g, 0, none⟩) 2 (k + 1) z := own_flat AO.out.ps.row (fun j hj => ⟨by rw [← HC2.out]; exact cellsOf_at z _ j hj, HZB.out j (by omega)⟩)
        refine (HI.out _ g cap FL).mono ?_; rintro e w4 ⟨rfl, hb4⟩
        have P4 := Lib.hid (AO.out.ps.below hb4)
        clear FL hb4 c3 f3 l3 AO P2
        go_wp2
        exact ⟨⟨k + 1, by simp, .inl ⟨by omega, rfl, _, by rw [HC2.out]; exact P4.out⟩⟩, by simp [intOf]; omega⟩
      · obtain rfl : k = n := by omega
        obtain ⟨g, cap, rfl, hgc, hcm, hgl⟩ := row_shape G.row (by omega)
        have lk := G.xl.c k _ HE.out
        have ll := G.xl.lt
        have hd := endS_data x
        have e1 : (endS x).toList.isEmpty = false := by rw [Lib.toList_data, hd]; rfl
        have s0 : 0 < (endS x).size := by rw [Lib.size_eq, hd]; simp
        have b0 : ((((endS x)[0]'s0).toNat : Int) == 35) = false := by
          have : (endS x)[0]'s0 = 101 := by
            show (endS x).data[0] = 101
            have h0 : (endS x).data.toList[0]? = some 101 := by rw [hd]; rfl
            rw [Array.getElem?_toList] at h0
            exact (Array.getElem?_eq_some_iff.1 h0).2
          rw [this]; rfl
        have PE := Lib.hid fun w => end_end x w hx1 hx2
        have PL := Lib.hid fun w h => end_leap x w h hx1 hx2
        have HI := Lib.hid fun (w : World) (h : FlatAt w (some ⟨g, 0, none⟩) 2 k z) => leap_is_yes (some ⟨g, 0, none⟩) k cap x z w h HTT.out
        have t2 : (k : Int) < (k : Int) + 1 := by omega
        have t3 : (0 : Int) ≤ (k : Int) := by omega
        generalize endS x = ln at *
        have HG := Lib.hid G
        clear hd G hlt
        go_wp2_with fail
        refine (PE.out wr).mono ?_; rintro e w1 ⟨rfl, hb1⟩
        go_wp2_with fail
        refine (PL.out w1 (HM.out.below (HG.out.hb.trans (hb1.mono HG.out.hb.size)))).mono ?_; rintro e w2 ⟨rfl, hb2⟩
        have P2 := Lib.hid (HG.out.below (hb1.trans (hb2.mono hb1.size)))
        clear hb1 hb2 HG lk ll
        obtain ⟨u0, uu1, uf0, uf1, ul⟩ := P2.out.xt
        have PX := P2.out.setex x
        have VB : Below (w2.setCell ⟨w.heap.size + 2, 1, none⟩ (.int .i64 x)).heap.size (w2.setCell ⟨w.heap.size + 2, 1, none⟩ (.int .i64 x)) ((w2.setCell ⟨w.heap.size + 2, 1, none⟩ (.int .i64 x)).alloc (.cells #[.int .i64 0, .int .i64 0] 33)) := (Below.refl _ _).alloc (Nat.le_refl _) _
        have PV := Lib.hid (PX.below VB)
        have FL : Hid (FlatAt ((w2.setCell ⟨w.heap.size + 2, 1, none⟩ (.int .i64 x)).alloc (.cells #[.int .i64 0, .int .i64 0] 33)) (some ⟨g, 0, none⟩) 2 k z) := own_flat PV.out.row (fun j hj => ⟨cellsOf_at z _ j hj, HZB.out j hj⟩)
        clear PX VB P2
        go_wp2_with fail
        refine (HI.out _ FL.out).mono ?_; rintro e w3 ⟨rfl, hb3⟩
        have P3 := Lib.hid (PV.out.below hb3)
        clear hb3 FL PV u0 uu1 uf0 uf1 ul
        go_wp2
        exact ⟨⟨k + 1, by simp, .inr ⟨rfl, rfl, _, P3.out⟩⟩, by simp [intOf]⟩
    · obtain ⟨g, cap, rfl, _, _, hgl⟩ := row_shape G.row (by omega)
      have FL := own_flat G.row (fun j hj => ⟨cellsOf_at z _ j hj, HZB.out j hj⟩)
      have hgw := G.nb g rfl
      have R := (G.x0.set0 (.slice (some ⟨g, 0, none⟩) n cap)).set1 x
      have R0 := R.c0
      have R1 := R.c1
      have ZO : Only w.heap.size wr ((wr.setCell ⟨w.heap.size, 0, none⟩ (.slice (some ⟨g, 0, none⟩) n cap)).setCell ⟨w.heap.size, 1, none⟩ (.int .i64 x)) := ((Only.refl _ wr).setB _).setB _
      have ZF := Lib.hid (FL.only ZO (fun ad h => by injection h with h; subst h; show g ≠ w.heap.size; omega))
      have ZB := Lib.hid ((G.hb.setCell (p := ⟨w.heap.size, 0, none⟩) (Nat.le_refl _) (.slice (some ⟨g, 0, none⟩) n cap)).setCell (p := ⟨w.heap.size, 1, none⟩) (Nat.le_refl _) (.int .i64 x))
      have t2 : ¬ ((n : Int) + 1 < (n : Int) + 1) := by omega
      obtain ⟨z0, z1, zf0, zf1, zl⟩ := G.x0
      obtain ⟨y0, y1, yf0, yf1, yl⟩ := G.xt
      clear G FL R ZO
      go_wp2_with fail
      refine bodyPost_ret (v := .tuple #[.agg #[.slice (some ⟨g, 0, none⟩) n cap, .int .i64 x], .int .i64 0, .int .i64 0]) (by simp [results, Tryd.results23, go_sem, R0, R1]) rfl ⟨⟨_, _, rfl, ZF.out⟩, ZB.out⟩
end Go.Proofs.YtonleiffbfdikaaDoor
