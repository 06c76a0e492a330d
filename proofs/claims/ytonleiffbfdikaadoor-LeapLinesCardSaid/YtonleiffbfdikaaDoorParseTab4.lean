/- leap.Parse of a table's lines with remarks and empty lines between them, and of lines of which one is wrong (for LeapLines): the walks. -/
import Derived.Test.YtonleiffbfdikaaDoorParseTab2
set_option linter.unusedSimpArgs false
set_option linter.unusedVariables false
namespace Go.Proofs.YtonleiffbfdikaaDoor
open Go.RowKit

/-- A line that is passed over. -/
def SkipL (l : ByteArray) : Prop := l = ⟨#[]⟩ ∨ ∃ t, l.data.toList = 35 :: t
set_option maxRecDepth 100000 in
set_option maxHeartbeats 8000000 in
theorem parse_lines (n m : Nat) (x : Int) (z : Nat → Int) (TXT : ByteArray) (L : List ByteArray) (ρ : Nat → Nat) (w : World) (hm : Mx w) (hT : IsTab z n x) (hzb : ∀ j, j < n * 2 → -9223372036854775808 ≤ z j ∧ z j ≤ 9223372036854775807)
    (hsz : TXT.size ≤ 8000) (hsp1 : Lib.countB TXT nlT = m) (hsp2 : Lib.splitB nlT 0 m TXT = L) (hlast : L[m]? = some ⟨#[]⟩) (hρ0 : ρ 0 = 0) (hρm : ρ m = n + 1) (m1 : 1 ≤ m) (m2 : m ≤ 1000)
    (hρ : ∀ i, i < m → (ρ (i + 1) = ρ i ∧ ∃ l, L[i]? = some l ∧ SkipL l) ∨ (ρ (i + 1) = ρ i + 1 ∧ ((ρ i < n ∧ L[i]? = some (lineS z (ρ i))) ∨ (ρ i = n ∧ L[i]? = some (endS x))))) :
    Calls Tryd.prog 23 #[.string TXT] w fun e w' => ParseTb w n z x e w' ∧ Below w.heap.size w w' := by
  have J0 := Tb.new w (.slice none 0 0) 0 24
  have HB0 : Below w.heap.size w (w.alloc (.cells #[.slice none 0 0, .int .i64 0] 24)) := by (repeat' (first | (with_reducible exact Below.refl _ _) | (with_reducible assumption) | (with_reducible refine Below.trans ?_ (Below.mono (by with_reducible assumption) ?_)) | (with_reducible refine Below.alloc ?_ ?_ _) | (with_reducible refine Below.setCell ?_ ?_ _) | (with_reducible refine below_drewN ?_ _) | (with_reducible refine Below.drew ?_) | go_size))
  have HS := Lib.hid (split_ok TXT nlT _ (hm.below HB0) (by omega) (by decide))
  rw [hsp1, hsp2] at HS
  have HM := Lib.hid hm
  have HTT := Lib.hid hT
  have HZB := Lib.hid hzb
  have n1 := hT.1
  have n100 := hT.2.1
  have hx1 := hT.2.2.2.1
  have hx2 := hT.2.2.2.2.1
  have t0 : decide ((8192 : Int) < (TXT.size : Int)) = false := by simp only [decide_eq_false_iff_not]; omega
  have HR := Lib.hid hρ
  have HRM := Lib.hid hρm
  have LC : ∀ w1 : World, LnG (w1.alloc (.cells (L.map Value.string).toArray 9)) w1.heap.size L := fun w1 => ⟨fun j l hl => by
    rw [cell_of_row _ _ j _ _ _ (heap_alloc_new w1 _)]
    simp [hl], by simp⟩
  have LCW := LC (w.alloc (.cells #[.slice none 0 0, .int .i64 0] 24))
  have hsa : (w.alloc (.cells #[.slice none 0 0, .int .i64 0] 24)).heap.size = w.heap.size + 1 := by simp
  rw [hsa] at LCW HS
  have cl := LCW.c m ⟨#[]⟩ hlast
  have LLT := LCW.lt
  have HBS : Below w.heap.size w ((w.alloc (.cells #[.slice none 0 0, .int .i64 0] 24)).alloc (.cells (L.map Value.string).toArray 9)) := by (repeat' (first | (with_reducible exact Below.refl _ _) | (with_reducible assumption) | (with_reducible refine Below.trans ?_ (Below.mono (by with_reducible assumption) ?_)) | (with_reducible refine Below.alloc ?_ ?_ _) | (with_reducible refine Below.setCell ?_ ?_ _) | (with_reducible refine below_drewN ?_ _) | (with_reducible refine Below.drew ?_) | go_size))
  have JS : Tb ((w.alloc (.cells #[.slice none 0 0, .int .i64 0] 24)).alloc (.cells (L.map Value.string).toArray 9)) w.heap.size (.slice none 0 0) 0 := J0.below ((Below.refl _ _).alloc (Nat.le_refl _) _)
  have hsb : ((w.alloc (.cells #[.slice none 0 0, .int .i64 0] 24)).alloc (.cells (L.map Value.string).toArray 9)).heap.size = w.heap.size + 2 := by simp
  have u1 : IntKind.i64.wrap (((m + 1 : Nat) : Int) - 1) = (m : Int) := (IntWalk.i64_in (((m + 1 : Nat) : Int) - 1) (by omega)).trans (by omega)
  have u1' : IntKind.i64.wrap ((m : Int) + 1 - 1) = (m : Int) := (IntWalk.i64_in ((m : Int) + 1 - 1) (by omega)).trans (by omega)
  have u1'' : IntKind.i64.wrap (m : Int) = (m : Int) := IntWalk.i64_in _ (by omega)
  have u2 : (0 : Int) ≤ (m : Int) := by omega
  have u3 : (m : Int) < (m : Int) + 1 := by omega
  have u5 : (m : Int) ≤ (m : Int) + 1 := by omega
  clear hm hT hzb hsp1 hsp2 J0 HB0 LC hlast hsa hρ hρm
  go_enter Tryd.func23, Tryd.ntmps23
  go_wp2_with fail
  refine HS.out.mono ?_; rintro e w' ⟨rfl, rfl⟩
  generalize (w.alloc (.cells #[.slice none 0 0, .int .i64 0] 24)).alloc (.cells (L.map Value.string).toArray 9) = ws at *
  clear HS
  have GX : Hid (GS L w (ws.alloc (.cells #[.slice none 0 0, .int .i64 0] 24)) (.slice none 0 0) (cellsOf z (0 * 2)) 0 0) := by
    have HA : Below ws.heap.size ws (ws.alloc (.cells #[.slice none 0 0, .int .i64 0] 24)) := (Below.refl _ _).alloc (Nat.le_refl _) _
    have hn := Tb.new ws (.slice none 0 0) 0 24
    rw [hsb] at hn
    exact Lib.hid ⟨JS.below HA, LCW.below HA, hn, World.ownsRow_nil _ _ _ _, fun g hg => by simp [Value.ownBlock] at hg, HBS.trans (HA.mono HBS.size)⟩
  obtain ⟨i0, hi0, hz0, hz1, hz2⟩ := info_parts leap_info
  have lcw := LCW.lt
  go_wp2_with fail
  go_loopw [34, 7] (fun i wh wr => ∃ i' : Nat, i' ≤ m ∧ i = .int .i64 i' ∧ ((ρ i' ≤ n ∧ wh = .bool false ∧ ∃ v, GS L w wr v (cellsOf z (ρ i' * 2)) (ρ i') 0) ∨ (ρ i' = n + 1 ∧ wh = .bool true ∧ ∃ v, GS L w wr v (cellsOf z (n * 2)) n x))) (fun i _ _ => m - (intOf i).toNat)
  case atStart => exact ⟨0, Nat.zero_le _, rfl, .inl ⟨by omega, rfl, _, by rw [hρ0]; exact GX.out⟩⟩
  case round =>
    clear GX LCW cl LLT HBS JS hsb lcw
    obtain ⟨i, hi, rfl, hcase⟩ := hrel
    by_cases him : i < m
    · have t2 : (i : Int) < (m : Int) := by omega
      have t3 : (0 : Int) ≤ (i : Int) := by omega
      rcases HR.out i him with ⟨hr1, l, hl, hskip⟩ | ⟨hr1, ⟨hlt, hln⟩ | ⟨heq, hln⟩⟩
      · have hrel2 : ∀ wr, (∃ wh : Value, (ρ i ≤ n ∧ wh = .bool false ∧ ∃ v, GS L w wr v (cellsOf z (ρ i * 2)) (ρ i) 0) ∨ (ρ i = n + 1 ∧ wh = .bool true ∧ ∃ v, GS L w wr v (cellsOf z (n * 2)) n x)) → wr.cell? ⟨w.heap.size + 1, i, none⟩ = some (.string l) ∧ w.heap.size + 1 < wr.heap.size := by
          rintro wr ⟨wh, ⟨_, _, v, G⟩ | ⟨_, _, v, G⟩⟩
          · exact ⟨G.xl.c i l hl, G.xl.lt⟩
          · exact ⟨G.xl.c i l hl, G.xl.lt⟩
        obtain ⟨lk, ll⟩ := hrel2 wr ⟨_, hcase⟩
        have HCASE := Lib.hid hcase
        have HR1 := Lib.hid hr1
        clear hcase hrel2 hr1 hl
        rcases hskip with rfl | ⟨t, ht⟩
        · go_wp2
          exact ⟨⟨i + 1, by omega, by simp, by rw [HR1.out]; exact HCASE.out⟩, by simp [intOf]; omega⟩
        · have e1 : l.toList.isEmpty = false := by rw [Lib.toList_data, ht]; rfl
          have s0 : 0 < l.size := by rw [Lib.size_eq, ht]; simp
          have b0 : (((l[0]'s0).toNat : Int) == 35) = true := by
            have : l[0]'s0 = 35 := by
              show l.data[0] = 35
              have h0 : l.data.toList[0]? = some 35 := by rw [ht]; rfl
              rw [Array.getElem?_toList] at h0
              exact (Array.getElem?_eq_some_iff.1 h0).2
            rw [this]; rfl
          clear ht
          go_wp2
          exact ⟨⟨i + 1, by omega, by simp, by rw [HR1.out]; exact HCASE.out⟩, by simp [intOf]; omega⟩
      · obtain ⟨_, rfl, v, G⟩ := hcase.resolve_right (fun h => by have := h.1; omega)
        have HR1 := Lib.hid hr1
        have HIM := Lib.hid him
        generalize ρ i = k at *
        clear hcase hr1
        have hok := HTT.out.2.2.1 k hlt
        have lk := G.xl.c i _ hln
        have ll := G.xl.lt
        obtain ⟨cc, tt, hd, hc1, hc2⟩ := line_first hok
        have e1 : (lineS z k).toList.isEmpty = false := by rw [Lib.toList_data, hd]; rfl
        have s0 : 0 < (lineS z k).size := by rw [Lib.size_eq, hd]; simp
        have b0 : ((((lineS z k)[0]'s0).toNat : Int) == 35) = false := by
          have : (lineS z k)[0]'s0 = cc := by
            show (lineS z k).data[0] = cc
            have h0 : (lineS z k).data.toList[0]? = some cc := by rw [hd]; rfl
            rw [Array.getElem?_toList] at h0
            exact (Array.getElem?_eq_some_iff.1 h0).2
          rw [this]
          simp
          omega
        have PE := Lib.hid fun w => line_end w hok
        have PL := Lib.hid fun w h => line_leap w h hok
        have HI := Lib.hid fun (w : World) (g cap : Nat) (h : FlatAt w (some ⟨g, 0, none⟩) 2 (k + 1) z) => leap_is_yes (some ⟨g, 0, none⟩) (k + 1) cap _ z w h (tab_pre HTT.out k hlt)
        have HC2 := Lib.hid (cellsOf_two z k)
        have zb1 := hok.1
        have zb2 := hok.2.1
        have w1 : IntKind.i64.wrap (z (k * 2) + 1) = z (k * 2) + 1 := IntWalk.i64_in _ (by omega)
        generalize lineS z k = ln at *
        generalize z (k * 2) = zd at *
        generalize z (k * 2 + 1) = zo at *
        have HG := Lib.hid G
        clear hok hd hc1 hc2 G hln him
        go_wp2_with fail
        refine (PE.out wr).mono ?_; rintro e w1 ⟨rfl, hb1⟩
        go_wp2_with fail
        refine (PL.out w1 (HM.out.below (HG.out.hb.trans (hb1.mono HG.out.hb.size)))).mono ?_; rintro e w2 ⟨rfl, hb2⟩
        have P2 := Lib.hid (HG.out.below (hb1.trans (hb2.mono hb1.size)))
        clear hb1 hb2 HG lk ll
        have tc0 := P2.out.xt.c0
        have tl := P2.out.xt.lt
        go_wp2_with (at_builtin; refine wpList_append_lies _ rfl (.tmp 57) (.tmp 59) 22 rfl 0 33 i0 _ 2 16 Tryd.underlying22 hi0 hz0 hz1 hz2 rfl (by decide) v k (cellsOf z (k * 2)) rfl (World.ownsRow.alloc (World.ownsRow.alloc P2.out.row _) _) ⟨w2.heap.size + 1, 0, none⟩ 1 1 [.int .i64 zd, .int .i64 zo] rfl rfl (World.news_of_block (cs := #[.int .i64 zd, .int .i64 zo]) (t := 33) (fr := (0, 0)) (by have h := heap_alloc_new (w2.alloc (.cells #[.int .i64 zd, .int .i64 zo] 33)) (.cells #[.int .i64 zd, .int .i64 zo] 33); simpa using h)) (by simp [Value.oneCell']) (by omega) (by unfold maxLen; omega) (by omega) (by simp) (w2.heap.size + 2) (by simp) ?_; intro g cap w3 hown hgrow hat hlt3; have AO := Lib.hid (P2.out.app hgrow hown (fun k hk => by have hk' : g = k := (by simpa [Value.ownBlock] using hk); exact hat.imp (fun h => hk' ▸ h) (fun h => hk' ▸ h))); have c3 := AO.out.c; have f3 := AO.out.f; have l3 := AO.out.l0; clear hown hgrow hat tc0)
        have FL : FlatAt (w3.setCell ⟨w.heap.size + 2, 0, none⟩ (.slice (some ⟨g, 0, none⟩) (k + 1) cap)) (some ⟨g, 0, none⟩) 2 (k + 1) z := own_flat AO.out.ps.row (fun j hj => ⟨by rw [← HC2.out]; exact cellsOf_at z _ j hj, HZB.out j (by omega)⟩)
        refine (HI.out _ g cap FL).mono ?_; rintro e w4 ⟨rfl, hb4⟩
        have P4 := Lib.hid (AO.out.ps.below hb4)
        clear FL hb4 c3 f3 l3 AO P2
        go_wp2
        exact ⟨⟨i + 1, HIM.out, by simp, .inl ⟨by rw [HR1.out]; omega, rfl, _, by rw [HR1.out, HC2.out]; exact P4.out⟩⟩, by have := HIM.out; simp [intOf]; omega⟩
      · obtain ⟨_, rfl, v, G⟩ := hcase.resolve_right (fun h => by have := h.1; omega)
        have HR1 := Lib.hid hr1
        have HIM := Lib.hid him
        rw [heq] at G
        have HEQ := Lib.hid heq
        generalize hk : n = k at *
        clear hcase hr1 heq hk
        obtain ⟨g, cap, rfl, hgc, hcm, hgl⟩ := row_shape G.row (by omega)
        have lk := G.xl.c i _ hln
        have ll := G.xl.lt
        have hd := endS_data x
        have e1 : (endS x).toList.isEmpty = false := by rw [Lib.toList_data, hd]; rfl
        have s0 : 0 < (endS x).size := by rw [Lib.size_eq, hd]; simp
        have b0 : ((((endS x)[0]'s0).toNat : Int) == 35) = false := by
          have : (endS x)[0]'s0 = 101 := by
            show (endS x).data[0] = 101
            have h0 : (endS x).data.toList[0]? = some 101 := by rw [hd]; rfl
            rw [Array.getElem?_toList] at h0
            exact (Array.getElem?_eq_some_iff.1 h0).2
          rw [this]; rfl
        have PE := Lib.hid fun w => end_end x w hx1 hx2
        have PL := Lib.hid fun w h => end_leap x w h hx1 hx2
        have HI := Lib.hid fun (w : World) (h : FlatAt w (some ⟨g, 0, none⟩) 2 k z) => leap_is_yes (some ⟨g, 0, none⟩) k cap x z w h HTT.out
        generalize endS x = ln at *
        have HG := Lib.hid G
        clear hd G hln him
        go_wp2_with fail
        refine (PE.out wr).mono ?_; rintro e w1 ⟨rfl, hb1⟩
        go_wp2_with fail
        refine (PL.out w1 (HM.out.below (HG.out.hb.trans (hb1.mono HG.out.hb.size)))).mono ?_; rintro e w2 ⟨rfl, hb2⟩
        have P2 := Lib.hid (HG.out.below (hb1.trans (hb2.mono hb1.size)))
        clear hb1 hb2 HG lk ll
        obtain ⟨u0, uu1, uf0, uf1, ul⟩ := P2.out.xt
        have PX := P2.out.setex x
        have VB : Below (w2.setCell ⟨w.heap.size + 2, 1, none⟩ (.int .i64 x)).heap.size (w2.setCell ⟨w.heap.size + 2, 1, none⟩ (.int .i64 x)) ((w2.setCell ⟨w.heap.size + 2, 1, none⟩ (.int .i64 x)).alloc (.cells #[.int .i64 0, .int .i64 0] 33)) := (Below.refl _ _).alloc (Nat.le_refl _) _
        have PV := Lib.hid (PX.below VB)
        have FL : Hid (FlatAt ((w2.setCell ⟨w.heap.size + 2, 1, none⟩ (.int .i64 x)).alloc (.cells #[.int .i64 0, .int .i64 0] 33)) (some ⟨g, 0, none⟩) 2 k z) := own_flat PV.out.row (fun j hj => ⟨cellsOf_at z _ j hj, HZB.out j hj⟩)
        clear PX VB P2
        go_wp2_with fail
        refine (HI.out _ FL.out).mono ?_; rintro e w3 ⟨rfl, hb3⟩
        have P3 := Lib.hid (PV.out.below hb3)
        clear hb3 FL PV u0 uu1 uf0 uf1 ul
        go_wp2
        exact ⟨⟨i + 1, HIM.out, by simp, .inr ⟨by rw [HR1.out, HEQ.out], rfl, _, P3.out⟩⟩, by have := HIM.out; simp [intOf]; omega⟩
    · obtain rfl : i = m := by omega
      obtain ⟨_, rfl, v, G⟩ := hcase.resolve_left (fun h => by have := h.1; have := HRM.out; omega)
      clear hcase
      obtain ⟨g, cap, rfl, _, _, hgl⟩ := row_shape G.row (by omega)
      have FL := own_flat G.row (fun j hj => ⟨cellsOf_at z _ j hj, HZB.out j hj⟩)
      have hgw := G.nb g rfl
      have R := (G.x0.set0 (.slice (some ⟨g, 0, none⟩) n cap)).set1 x
      have R0 := R.c0
      have R1 := R.c1
      have ZO : Only w.heap.size wr ((wr.setCell ⟨w.heap.size, 0, none⟩ (.slice (some ⟨g, 0, none⟩) n cap)).setCell ⟨w.heap.size, 1, none⟩ (.int .i64 x)) := ((Only.refl _ wr).setB _).setB _
      have ZF := Lib.hid (FL.only ZO (fun ad h => by injection h with h; subst h; show g ≠ w.heap.size; omega))
      have ZB := Lib.hid ((G.hb.setCell (p := ⟨w.heap.size, 0, none⟩) (Nat.le_refl _) (.slice (some ⟨g, 0, none⟩) n cap)).setCell (p := ⟨w.heap.size, 1, none⟩) (Nat.le_refl _) (.int .i64 x))
      have t2 : ¬ ((i : Int) < (i : Int)) := by omega
      obtain ⟨z0, z1, zf0, zf1, zl⟩ := G.x0
      obtain ⟨y0, y1, yf0, yf1, yl⟩ := G.xt
      clear G FL R ZO
      go_wp2_with fail
      refine bodyPost_ret (v := .tuple #[.agg #[.slice (some ⟨g, 0, none⟩) n cap, .int .i64 x], .int .i64 0, .int .i64 0]) (by simp [results, Tryd.results23, go_sem, R0, R1]) rfl ⟨⟨_, _, rfl, ZF.out⟩, ZB.out⟩
open Go.RowKit

def wrT : ByteArray := ⟨#[119, 114, 111, 110, 103]⟩
set_option maxHeartbeats 1000000 in
theorem parseLeap_cut (s A D : ByteArray) (w : World) (hm : Mx w) (hs : s.size < 4294967281) (hc : Lib.cut s.data.toList spT.data.toList = (A.data.toList, D.data.toList, false)) (hA : A.size ≠ 10) :
    Calls Tryd.prog 37 #[.string s] w fun e w' => e = .returned (.tuple #[.agg #[.int .i64 0, .int .i64 0], .bool false]) ∧ Below w.heap.size w w' := by
  have HB0 : Below w.heap.size w (w.alloc (.cells #[.int .i64 0, .int .i64 0] 33)) := by (repeat' (first | (with_reducible exact Below.refl _ _) | (with_reducible assumption) | (with_reducible refine Below.trans ?_ (Below.mono (by with_reducible assumption) ?_)) | (with_reducible refine Below.alloc ?_ ?_ _) | (with_reducible refine Below.setCell ?_ ?_ _) | (with_reducible refine below_drewN ?_ _) | (with_reducible refine Below.drew ?_) | go_size))
  have J0 := Ints2.new w 0 0 33
  have HC := Lib.hid (cut_ok s spT A D false _ (hm.below HB0) hs hc)
  have HD := Lib.hid fun w => parseDay_len A w hA
  clear hc hm hA
  go_enter Tryd.func37, Tryd.ntmps37
  go_wp2_with fail
  refine HC.out.mono ?_; rintro e w1 ⟨rfl, hb1⟩
  go_wp2_with fail
  refine (HD.out _).mono ?_; rintro e w2 ⟨rfl, hb2⟩
  have hb12 := hb1.trans (hb2.mono hb1.size)
  have J2 := J0.below hb12 (by simp)
  have HB2 := HB0.trans (hb12.mono HB0.size)
  have R := (J2.set0 0).set1 0
  have R0 := R.c0
  have R1 := R.c1
  obtain ⟨j0, j1, f0, f1, lt⟩ := J2
  clear hb1 hb2 hb12 J0 HB0 R
  go_wp2
  refine bodyPost_ret (v := .tuple #[.agg #[.int .i64 0, .int .i64 0], .bool false]) (by simp [results, Tryd.results37, go_sem, R0, R1]) rfl ⟨rfl, ?_⟩
  go_light
  (repeat' (first | (with_reducible exact Below.refl _ _) | (with_reducible assumption) | (with_reducible refine Below.trans ?_ (Below.mono (by with_reducible assumption) ?_)) | (with_reducible refine Below.alloc ?_ ?_ _) | (with_reducible refine Below.setCell ?_ ?_ _) | (with_reducible refine below_drewN ?_ _) | (with_reducible refine Below.drew ?_) | go_size))
set_option maxRecDepth 100000 in
set_option maxHeartbeats 8000000 in
theorem parse_wrong (n m p : Nat) (x : Int) (z : Nat → Int) (TXT : ByteArray) (L : List ByteArray) (ρ : Nat → Nat) (w : World) (hm : Mx w) (hT : IsTab z n x) (hzb : ∀ j, j < n * 2 → -9223372036854775808 ≤ z j ∧ z j ≤ 9223372036854775807)
    (hsz : TXT.size ≤ 8000) (hsp1 : Lib.countB TXT nlT = m) (hsp2 : Lib.splitB nlT 0 m TXT = L) (hlast : L[m]? = some ⟨#[]⟩) (hρ0 : ρ 0 = 0) (hp : p < m) (hwr : L[p]? = some wrT) (m1 : 1 ≤ m) (m2 : m ≤ 1000)
    (hρ : ∀ i, i < p → (ρ (i + 1) = ρ i ∧ ∃ l, L[i]? = some l ∧ SkipL l) ∨ (ρ (i + 1) = ρ i + 1 ∧ ((ρ i < n ∧ L[i]? = some (lineS z (ρ i))) ∨ (ρ i = n ∧ L[i]? = some (endS x))))) :
    Calls Tryd.prog 23 #[.string TXT] w fun e w' => e = .returned (.tuple #[.agg #[.slice none 0 0, .int .i64 0], .int .i64 ((p : Int) + 1), .int .i64 10]) ∧ Below w.heap.size w w' := by
  have J0 := Tb.new w (.slice none 0 0) 0 24
  have HB0 : Below w.heap.size w (w.alloc (.cells #[.slice none 0 0, .int .i64 0] 24)) := by (repeat' (first | (with_reducible exact Below.refl _ _) | (with_reducible assumption) | (with_reducible refine Below.trans ?_ (Below.mono (by with_reducible assumption) ?_)) | (with_reducible refine Below.alloc ?_ ?_ _) | (with_reducible refine Below.setCell ?_ ?_ _) | (with_reducible refine below_drewN ?_ _) | (with_reducible refine Below.drew ?_) | go_size))
  have HS := Lib.hid (split_ok TXT nlT _ (hm.below HB0) (by omega) (by decide))
  rw [hsp1, hsp2] at HS
  have HM := Lib.hid hm
  have HTT := Lib.hid hT
  have HZB := Lib.hid hzb
  have n1 := hT.1
  have n100 := hT.2.1
  have hx1 := hT.2.2.2.1
  have hx2 := hT.2.2.2.2.1
  have t0 : decide ((8192 : Int) < (TXT.size : Int)) = false := by simp only [decide_eq_false_iff_not]; omega
  have HR := Lib.hid hρ
  have LC : ∀ w1 : World, LnG (w1.alloc (.cells (L.map Value.string).toArray 9)) w1.heap.size L := fun w1 => ⟨fun j l hl => by
    rw [cell_of_row _ _ j _ _ _ (heap_alloc_new w1 _)]
    simp [hl], by simp⟩
  have LCW := LC (w.alloc (.cells #[.slice none 0 0, .int .i64 0] 24))
  have hsa : (w.alloc (.cells #[.slice none 0 0, .int .i64 0] 24)).heap.size = w.heap.size + 1 := by simp
  rw [hsa] at LCW HS
  have cl := LCW.c m ⟨#[]⟩ hlast
  have LLT := LCW.lt
  have HBS : Below w.heap.size w ((w.alloc (.cells #[.slice none 0 0, .int .i64 0] 24)).alloc (.cells (L.map Value.string).toArray 9)) := by (repeat' (first | (with_reducible exact Below.refl _ _) | (with_reducible assumption) | (with_reducible refine Below.trans ?_ (Below.mono (by with_reducible assumption) ?_)) | (with_reducible refine Below.alloc ?_ ?_ _) | (with_reducible refine Below.setCell ?_ ?_ _) | (with_reducible refine below_drewN ?_ _) | (with_reducible refine Below.drew ?_) | go_size))
  have JS : Tb ((w.alloc (.cells #[.slice none 0 0, .int .i64 0] 24)).alloc (.cells (L.map Value.string).toArray 9)) w.heap.size (.slice none 0 0) 0 := J0.below ((Below.refl _ _).alloc (Nat.le_refl _) _)
  have hsb : ((w.alloc (.cells #[.slice none 0 0, .int .i64 0] 24)).alloc (.cells (L.map Value.string).toArray 9)).heap.size = w.heap.size + 2 := by simp
  have u1 : IntKind.i64.wrap (((m + 1 : Nat) : Int) - 1) = (m : Int) := (IntWalk.i64_in (((m + 1 : Nat) : Int) - 1) (by omega)).trans (by omega)
  have u1' : IntKind.i64.wrap ((m : Int) + 1 - 1) = (m : Int) := (IntWalk.i64_in ((m : Int) + 1 - 1) (by omega)).trans (by omega)
  have u1'' : IntKind.i64.wrap (m : Int) = (m : Int) := IntWalk.i64_in _ (by omega)
  have u2 : (0 : Int) ≤ (m : Int) := by omega
  have u3 : (m : Int) < (m : Int) + 1 := by omega
  have u5 : (m : Int) ≤ (m : Int) + 1 := by omega
  clear hm hT hzb hsp1 hsp2 J0 HB0 LC hlast hsa hρ
  go_enter Tryd.func23, Tryd.ntmps23
  go_wp2_with fail
  refine HS.out.mono ?_; rintro e w' ⟨rfl, rfl⟩
  generalize (w.alloc (.cells #[.slice none 0 0, .int .i64 0] 24)).alloc (.cells (L.map Value.string).toArray 9) = ws at *
  clear HS
  have GX : Hid (GS L w (ws.alloc (.cells #[.slice none 0 0, .int .i64 0] 24)) (.slice none 0 0) (cellsOf z (0 * 2)) 0 0) := by
    have HA : Below ws.heap.size ws (ws.alloc (.cells #[.slice none 0 0, .int .i64 0] 24)) := (Below.refl _ _).alloc (Nat.le_refl _) _
    have hn := Tb.new ws (.slice none 0 0) 0 24
    rw [hsb] at hn
    exact Lib.hid ⟨JS.below HA, LCW.below HA, hn, World.ownsRow_nil _ _ _ _, fun g hg => by simp [Value.ownBlock] at hg, HBS.trans (HA.mono HBS.size)⟩
  obtain ⟨i0, hi0, hz0, hz1, hz2⟩ := info_parts leap_info
  have lcw := LCW.lt
  go_wp2_with fail
  go_loopw [34, 7] (fun i wh wr => ∃ i' : Nat, i' ≤ p ∧ i = .int .i64 i' ∧ ((ρ i' ≤ n ∧ wh = .bool false ∧ ∃ v, GS L w wr v (cellsOf z (ρ i' * 2)) (ρ i') 0) ∨ (ρ i' = n + 1 ∧ wh = .bool true ∧ ∃ v, GS L w wr v (cellsOf z (n * 2)) n x))) (fun i _ _ => p - (intOf i).toNat)
  case atStart => exact ⟨0, Nat.zero_le _, rfl, .inl ⟨by omega, rfl, _, by rw [hρ0]; exact GX.out⟩⟩
  case round =>
    clear GX LCW cl LLT HBS JS hsb lcw
    obtain ⟨i, hi, rfl, hcase⟩ := hrel
    by_cases him : i < p
    · have t2 : (i : Int) < (m : Int) := by omega
      have t3 : (0 : Int) ≤ (i : Int) := by omega
      rcases HR.out i him with ⟨hr1, l, hl, hskip⟩ | ⟨hr1, ⟨hlt, hln⟩ | ⟨heq, hln⟩⟩
      · have hrel2 : ∀ wr, (∃ wh : Value, (ρ i ≤ n ∧ wh = .bool false ∧ ∃ v, GS L w wr v (cellsOf z (ρ i * 2)) (ρ i) 0) ∨ (ρ i = n + 1 ∧ wh = .bool true ∧ ∃ v, GS L w wr v (cellsOf z (n * 2)) n x)) → wr.cell? ⟨w.heap.size + 1, i, none⟩ = some (.string l) ∧ w.heap.size + 1 < wr.heap.size := by
          rintro wr ⟨wh, ⟨_, _, v, G⟩ | ⟨_, _, v, G⟩⟩
          · exact ⟨G.xl.c i l hl, G.xl.lt⟩
          · exact ⟨G.xl.c i l hl, G.xl.lt⟩
        obtain ⟨lk, ll⟩ := hrel2 wr ⟨_, hcase⟩
        have HCASE := Lib.hid hcase
        have HR1 := Lib.hid hr1
        clear hcase hrel2 hr1 hl
        rcases hskip with rfl | ⟨t, ht⟩
        · go_wp2
          exact ⟨⟨i + 1, by omega, by simp, by rw [HR1.out]; exact HCASE.out⟩, by simp [intOf]; omega⟩
        · have e1 : l.toList.isEmpty = false := by rw [Lib.toList_data, ht]; rfl
          have s0 : 0 < l.size := by rw [Lib.size_eq, ht]; simp
          have b0 : (((l[0]'s0).toNat : Int) == 35) = true := by
            have : l[0]'s0 = 35 := by
              show l.data[0] = 35
              have h0 : l.data.toList[0]? = some 35 := by rw [ht]; rfl
              rw [Array.getElem?_toList] at h0
              exact (Array.getElem?_eq_some_iff.1 h0).2
            rw [this]; rfl
          clear ht
          go_wp2
          exact ⟨⟨i + 1, by omega, by simp, by rw [HR1.out]; exact HCASE.out⟩, by simp [intOf]; omega⟩
      · obtain ⟨_, rfl, v, G⟩ := hcase.resolve_right (fun h => by have := h.1; omega)
        have HR1 := Lib.hid hr1
        have HIM := Lib.hid him
        generalize ρ i = k at *
        clear hcase hr1
        have hok := HTT.out.2.2.1 k hlt
        have lk := G.xl.c i _ hln
        have ll := G.xl.lt
        obtain ⟨cc, tt, hd, hc1, hc2⟩ := line_first hok
        have e1 : (lineS z k).toList.isEmpty = false := by rw [Lib.toList_data, hd]; rfl
        have s0 : 0 < (lineS z k).size := by rw [Lib.size_eq, hd]; simp
        have b0 : ((((lineS z k)[0]'s0).toNat : Int) == 35) = false := by
          have : (lineS z k)[0]'s0 = cc := by
            show (lineS z k).data[0] = cc
            have h0 : (lineS z k).data.toList[0]? = some cc := by rw [hd]; rfl
            rw [Array.getElem?_toList] at h0
            exact (Array.getElem?_eq_some_iff.1 h0).2
          rw [this]
          simp
          omega
        have PE := Lib.hid fun w => line_end w hok
        have PL := Lib.hid fun w h => line_leap w h hok
        have HI := Lib.hid fun (w : World) (g cap : Nat) (h : FlatAt w (some ⟨g, 0, none⟩) 2 (k + 1) z) => leap_is_yes (some ⟨g, 0, none⟩) (k + 1) cap _ z w h (tab_pre HTT.out k hlt)
        have HC2 := Lib.hid (cellsOf_two z k)
        have zb1 := hok.1
        have zb2 := hok.2.1
        have w1 : IntKind.i64.wrap (z (k * 2) + 1) = z (k * 2) + 1 := IntWalk.i64_in _ (by omega)
        generalize lineS z k = ln at *
        generalize z (k * 2) = zd at *
        generalize z (k * 2 + 1) = zo at *
        have HG := Lib.hid G
        clear hok hd hc1 hc2 G hln him
        go_wp2_with fail
        refine (PE.out wr).mono ?_; rintro e w1 ⟨rfl, hb1⟩
        go_wp2_with fail
        refine (PL.out w1 (HM.out.below (HG.out.hb.trans (hb1.mono HG.out.hb.size)))).mono ?_; rintro e w2 ⟨rfl, hb2⟩
        have P2 := Lib.hid (HG.out.below (hb1.trans (hb2.mono hb1.size)))
        clear hb1 hb2 HG lk ll
        have tc0 := P2.out.xt.c0
        have tl := P2.out.xt.lt
        go_wp2_with (at_builtin; refine wpList_append_lies _ rfl (.tmp 57) (.tmp 59) 22 rfl 0 33 i0 _ 2 16 Tryd.underlying22 hi0 hz0 hz1 hz2 rfl (by decide) v k (cellsOf z (k * 2)) rfl (World.ownsRow.alloc (World.ownsRow.alloc P2.out.row _) _) ⟨w2.heap.size + 1, 0, none⟩ 1 1 [.int .i64 zd, .int .i64 zo] rfl rfl (World.news_of_block (cs := #[.int .i64 zd, .int .i64 zo]) (t := 33) (fr := (0, 0)) (by have h := heap_alloc_new (w2.alloc (.cells #[.int .i64 zd, .int .i64 zo] 33)) (.cells #[.int .i64 zd, .int .i64 zo] 33); simpa using h)) (by simp [Value.oneCell']) (by omega) (by unfold maxLen; omega) (by omega) (by simp) (w2.heap.size + 2) (by simp) ?_; intro g cap w3 hown hgrow hat hlt3; have AO := Lib.hid (P2.out.app hgrow hown (fun k hk => by have hk' : g = k := (by simpa [Value.ownBlock] using hk); exact hat.imp (fun h => hk' ▸ h) (fun h => hk' ▸ h))); have c3 := AO.out.c; have f3 := AO.out.f; have l3 := AO.out.l0; clear hown hgrow hat tc0)
        have FL : FlatAt (w3.setCell ⟨w.heap.size + 2, 0, none⟩ (.slice (some ⟨g, 0, none⟩) (k + 1) cap)) (some ⟨g, 0, none⟩) 2 (k + 1) z := own_flat AO.out.ps.row (fun j hj => ⟨by rw [← HC2.out]; exact cellsOf_at z _ j hj, HZB.out j (by omega)⟩)
        refine (HI.out _ g cap FL).mono ?_; rintro e w4 ⟨rfl, hb4⟩
        have P4 := Lib.hid (AO.out.ps.below hb4)
        clear FL hb4 c3 f3 l3 AO P2
        go_wp2
        exact ⟨⟨i + 1, HIM.out, by simp, .inl ⟨by rw [HR1.out]; omega, rfl, _, by rw [HR1.out, HC2.out]; exact P4.out⟩⟩, by have := HIM.out; simp [intOf]; omega⟩
      · obtain ⟨_, rfl, v, G⟩ := hcase.resolve_right (fun h => by have := h.1; omega)
        have HR1 := Lib.hid hr1
        have HIM := Lib.hid him
        rw [heq] at G
        have HEQ := Lib.hid heq
        generalize hk : n = k at *
        clear hcase hr1 heq hk
        obtain ⟨g, cap, rfl, hgc, hcm, hgl⟩ := row_shape G.row (by omega)
        have lk := G.xl.c i _ hln
        have ll := G.xl.lt
        have hd := endS_data x
        have e1 : (endS x).toList.isEmpty = false := by rw [Lib.toList_data, hd]; rfl
        have s0 : 0 < (endS x).size := by rw [Lib.size_eq, hd]; simp
        have b0 : ((((endS x)[0]'s0).toNat : Int) == 35) = false := by
          have : (endS x)[0]'s0 = 101 := by
            show (endS x).data[0] = 101
            have h0 : (endS x).data.toList[0]? = some 101 := by rw [hd]; rfl
            rw [Array.getElem?_toList] at h0
            exact (Array.getElem?_eq_some_iff.1 h0).2
          rw [this]; rfl
        have PE := Lib.hid fun w => end_end x w hx1 hx2
        have PL := Lib.hid fun w h => end_leap x w h hx1 hx2
        have HI := Lib.hid fun (w : World) (h : FlatAt w (some ⟨g, 0, none⟩) 2 k z) => leap_is_yes (some ⟨g, 0, none⟩) k cap x z w h HTT.out
        generalize endS x = ln at *
        have HG := Lib.hid G
        clear hd G hln him
        go_wp2_with fail
        refine (PE.out wr).mono ?_; rintro e w1 ⟨rfl, hb1⟩
        go_wp2_with fail
        refine (PL.out w1 (HM.out.below (HG.out.hb.trans (hb1.mono HG.out.hb.size)))).mono ?_; rintro e w2 ⟨rfl, hb2⟩
        have P2 := Lib.hid (HG.out.below (hb1.trans (hb2.mono hb1.size)))
        clear hb1 hb2 HG lk ll
        obtain ⟨u0, uu1, uf0, uf1, ul⟩ := P2.out.xt
        have PX := P2.out.setex x
        have VB : Below (w2.setCell ⟨w.heap.size + 2, 1, none⟩ (.int .i64 x)).heap.size (w2.setCell ⟨w.heap.size + 2, 1, none⟩ (.int .i64 x)) ((w2.setCell ⟨w.heap.size + 2, 1, none⟩ (.int .i64 x)).alloc (.cells #[.int .i64 0, .int .i64 0] 33)) := (Below.refl _ _).alloc (Nat.le_refl _) _
        have PV := Lib.hid (PX.below VB)
        have FL : Hid (FlatAt ((w2.setCell ⟨w.heap.size + 2, 1, none⟩ (.int .i64 x)).alloc (.cells #[.int .i64 0, .int .i64 0] 33)) (some ⟨g, 0, none⟩) 2 k z) := own_flat PV.out.row (fun j hj => ⟨cellsOf_at z _ j hj, HZB.out j hj⟩)
        clear PX VB P2
        go_wp2_with fail
        refine (HI.out _ FL.out).mono ?_; rintro e w3 ⟨rfl, hb3⟩
        have P3 := Lib.hid (PV.out.below hb3)
        clear hb3 FL PV u0 uu1 uf0 uf1 ul
        go_wp2
        exact ⟨⟨i + 1, HIM.out, by simp, .inr ⟨by rw [HR1.out, HEQ.out], rfl, _, P3.out⟩⟩, by have := HIM.out; simp [intOf]; omega⟩
    · obtain rfl : i = p := by omega
      have t2 : (i : Int) < (m : Int) := by omega
      have t3 : (0 : Int) ≤ (i : Int) := by omega
      have t4 : IntKind.i64.wrap ((i : Int) + 1) = (i : Int) + 1 := IntWalk.i64_in _ (by omega)
      have e1 : wrT.toList.isEmpty = false := by rw [Lib.toList_data]; rfl
      have s0 : 0 < wrT.size := by decide
      have b0 : (((wrT[0]'s0).toNat : Int) == 35) = false := by decide +revert
      have PE := Lib.hid fun w => parseEnd_no wrT wrT w (by kernel_rfl) (by kernel_rfl)
      have PL := Lib.hid fun (w : World) (h : Mx w) => parseLeap_cut wrT wrT ⟨#[]⟩ w h (by decide) (by kernel_rfl) (by decide)
      generalize wrT = ln at *
      rcases hcase with ⟨_, rfl, v, G⟩ | ⟨_, rfl, v, G⟩
      all_goals
        have lk := G.xl.c i _ hwr
        have ll := G.xl.lt
        have HG := Lib.hid G
        clear G
        go_wp2_with fail
        refine (PE.out wr).mono ?_; rintro e w1 ⟨rfl, hb1⟩
        go_wp2_with fail
        refine (PL.out w1 (HM.out.below (HG.out.hb.trans (hb1.mono HG.out.hb.size)))).mono ?_; rintro e w2 ⟨rfl, hb2⟩
        have P2 := HG.out.below (hb1.trans (hb2.mono hb1.size))
        have R := (P2.x0.set0 (.slice none 0 0)).set1 0
        have HA : Below ((w2.setCell ⟨w.heap.size, 0, none⟩ (.slice none 0 0)).setCell ⟨w.heap.size, 1, none⟩ (.int .i64 0)).heap.size ((w2.setCell ⟨w.heap.size, 0, none⟩ (.slice none 0 0)).setCell ⟨w.heap.size, 1, none⟩ (.int .i64 0)) (((w2.setCell ⟨w.heap.size, 0, none⟩ (.slice none 0 0)).setCell ⟨w.heap.size, 1, none⟩ (.int .i64 0)).alloc (.cells #[.int .i64 0, .int .i64 0] 33)) := (Below.refl _ _).alloc (Nat.le_refl _) _
        have RB := R.below HA
        have R0 := RB.c0
        have R1 := RB.c1
        have ZB0 := (P2.hb.setCell (p := ⟨w.heap.size, 0, none⟩) (Nat.le_refl _) (.slice none 0 0)).setCell (p := ⟨w.heap.size, 1, none⟩) (Nat.le_refl _) (.int .i64 0)
        have ZB := Lib.hid (ZB0.trans (HA.mono ZB0.size))
        obtain ⟨z0, z1, zf0, zf1, zl⟩ := P2.x0
        clear hb1 hb2 HG lk ll P2 R HA RB ZB0
        go_wp2_with fail
        refine bodyPost_ret (v := .tuple #[.agg #[.slice none 0 0, .int .i64 0], .int .i64 ((i : Int) + 1), .int .i64 10]) (by simp [results, Tryd.results23, go_sem, R0, R1]) rfl ⟨rfl, ZB.out⟩
end Go.Proofs.YtonleiffbfdikaaDoor
