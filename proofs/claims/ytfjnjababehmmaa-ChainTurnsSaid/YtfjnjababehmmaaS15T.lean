/- Stage 15: ChainTurns: in whatever order versions are laid, the chain is the same: for every row of versions. -/
import Derived.Test.YtfjnjababehmmaaS15W
set_option linter.unusedSimpArgs false
set_option linter.unusedVariables false
namespace Go.Proofs.Ytfjnjababehmmaa
open Go.ChangeShapes Go.WideShapes Go.ChangeAt Go.RowKit Go.Joins Go.Deep Go.Sort

theorem cps_rowA {B : Nat} {W : World} {A : Option Addr} {c : Nat} {M : List Mv} (h : Cps B W (.slice A M.length c) M) : RowA W A M := fun h0 => by
  obtain ⟨g, cap, e, _, _, hg⟩ := row_shape h.row h0
  injection e with e1 e2 e3
  subst e1
  exact ⟨g, 0, rfl, hg, fun j u hu => by rw [Nat.zero_add]; exact row_cell (e3 ▸ h.row) hu⟩
theorem cps_ats {B : Nat} {W : World} {v : Value} {M : List Mv} (h : Cps B W v M) (hy : ∀ m ∈ M, isBy m.v.val) : ∀ m ∈ M, m.At (fun _ => True) W := fun m hm => by
  obtain ⟨A9, c9, e9, _, hby9, hn9, _⟩ := own8_shape (h.own m hm)
  injection e9 with e1 _ _
  exact ⟨by rw [e1]; exact hby9, fun e => hn9 (e1 ▸ e), fun _ _ _ => trivial, hy m hm⟩
theorem by_of_map {M M' : List Mv} (h : M.map Mv.v = M'.map Mv.v) (hy : ∀ m ∈ M', isBy m.v.val) : ∀ m ∈ M, isBy m.v.val := fun m hm => by
  have hv : m.v ∈ M'.map Mv.v := by rw [← h]; exact List.mem_map_of_mem hm
  obtain ⟨y, hyy, hyv⟩ := List.mem_map.1 hv
  rw [← hyv]
  exact hy y hyy
theorem row_rowA {w : World} {base : Nat} {A : Option Addr} {c : Nat} {M : List Mv} (h : w.ownsRow base 28 6 (.slice A M.length c) M.length (rowV M)) : RowA w A M := fun h0 => by
  obtain ⟨g, cap, e, _, _, hg⟩ := row_shape h h0
  injection e with e1 e2 e3
  subst e1
  exact ⟨g, 0, rfl, hg, fun j u hu => by rw [Nat.zero_add]; exact row_cell (e3 ▸ h) hu⟩
set_option maxRecDepth 100000 in
set_option maxHeartbeats 8000000 in
theorem chainTurns_any (A : Option Addr) (L : List Mv) (c : Nat) (w : World) (ha : RowA w A L) (hm : ∀ m ∈ L, MvIn w m) (hs : ∀ m ∈ L, m.v.val.length ≤ 281474976710656) (hl : L.length ≤ maxLen) :
    Calls Try.prog 4 #[.slice A L.length c] w fun e w' => e = .returned (.bool true) ∧ Below w.heap.size w w' := by
  obtain ⟨i0, hi0, hz0, hz1, hz2⟩ := info_parts ver_info
  have HH := Lib.hid (lheavy A L c w ha hs hl)
  have HOF := Lib.hid (fun (h300 : L.length ≤ 300) => ch_of A L c w ha (by omega) (fun m h => (hm m h).at_))
  have HBR : Hid (Below w.heap.size w w) := Lib.hid (Below.refl _ _)
  have HA := Lib.hid ha
  have HM := Lib.hid hm
  clear ha hm hs hl
  go_enter Try.func4, Try.ntmps4
  go_wp2_with fail
  refine HH.out.mono ?_
  rintro e w0 ⟨⟨hb, rfl, h300⟩, rfl⟩
  cases hb with
  | true =>
    clear h300 HH HOF
    go_wp2
    go_ret
    exact ⟨rfl, HBR.out⟩
  | false =>
    have h3 := h300 rfl
    have HO := Lib.hid (HOF.out h3)
    have hlen3 : (L.length : Int) ≤ 300 := by omega
    have ws : IntKind.i64.wrap ((L.length : Int) - 1) = (L.length : Int) - 1 := IntWalk.i64_in _ (by omega)
    clear h300 HH HOF h3
    go_wp2_with fail
    refine HO.out.mono ?_
    intro e w1 hans
    -- what Of told, as a value and what is known of it
    obtain ⟨pa, qa, rfl, hb1, hpa⟩ : ∃ (pa : Value) (qa : Int), e = .returned (.tuple #[pa, .int .i64 qa]) ∧ Below w0.heap.size w0 w1 ∧
        ((qa ≠ 0 ∧ (ofM [] (L.map Mv.v)).1 ≠ 0 ∧ pa = .pointer none) ∨ (qa = 0 ∧ (ofM [] (L.map Mv.v)).1 = 0 ∧ ∃ b v L', pa = .pointer (some ⟨b, 0, none⟩) ∧ Ch (fun i => w0.heap.size ≤ i) w1 b v L' ∧ L'.map Mv.v = (ofM [] (L.map Mv.v)).2 ∧ L'.length ≤ L.length)) := by
      rcases hans with ⟨hne, rfl, hb⟩ | ⟨heq, hri, b, v, L', rfl, hch, hmap, hle, hb⟩
      · exact ⟨_, _, rfl, hb, .inl ⟨hne, hne, rfl⟩⟩
      · exact ⟨_, _, rfl, hb, .inr ⟨rfl, heq, b, v, L', rfl, hch, hmap, by simpa using hle⟩⟩
    have HPA := Lib.hid hpa
    have HB1 := Lib.hid hb1
    clear hans hpa hb1 HO
    go_wp2
    go_loopw [5, 6] (fun u i wr => ∃ (j : Nat) (v : Value), j ≤ L.length ∧ i = .int .i64 ((j : Int) - 1) ∧ u = v ∧ wr.ownsRow w1.heap.size 28 6 v (L.length - j) (rowV (L.drop j).reverse) ∧ Below w1.heap.size w1 wr) (fun _ i _ => (intOf i + 1).toNat)
    case atStart => exact ⟨L.length, _, Nat.le_refl _, rfl, rfl, by rw [List.drop_length, Nat.sub_self]; exact World.ownsRow_nil _ _ _ _, Below.refl _ _⟩
    case round =>
      obtain ⟨j, v, hj, rfl, rfl, hrow, hB⟩ := hrel
      rcases Nat.eq_zero_or_pos j with rfl | hj0
      · -- the loop's end: what is laid in turn
        obtain ⟨Am, cm, rfl⟩ := row_shapeV hrow
        have hlr : L.reverse.length = L.length := List.length_reverse
        have hrow' : wr.ownsRow w1.heap.size 28 6 (.slice Am L.reverse.length cm) L.reverse.length (rowV L.reverse) := by
          rw [hlr]
          simpa using hrow
        have hBw := HB1.out.trans (hB.mono HB1.out.size)
        have HO2 := Lib.hid (ch_of Am L.reverse cm wr (row_rowA hrow') (by rw [hlr]; omega) (fun m hm => (HM.out m (List.mem_reverse.1 hm)).at_.below hBw))
        have HBr := Lib.hid hB
        have HBW := Lib.hid hBw
        have HOO := Lib.hid (fun m hm => (HM.out m hm).at_.y)
        rw [show (((0 : Nat) : Int) - 1) = -1 from rfl]
        rw [hlr] at HO2
        rw [Nat.sub_zero]
        clear hrow hrow' hB hBw HM HA hlr
        go_wp2_with fail
        refine HO2.out.mono ?_
        intro e w2 hans
        have hrv : L.reverse.map Mv.v = (L.map Mv.v).reverse := List.map_reverse ..
        rw [hrv] at hans
        rcases hans with ⟨hne, rfl, hb2⟩ | ⟨heq, hri, b2, v2, L2, rfl, hch2, hmap2, hle2, hb2⟩
        · -- none
          have h1 : (ofM [] (L.map Mv.v)).1 ≠ 0 := fun h => hne (ofM_rev h).1
          rcases HPA.out with ⟨hqa, _, rfl⟩ | ⟨_, h2, _⟩
          · have HB2 := Lib.hid (HBW.out.trans (hb2.mono HBW.out.size))
            generalize (ofM [] (L.map Mv.v).reverse).1 = qb at *
            have t1 : (qa == 0) = false := beq_no hqa
            have t2 : (qb == 0) = false := beq_no hne
            have t3 : (qa != 0) = true := by simpa using hqa
            clear hne hqa h1 hb2 HO2 hrv
            go_wp2_with fail
            refine (known15 _).mono ?_
            rintro e w3 ⟨rfl, hb3⟩
            have HB3 := Lib.hid (HB2.out.trans (hb3.mono HB2.out.size))
            clear hb3
            go_wp2
            go_ret
            exact ⟨rfl, HB3.out⟩
          · exact absurd h2 h1
        · have h1 : (ofM [] (L.map Mv.v)).1 = 0 ∧ (ofM [] (L.map Mv.v)).2 = (ofM [] (L.map Mv.v).reverse).2 := by
            have h := ofM_rev heq
            rw [List.reverse_reverse] at h
            exact h
          rcases HPA.out with ⟨_, h2, _⟩ | ⟨rfl, _, b, v, L', rfl, hch, hmap, hle⟩
          · exact absurd h1.1 h2
          · have hok : ∀ x ∈ L', x.v.ok = true := fun x hx => all_ok h1.1 _ (mem_map_v hmap hx)
            have hmm : L'.map Mv.v = L2.map Mv.v := by rw [hmap, hmap2, h1.2]
            have hok2 : ∀ x ∈ L2, x.v.ok = true := fun x hx => by
              obtain ⟨y, hy, hyv⟩ := List.mem_map.1 (show x.v ∈ L'.map Mv.v by rw [hmm]; exact List.mem_map_of_mem hx)
              rw [← hyv]
              exact hok y hy
            have hlen : L'.length = L.length := by
              have e1 := ofM_len h1.1
              have e2 := congrArg List.length hmap
              simp only [List.length_map, List.length_nil, Nat.zero_add] at e1 e2
              omega
            have hlen2 : L2.length = L.length := by have := congrArg List.length hmm; simp at this; omega
            have hbv : ∀ x ∈ L', x.v.val.length ≤ 100000 := fun x hx => by have := ok_bd (hok x hx); omega
            have hbv2 : ∀ x ∈ L2, x.v.val.length ≤ 100000 := fun x hx => by have := ok_bd (hok2 x hx); omega
            have HC2 := Lib.hid ((hch.below HBr.out).below hb2)
            have HD2 := Lib.hid hch2
            have HAL := Lib.hid (fun W (hc : Ch (fun i => w0.heap.size ≤ i) W b v L') => ch_all _ b v L' W hc (by omega) hbv)
            have HAL2 := Lib.hid (fun W (hc : Ch (fun i => wr.heap.size ≤ i) W b2 v2 L2) => ch_all _ b2 v2 L2 W hc (by omega) hbv2)
            have HY := Lib.hid (fun x (hx : x ∈ L') => (hch.ats x hx).y)
            have HY2 := Lib.hid (fun x (hx : x ∈ L2) => (hch2.ats x hx).y)
            have HB2 := Lib.hid (HBW.out.trans (hb2.mono HBW.out.size))
            have HMM := Lib.hid hmm
            have HLEN := Lib.hid hlen
            have HLEN2 := Lib.hid hlen2
            clear hch hch2 hmap hmap2 hle hle2 hb2 heq hri h1 hok hok2 hmm hlen hlen2 hbv hbv2 HO2 hrv HBr HBW
            go_wp2_with fail
            refine (HAL.out _ HC2.out).mono ?_
            rintro e w3 ⟨v3, L3, rfl, hcp3, hm3, hb3⟩
            obtain ⟨A3, c3, rfl⟩ := row_shapeV hcp3.row
            have HB3 := Lib.hid (HB2.out.trans (hb3.mono HB2.out.size))
            have HC3 := Lib.hid (HC2.out.below hb3)
            have HD3 := Lib.hid (HD2.out.below hb3)
            have HP3 := Lib.hid hcp3
            have HM3 := Lib.hid hm3
            clear hb3 hcp3 hm3
            go_wp2_with fail
            refine (HAL2.out _ HD3.out).mono ?_
            rintro e w4 ⟨v4, L4, rfl, hcp4, hm4, hb4⟩
            obtain ⟨A4, c4, rfl⟩ := row_shapeV hcp4.row
            have HB4 := Lib.hid (HB3.out.trans (hb4.mono HB3.out.size))
            have HC4 := Lib.hid (HC3.out.below hb4)
            have hl3 : L3.length = L'.length := by have := congrArg List.length HM3.out; simpa using this
            have hl4 : L4.length = L2.length := by have := congrArg List.length hm4; simpa using this
            have HVS := Lib.hid (lversions A3 A4 L3 L4 c3 c4 w4 (cps_rowA (HP3.out.below hb4)) (cps_rowA hcp4) (cps_ats (HP3.out.below hb4) (by_of_map HM3.out HY.out)) (cps_ats hcp4 (by_of_map hm4 HY2.out)) (by have := HLEN.out; omega) (by have := HLEN2.out; omega))
            have HEQ : Hid (L3.map Mv.v = L4.map Mv.v) := Lib.hid (by rw [HM3.out, hm4, HMM.out])
            clear hb4 hcp4 hm4 hl3 hl4
            go_wp2_with fail
            refine HVS.out.mono ?_
            rintro e w5 ⟨⟨sb, rfl, hsb⟩, hb5⟩
            obtain rfl : sb = true := hsb.2 HEQ.out
            have HB5 := Lib.hid (HB4.out.trans (hb5.mono HB4.out.size))
            have HC5 := Lib.hid (HC4.out.below hb5)
            clear hb5 hsb HVS HEQ
            go_wp2_with fail
            refine (HAL.out _ HC5.out).mono ?_
            rintro e w6 ⟨v6, L6, rfl, hcp6, hm6, hb6⟩
            obtain ⟨A6, c6, rfl⟩ := row_shapeV hcp6.row
            have HB6 := Lib.hid (HB5.out.trans (hb6.mono HB5.out.size))
            have hl6 : L6.length = L.length := by have := congrArg List.length hm6; simp at this; rw [this]; exact HLEN.out
            rw [hl6]
            clear hb6 hcp6 hm6 hl6
            go_wp2_with fail
            refine (known15 _).mono ?_
            rintro e w7 ⟨rfl, hb7⟩
            have HB7 := Lib.hid (HB6.out.trans (hb7.mono HB6.out.size))
            clear hb7
            go_wp2
            go_ret
            exact ⟨rfl, HB7.out⟩
      · obtain ⟨q, rfl⟩ : ∃ q, j = q + 1 := ⟨j - 1, by omega⟩
        rw [show (((q + 1 : Nat) : Int) - 1) = (q : Int) from by omega]
        have lq : (q : Int) < (L.length : Int) := by omega
        have lq0 : (0 : Int) ≤ (q : Int) := by omega
        have tq : decide ((q : Int) < 0) = false := by simp only [decide_eq_false_iff_not]; omega
        have wq : IntKind.i64.wrap ((q : Int) - 1) = (q : Int) - 1 := IntWalk.i64_in _ (by omega)
        obtain ⟨x, hx⟩ : ∃ x, L[q]? = some x := ⟨L[q]'(by omega), List.getElem?_eq_getElem _⟩
        obtain ⟨B, O, rfl, hBl, hcell⟩ := HA.out (by omega)
        obtain ⟨a0, a1, a2, a3, a4, a5⟩ := RowA.ver hcell hx
        have hBw := HB1.out.trans (hB.mono HB1.out.size)
        have ga : ∀ o, wr.cell? ⟨B, o, none⟩ = w0.cell? ⟨B, o, none⟩ := fun o => hBw.cell (p := ⟨B, o, none⟩) hBl
        rw [← ga] at a0 a1 a2 a3 a4 a5
        obtain ⟨Am, cm, rfl⟩ := row_shapeV hrow
        have HROWS : Hid (rowV (L.drop q).reverse = rowV (L.drop (q + 1)).reverse ++ x.cs) := Lib.hid (by
          have hql : q < L.length := by omega
          rw [List.drop_eq_getElem_cons hql, List.reverse_cons, rowV_append, rowV_one]
          have : L[q] = x := by have := List.getElem?_eq_getElem hql; rw [this] at hx; injection hx
          rw [this])
        have HB := Lib.hid hB
        have hz : w1.heap.size ≤ wr.heap.size := hB.size
        obtain ⟨⟨ml, ct, vo, val, gn, tt⟩, Ax, cx⟩ := x
        have hrow2 := World.ownsRow.alloc hrow (.cells #[.int .i64 ml, .int .i64 ct, .int .i64 vo, .slice Ax val.length cx, .bool gn, .int .i64 tt] 28)
        clear hB hBw ga hcell hx hrow
        have hq300 : L.length - (q + 1) ≤ 300 := by omega
        obtain ⟨nn, hnn⟩ : ∃ nn, nn = L.length - (q + 1) := ⟨_, rfl⟩
        rw [← hnn] at hrow2 hq300
        have HNN : Hid (nn + 1 = L.length - q) := Lib.hid (by omega)
        rw [← hnn]
        clear hnn
        go_wp2_with (at_builtin; refine wpList_append_lies _ rfl (.tmp 23) (.tmp 28) 22 rfl w1.heap.size 28 i0 _ 6 64 Try.underlying22 hi0 hz0 hz1 hz2 rfl (by decide) (.slice Am nn cm) nn _ rfl hrow2 ⟨wr.heap.size, 0, none⟩ 1 1 [.int .i64 ml, .int .i64 ct, .int .i64 vo, .slice Ax val.length cx, .bool gn, .int .i64 tt] rfl rfl (World.news_of_block (cs := #[.int .i64 ml, .int .i64 ct, .int .i64 vo, .slice Ax val.length cx, .bool gn, .int .i64 tt]) (t := 28) (fr := (0, 0)) (heap_alloc_new wr _)) (by simp [Value.oneCell']) (by omega) (by unfold maxLen; omega) (by omega) (by simp; omega) _ rfl ?_; intro g2 cap2 w5 hown5 hg5 hat5 hlt5)
        have HBN := Lib.hid ((HB.out.alloc hz (.cells #[.int .i64 ml, .int .i64 ct, .int .i64 vo, .slice Ax val.length cx, .bool gn, .int .i64 tt] 28)).grown hg5 (by simp; omega) (fun i hi => (World.ownsRow.lt hrow2 i hi).1))
        have HOWN := Lib.hid (show w5.ownsRow w1.heap.size 28 6 (.slice (some ⟨g2, 0, none⟩) (nn + 1) cap2) (L.length - q) (rowV (L.drop q).reverse) by rw [HROWS.out, ← HNN.out]; exact hown5)
        clear hown5 hg5 hat5 hlt5 hrow2 a0 a1 a2 a3 a4 a5
        go_roundw
        case rel => exact ⟨q, _, by omega, by go_num, rfl, HOWN.out, HBN.out⟩
        case measure => simp [intOf]
set_option maxRecDepth 100000 in
theorem chainTurns_lifted (os : Os) (started : os.Started) (H : Type) (enc : TypeId × Value → H) :
    ReturnsInHanded {} Try.checked os 4 .any (Rows.chainTurnsSpec.pre6 enc Try.prog Try.f4 Rows.chainTurnsRow.domain false) (Rows.chainTurnsSpec.post enc Try.prog Try.f4 false true false false) := by
  refine returnsInHanded_of_change_sized (C := Try.checked) law_own started (by kernel_rfl) Try.func4
    (ChangeSpec.witness6 (enc := enc) (C := Try.checked) false ⟨#[], #[.slice none 0 0], []⟩ 8 (by kernel_rfl) (by kernel_rfl) (by kernel_rfl) (by kernel_rfl)) ?_
  intro W base args ds gs before hval0 hW hcnd hsz0 _
  have hval : ∀ (j : Nat) t v, Try.f4.params[j]? = some t → args[j]? = some v → Value.okWide Try.prog W .any base t v := hval0
  have hsz : (DataW.weightsEach Try.prog (Try.f4.params.toList ++ Rows.chainTurnsSpec.plain.varTypes Try.prog) (ds ++ gs)).all (· ≤ reachBytes) = true := hsz0
  have hW' := hW
  obtain ⟨p, q, hA0, hV, rfl, hfz, hnd⟩ := hW
  have hA : DataW.TrodAll enc Try.prog W 0 (fun _ => true) true Try.f4.params.toList args.toList ds p := hA0
  rw [Try.params4] at hA hval hsz
  have hsame : (Rows.chainTurnsSpec.fn H (ds ++ gs)).results = [.lit (.bool true)] ∧ (Rows.chainTurnsSpec.fn H (ds ++ gs)).args = ds ∧ (Rows.chainTurnsSpec.fn H (ds ++ gs)).vars = [] → ∀ W', Below W.heap.size W W' → Rows.chainTurnsSpec.post enc Try.prog Try.f4 false true false false W args (.bool true) W' :=
    fun h W' hb => law_post (tb := 4) hW' law_laid (by kernel_rfl) rfl Try.underlying4 h.1 h.2.1 rfl h.2.2 hb
  obtain ⟨v0, vs0, d0, ds0, p0, q0, hargs, rfl, rfl, h0, r0⟩ := trodAll_cons hA
  obtain ⟨rfl, rfl, rfl⟩ := trodAll_nil r0
  obtain rfl : args = #[v0] := by cases args; simp_all
  obtain ⟨rfl, rfl⟩ := trodVars_none hV
  have hpost := hsame ⟨rfl, rfl, rfl⟩
  clear hsame hA0 hval0 hsz0
  obtain ⟨L, A, c, rfl, _, _, hrow, hin, _, hz⟩ := open_versions (hval 0 22 v0 rfl rfl) h0
  have hk := hz reachBytes (sized_each (j := 0) hsz rfl rfl)
  unfold reachBytes at hk
  exact (chainTurns_any A L c W hrow hin (fun m hm => by have := hk m hm; omega) (by omega)).mono fun e W' ⟨he, hb⟩ => ⟨_, he, hpost W' hb⟩
theorem chainTurns_holds : Rows.ChainTurnsSaid :=
  OpenClaim.holds_of_wide 4 Try.f4 rfl rfl rfl rfl rfl rfl rfl ⟨rfl, rfl, rfl, rfl, rfl⟩ rfl rfl rfl rfl rfl (by kernel_rfl) Try.func4 (by kernel_rfl)
    (of_decide_eq_true (by kernel_rfl)) (by unfold Func.isWrapper; first | (rw [if_pos (by decide +kernel)]; kernel_rfl) | (rw [if_neg (by decide +kernel)]; exact ⟨rfl, rfl⟩))
    (fun os started H enc _ => chainTurns_lifted os started H enc)
end Go.Proofs.Ytfjnjababehmmaa
