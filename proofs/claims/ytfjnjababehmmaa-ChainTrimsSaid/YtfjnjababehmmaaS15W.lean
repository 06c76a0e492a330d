/- Stage 15: ChainNewest: at a stamp that is not below all of them the greatest version is the newest one: for every row of versions. -/
import Derived.Test.YtfjnjababehmmaaS15H
import Derived.Test.YtfjnjababehmmaaKnown15
import Derived.Test.YtfjnjababehmmaaStampArg
set_option linter.unusedSimpArgs false
set_option linter.unusedVariables false
namespace Go.Proofs.Ytfjnjababehmmaa
open Go.ChangeShapes Go.WideShapes Go.ChangeAt Go.RowKit Go.Joins Go.Deep Go.Sort

theorem mem_map_v {L : List Mv} {R : List Vs} (h : L.map Mv.v = R) {x : Mv} (hx : x ∈ L) : x.v ∈ R := by rw [← h]; exact List.mem_map_of_mem hx
/-- The versions of a chain that was laid: each is one. -/
theorem all_ok {l : List Vs} (h : (ofM [] l).1 = 0) : ∀ x ∈ (ofM [] l).2, x.ok = true := fun x hx => by
  rcases (ofM_mem h x).1 hx with q | q
  · cases q
  · exact ofM_ok h x q
theorem known_of15 (W : World) : Calls Try.prog 13 #[] W fun e w' => e = .returned (.bool true) ∧ Below W.heap.size W w' := known15 W
set_option maxRecDepth 100000 in
set_option maxHeartbeats 8000000 in
theorem chainNewest_any (A : Option Addr) (L : List Mv) (c : Nat) (w : World) (ha : RowA w A L) (hm : ∀ m ∈ L, MvIn w m) (hs : ∀ m ∈ L, m.v.val.length ≤ 281474976710656) (hl : L.length ≤ maxLen) :
    Calls Try.prog 9 #[.slice A L.length c] w fun e w' => e = .returned (.bool true) ∧ Below w.heap.size w w' := by
  have HH := Lib.hid (lheavy A L c w ha hs hl)
  have HOF0 := fun (h300 : L.length ≤ 300) => ch_of A L c w ha (by omega) (fun m h => (hm m h).at_)
  have HOF := Lib.hid HOF0
  have HBR : Hid (Below w.heap.size w w) := Lib.hid (Below.refl _ _)
  clear ha hm hs hl HOF0
  go_enter Try.func9, Try.ntmps9
  go_wp2_with fail
  refine HH.out.mono ?_
  rintro e w0 ⟨⟨hb, rfl, h300⟩, rfl⟩
  cases hb with
  | true =>
    clear h300 HH HOF
    go_wp2
    go_ret
    exact ⟨rfl, HBR.out⟩
  | false =>
    have h3 := h300 rfl
    by_cases h0 : L.length = 0
    · have t0 : ((L.length : Int) == 0) = true := beq_of (by omega)
      have t0' : (L.length : Int) = 0 := by omega
      clear h300 HH HOF h3
      go_wp2
      go_ret
      exact ⟨rfl, HBR.out⟩
    · have t0 : ((L.length : Int) == 0) = false := beq_no (by omega)
      have t0' : ¬ (L.length : Int) = 0 := by omega
      have HO := Lib.hid (HOF.out h3)
      have hlen3 : (L.length : Int) ≤ 300 := by omega
      have HPOS : Hid (0 < L.length) := Lib.hid (by omega)
      clear h300 HH HOF h3
      go_wp2_with fail
      refine HO.out.mono ?_
      rintro e w1 (⟨hne, rfl, hb1⟩ | ⟨heq, hri, b, v, L', rfl, hch, hmap, _, hb1⟩)
      · have HB1 := Lib.hid hb1
        generalize (ofM [] (L.map Mv.v)).1 = q at *
        have tq : (q != 0) = true := by simpa using hne
        clear hne hb1 HO
        go_wp2_with fail
        refine (known15 _).mono ?_
        rintro e w2 ⟨rfl, hb2⟩
        have HB2 := Lib.hid (HB1.out.trans (hb2.mono HB1.out.size))
        clear hb2
        go_wp2
        go_ret
        exact ⟨rfl, HB2.out⟩
      · have hlen : L'.length = L.length := by
          have h1 := ofM_len heq
          have h2 := congrArg List.length hmap
          simp only [List.length_map, List.length_nil, Nat.zero_add] at h1 h2
          omega
        have hok : ∀ x ∈ L', x.v.ok = true := fun x hx => all_ok heq _ (mem_map_v hmap hx)
        have hri' : Rise (L'.map Mv.v) := by rw [hmap]; exact hri
        obtain ⟨k, hk⟩ : ∃ k, L'.length = k + 1 := ⟨L'.length - 1, by have := HPOS.out; omega⟩
        obtain ⟨x, hx⟩ : ∃ x, L'[k]? = some x := ⟨L'[k]'(by omega), List.getElem?_eq_getElem _⟩
        have hxm := List.mem_of_getElem? hx
        have hsA := stand_t hri' (281474976710655, 65535)
        have hpA : posT (L'.map Mv.v) (281474976710655, 65535) = k + 1 := by
          unfold posT
          rw [posP_all (fun z hz => ?_)]
          · simpa using hk
          · obtain ⟨y, hy, rfl⟩ := List.mem_map.1 hz
            have := ok_bd (hok y hy)
            simp only [leT, decide_eq_true_eq]
            exact cmp2_le.2 (by omega)
        rw [hpA] at hsA
        have hsB := stand_t hri' (-1, 0)
        have hpB : posT (L'.map Mv.v) (-1, 0) = 0 := by
          unfold posT
          rw [posP_none (fun z hz => ?_)]
          obtain ⟨y, hy, rfl⟩ := List.mem_map.1 hz
          have := ok_bd (hok y hy)
          simp only [leT, decide_eq_false_iff_not]
          intro h
          have := cmp2_le.1 h
          omega
        rw [hpB] at hsB
        have HXB := Lib.hid (hch.ats x hxm).y
        have HAL := Lib.hid (ch_all _ b v L' w1 hch (by omega) (fun x hx => by have := ok_bd (hok x hx); omega))
        have HA := Lib.hid (fun W (hc : Ch (fun i => w0.heap.size ≤ i) W b v L') => ch_at_some _ b v L' 281474976710655 65535 k x W hc (by omega) hsA hx (by have := ok_bd (hok x hxm); omega))
        have HN := Lib.hid (fun W (hc : Ch (fun i => w0.heap.size ≤ i) W b v L') => ch_at_none _ b v L' (-1) 0 W hc (by omega) hsB)
        have HC1 := Lib.hid hch
        have HB1 := Lib.hid hb1
        have HK : Hid (L.length = k + 1) := Lib.hid (by omega)
        have HX := Lib.hid hx
        have HK' := Lib.hid hk
        clear hch hb1 hmap heq hri hri' hok hsA hsB hpA hpB hx hxm HO hlen hk
        go_wp2_with fail
        refine HAL.out.mono ?_
        rintro e w2 ⟨v6, L6, rfl, hcp, hm6, hb2⟩
        have HC2 := Lib.hid (HC1.out.below hb2)
        have HB2 := Lib.hid (HB1.out.trans (hb2.mono HB1.out.size))
        have hl6 : L6.length = k + 1 := by have := congrArg List.length hm6; simp only [List.length_map] at this; rw [this]; exact HK'.out
        obtain ⟨g6, c6, rfl, hcap6, _⟩ := row_shape hcp.row (by omega)
        have HCP := Lib.hid hcp
        have HX6 : Hid (∃ x6, L6[k]? = some x6 ∧ x6.v = x.v) := Lib.hid (by
          have hlt6 : k < L6.length := by omega
          refine ⟨L6[k], List.getElem?_eq_getElem hlt6, ?_⟩
          have h1 := congrArg (fun l => l[k]?) hm6
          simp only [List.getElem?_map, HX.out, List.getElem?_eq_getElem hlt6, Option.map_some, Option.some.injEq] at h1
          exact h1)
        have HL6 := Lib.hid hl6
        rw [hl6] at hcap6 ⊢
        clear hb2 hcp hm6 hl6 HAL
        go_wp2_with fail
        refine (HA.out _ HC2.out).mono ?_
        rintro e w3 ⟨A3, k3, rfl, ho3, hb3⟩
        have HC3 := Lib.hid (HC2.out.below hb3)
        have HB3 := Lib.hid (HB2.out.trans (hb3.mono HB2.out.size))
        have HO3 := Lib.hid ho3
        have HCP3 := Lib.hid (HCP.out.below hb3)
        obtain ⟨⟨ml, ct, vo, val, gn, tt⟩, Ax, cx⟩ := x
        have hal : Below w3.heap.size w3 (w3.alloc (verO ml ct vo A3 val.length k3 gn tt)) := (Below.refl _ _).alloc (Nat.le_refl _) _
        have HAL3 := Lib.hid hal
        clear hb3 ho3 hal HA
        go_wp2_with fail
        refine (HN.out _ (HC3.out.below HAL3.out)).mono ?_
        rintro e w4 ⟨rfl, hb4⟩
        have r0 : w4.cell? ⟨w3.heap.size, 0, none⟩ = some (.int .i64 ml) := (hb4.cell (p := ⟨w3.heap.size, 0, none⟩) (by simp)).trans (by simp)
        have r1 : w4.cell? ⟨w3.heap.size, 1, none⟩ = some (.int .i64 ct) := (hb4.cell (p := ⟨w3.heap.size, 1, none⟩) (by simp)).trans (by simp)
        have r2 : w4.cell? ⟨w3.heap.size, 2, none⟩ = some (.int .i64 vo) := (hb4.cell (p := ⟨w3.heap.size, 2, none⟩) (by simp)).trans (by simp)
        have r3 : w4.cell? ⟨w3.heap.size, 3, none⟩ = some (.slice A3 val.length k3) := (hb4.cell (p := ⟨w3.heap.size, 3, none⟩) (by simp)).trans (by simp)
        have r4 : w4.cell? ⟨w3.heap.size, 4, none⟩ = some (.bool gn) := (hb4.cell (p := ⟨w3.heap.size, 4, none⟩) (by simp)).trans (by simp)
        have r5 : w4.cell? ⟨w3.heap.size, 5, none⟩ = some (.int .i64 tt) := (hb4.cell (p := ⟨w3.heap.size, 5, none⟩) (by simp)).trans (by simp)
        have hb34 : Below w3.heap.size w3 w4 := HAL3.out.trans (hb4.mono HAL3.out.size)
        have HB4 := Lib.hid (HB3.out.trans (hb34.mono HB3.out.size))
        have HCP4 := Lib.hid (HCP3.out.below hb34)
        have HO4 := Lib.hid (row_below HO3.out hb34)
        clear hb4 hb34 HC3 HAL3 HCP3 HO3 HN
        generalize w3.heap.size = B3 at *
        have hba : Below w4.heap.size w4 (w4.alloc (verO 0 0 0 none 0 0 false 0)) := (Below.refl _ _).alloc (Nat.le_refl _) _
        have lr : B3 < w4.heap.size := block_lt_of_cell r0
        have s0 := (hba.cell (p := ⟨B3, 0, none⟩) lr).trans r0
        have s1 := (hba.cell (p := ⟨B3, 1, none⟩) lr).trans r1
        have s2 := (hba.cell (p := ⟨B3, 2, none⟩) lr).trans r2
        have s3 := (hba.cell (p := ⟨B3, 3, none⟩) lr).trans r3
        have s4 := (hba.cell (p := ⟨B3, 4, none⟩) lr).trans r4
        have s5 := (hba.cell (p := ⟨B3, 5, none⟩) lr).trans r5
        have HB5 := Lib.hid (HB4.out.trans (hba.mono HB4.out.size))
        have HCP5 := Lib.hid (HCP4.out.below hba)
        have HO5 := Lib.hid (row_below HO4.out hba)
        clear r0 r1 r2 r3 r4 r5 hba lr HB4 HCP4 HO4
        go_wp2_with fail
        obtain ⟨⟨⟨ml', ct', vo', val', gn', tt'⟩, A6, cc6⟩, hx6, hv6⟩ := HX6.out
        simp only [Vs.mk.injEq] at hv6
        obtain ⟨rfl, rfl, rfl, rfl, rfl, rfl⟩ := hv6
        generalize w4.alloc (verO 0 0 0 none 0 0 false 0) = w5 at *
        have hrow5 := HCP5.out.row
        rw [HL6.out] at hrow5
        obtain ⟨a0, a1, a2, a3, a4, a5⟩ := row_ver hrow5 hx6
        have hown6 := HCP5.out.own _ (List.mem_of_getElem? hx6)
        obtain ⟨A7, c7, e7, _, hby7, hn7, _⟩ := own8_shape hown6
        obtain ⟨rfl, rfl⟩ : A6 = A7 ∧ cc6 = c7 := by injection e7 with h1 h2 h3; exact ⟨h1, h3⟩
        obtain ⟨A8, c8, e8, _, hby8, hn8, _⟩ := own8_shape HO5.out
        obtain ⟨rfl, rfl⟩ : A3 = A8 ∧ k3 = c8 := by injection e8 with h1 h2 h3; exact ⟨h1, h3⟩
        have hxb : isBy val' := HXB.out
        have hcon := fun W (hb : Below w5.heap.size w5 W) => ref_sameV ml' ct' vo' val' gn' tt' A3 k3 ml' ct' vo' val' gn' tt' A6 cc6 W (hby8.below hb) hxb hn8 (hby7.below hb) hxb hn7
        rw [(sameVB_iff ⟨ml', ct', vo', val', gn', tt'⟩ ⟨ml', ct', vo', val', gn', tt'⟩).2 rfl] at hcon
        have AC := Lib.hid fun (d' : Nat) (os : Array Obj) => Calls.regrown_of (hcon (grow (redrawn w5 d') os) (below_regrown w5 d' os))
        have AK := Lib.hid fun (d' : Nat) (os : Array Obj) => Calls.regrown_of (known15 (grow (redrawn w5 d') os))
        have ks0 := fun d os => cell_regrown s0 d os
        have ks1 := fun d os => cell_regrown s1 d os
        have ks2 := fun d os => cell_regrown s2 d os
        have ks3 := fun d os => cell_regrown s3 d os
        have ks4 := fun d os => cell_regrown s4 d os
        have ks5 := fun d os => cell_regrown s5 d os
        have ka0 := fun d os => cell_regrown a0 d os
        have ka1 := fun d os => cell_regrown a1 d os
        have ka2 := fun d os => cell_regrown a2 d os
        have ka3 := fun d os => cell_regrown a3 d os
        have ka4 := fun d os => cell_regrown a4 d os
        have ka5 := fun d os => cell_regrown a5 d os
        have tk : ((k : Int) + 1 == (L.length : Int)) = true := beq_of (by have := HK.out; omega)
        have hkb : k ≤ 300 := by have := HK.out; omega
        have wk : IntKind.i64.wrap ((k : Int) + 1 - 1) = (k : Int) := by rw [show (k : Int) + 1 - 1 = k from by omega]; exact IntWalk.i64_in _ (by omega)
        have wk2 : IntKind.i64.wrap (k : Int) = (k : Int) := IntWalk.i64_in _ (by omega)
        clear s0 s1 s2 s3 s4 s5 a0 a1 a2 a3 a4 a5 hcon hby7 hby8 hn7 hn8 hown6 e7 e8 hrow5 hx6 HX6 HCP5 HCP HO5
        refine wp_region_quiet_below (by kernel_rfl) (by kernel_rfl) ?_
        repeat (go_big_quiet_step ((first | (go_at_call 25; exact AC.out _ _) | (go_at_call 13; exact AK.out _ _))))
        refine wpQuiet_nil ?_
        intro _ hw'
        obtain ⟨⟨dq, osq⟩, hw''⟩ := hw'
        subst hw''
        have HBF := Lib.hid (HB5.out.trans ((below_regrown w5 dq osq).mono HB5.out.size))
        go_wp2
        go_ret
        exact ⟨rfl, HBF.out⟩
set_option maxRecDepth 100000 in
theorem chainNewest_lifted (os : Os) (started : os.Started) (H : Type) (enc : TypeId × Value → H) :
    ReturnsInHanded {} Try.checked os 9 .any (Rows.chainNewestSpec.pre6 enc Try.prog Try.f9 Rows.chainNewestRow.domain false) (Rows.chainNewestSpec.post enc Try.prog Try.f9 false true false false) := by
  refine returnsInHanded_of_change_sized (C := Try.checked) law_own started (by kernel_rfl) Try.func9
    (ChangeSpec.witness6 (enc := enc) (C := Try.checked) false ⟨#[], #[.slice none 0 0], []⟩ 8 (by kernel_rfl) (by kernel_rfl) (by kernel_rfl) (by kernel_rfl)) ?_
  intro W base args ds gs before hval0 hW hcnd hsz0 _
  have hval : ∀ (j : Nat) t v, Try.f9.params[j]? = some t → args[j]? = some v → Value.okWide Try.prog W .any base t v := hval0
  have hsz : (DataW.weightsEach Try.prog (Try.f9.params.toList ++ Rows.chainNewestSpec.plain.varTypes Try.prog) (ds ++ gs)).all (· ≤ reachBytes) = true := hsz0
  have hW' := hW
  obtain ⟨p, q, hA0, hV, rfl, hfz, hnd⟩ := hW
  have hA : DataW.TrodAll enc Try.prog W 0 (fun _ => true) true Try.f9.params.toList args.toList ds p := hA0
  rw [Try.params9] at hA hval hsz
  have hsame : (Rows.chainNewestSpec.fn H (ds ++ gs)).results = [.lit (.bool true)] ∧ (Rows.chainNewestSpec.fn H (ds ++ gs)).args = ds ∧ (Rows.chainNewestSpec.fn H (ds ++ gs)).vars = [] → ∀ W', Below W.heap.size W W' → Rows.chainNewestSpec.post enc Try.prog Try.f9 false true false false W args (.bool true) W' :=
    fun h W' hb => law_post (tb := 4) hW' law_laid (by kernel_rfl) rfl Try.underlying4 h.1 h.2.1 rfl h.2.2 hb
  obtain ⟨v0, vs0, d0, ds0, p0, q0, hargs, rfl, rfl, h0, r0⟩ := trodAll_cons hA
  obtain ⟨rfl, rfl, rfl⟩ := trodAll_nil r0
  obtain rfl : args = #[v0] := by cases args; simp_all
  obtain ⟨rfl, rfl⟩ := trodVars_none hV
  have hpost := hsame ⟨rfl, rfl, rfl⟩
  clear hsame hA0 hval0 hsz0
  obtain ⟨L, A, c, rfl, _, _, hrow, hin, _, hz⟩ := open_versions (hval 0 22 v0 rfl rfl) h0
  have hk := hz reachBytes (sized_each (j := 0) hsz rfl rfl)
  unfold reachBytes at hk
  exact (chainNewest_any A L c W hrow hin (fun m hm => by have := hk m hm; omega) (by omega)).mono fun e W' ⟨he, hb⟩ => ⟨_, he, hpost W' hb⟩
theorem chainNewest_holds : Rows.ChainNewestSaid :=
  OpenClaim.holds_of_wide 9 Try.f9 rfl rfl rfl rfl rfl rfl rfl ⟨rfl, rfl, rfl, rfl, rfl⟩ rfl rfl rfl rfl rfl (by kernel_rfl) Try.func9 (by kernel_rfl)
    (of_decide_eq_true (by kernel_rfl)) (by unfold Func.isWrapper; first | (rw [if_pos (by decide +kernel)]; kernel_rfl) | (rw [if_neg (by decide +kernel)]; exact ⟨rfl, rfl⟩))
    (fun os started H enc _ => chainNewest_lifted os started H enc)
end Go.Proofs.Ytfjnjababehmmaa
