/- Stage 15: ChainTwice: a version with a stamp and a place that is there is refused, and nothing is changed: for every row of versions, place in it and value. -/
import Derived.Test.YtfjnjababehmmaaS15W
import Derived.Test.YtfjnjababehmmaaLow40
set_option linter.unusedSimpArgs false
set_option linter.unusedVariables false
namespace Go.Proofs.Ytfjnjababehmmaa
open Go.ChangeShapes Go.WideShapes Go.ChangeAt Go.RowKit Go.Joins Go.Deep Go.Sort

theorem open_bytes_arg {H : Type} {enc : TypeId × Value → H} {w : World} {r : Reach} {b0 base : Nat} {sp : Nat → Bool} {v : Value} {d : DataW H} {p : List MemPlace} (hv : Value.okWide Try.prog w r b0 26 v) (h : DataW.Trod enc Try.prog w base sp true 26 v d p) :
    ∃ (A : Option Addr) (l : List Int) (c : Nat), v = .slice A l.length c ∧ l.length ≤ c ∧ c ≤ maxLen ∧ ByL w A l ∧ isBy l ∧ (A = none → l.length = 0) := by
  obtain ⟨a0, len, cap, rfl⟩ := okWide_slice Try.underlying26 hv
  obtain ⟨fuel, hf⟩ := h
  have e : (Value.slice a0 len cap).cells.toList = [Value.slice a0 len cap] := by simp [Value.cells]
  rw [e] at hf
  obtain ⟨A, l, c, e1, hl, hm, hby, hb, hn, _⟩ := open_bytes hf
  simp only [List.cons.injEq, and_true] at e1
  exact ⟨A, l, c, e1, hl, hm, hby, hb, hn⟩
set_option maxRecDepth 100000 in
set_option maxHeartbeats 8000000 in
theorem chainTwice_any (A : Option Addr) (L : List Mv) (c : Nat) (at_ : Int) (Av : Option Addr) (val : List Int) (cv : Nat) (w : World) (ha : RowA w A L) (hm : ∀ m ∈ L, MvIn w m) (hs : ∀ m ∈ L, m.v.val.length ≤ 281474976710656) (hl : L.length ≤ maxLen)
    (hby : ByL w Av val) (hb : isBy val) (hn : Av = none → val.length = 0) :
    Calls Try.prog 8 #[.slice A L.length c, .int .i64 at_, .slice Av val.length cv] w fun e w' => e = .returned (.bool true) ∧ Below w.heap.size w w' := by
  have HH := Lib.hid (lheavy A L c w ha hs hl)
  have HOF0 := fun (h300 : L.length ≤ 300) => ch_of A L c w ha (by omega) (fun m h => (hm m h).at_)
  have HOF := Lib.hid HOF0
  have HBR : Hid (Below w.heap.size w w) := Lib.hid (Below.refl _ _)
  have HA := Lib.hid ha
  have HBY := Lib.hid hby
  have HBB := Lib.hid hb
  have HNN := Lib.hid hn
  clear ha hm hs hl HOF0 hby hb hn
  go_enter Try.func8, Try.ntmps8
  go_wp2_with fail
  refine HH.out.mono ?_
  rintro e w0 ⟨⟨hb, rfl, h300⟩, rfl⟩
  cases hb with
  | true =>
    clear h300 HH HOF
    go_wp2
    go_ret
    exact ⟨rfl, HBR.out⟩
  | false =>
    have h3 := h300 rfl
    by_cases h0 : L.length = 0
    · have t0 : ((L.length : Int) == 0) = true := beq_of (by omega)
      have t0' : (L.length : Int) = 0 := by omega
      clear h300 HH HOF h3
      go_wp2
      go_ret
      exact ⟨rfl, HBR.out⟩
    by_cases h1000 : 1000 < val.length
    · have t0 : ((L.length : Int) == 0) = false := beq_no (by omega)
      have t0' : ¬ (L.length : Int) = 0 := by omega
      have t1 : decide ((1000 : Int) < (val.length : Int)) = true := by simp only [decide_eq_true_eq]; omega
      clear h300 HH HOF h3
      go_wp2
      go_ret
      exact ⟨rfl, HBR.out⟩
    · have t0 : ((L.length : Int) == 0) = false := beq_no (by omega)
      have t0' : ¬ (L.length : Int) = 0 := by omega
      have t1 : decide ((1000 : Int) < (val.length : Int)) = false := by simp only [decide_eq_false_iff_not]; omega
      have HO := Lib.hid (HOF.out h3)
      have hlen3 : (L.length : Int) ≤ 300 := by omega
      have HPOS : Hid (0 < L.length) := Lib.hid (by omega)
      have HV1000 : Hid (val.length ≤ 1000) := Lib.hid (by omega)
      clear h300 HH HOF h3 h1000
      go_wp2_with fail
      refine HO.out.mono ?_
      rintro e w1 (⟨hne, rfl, hb1⟩ | ⟨heq, hri, b, v, L', rfl, hch, hmap, _, hb1⟩)
      · have HB1 := Lib.hid hb1
        generalize (ofM [] (L.map Mv.v)).1 = q at *
        have tq : (q != 0) = true := by simpa using hne
        clear hne hb1 HO
        go_wp2_with fail
        refine (known15 _).mono ?_
        rintro e w2 ⟨rfl, hb2⟩
        have HB2 := Lib.hid (HB1.out.trans (hb2.mono HB1.out.size))
        clear hb2
        go_wp2
        go_ret
        exact ⟨rfl, HB2.out⟩
      · have hlen : L'.length = L.length := by
          have h1 := ofM_len heq
          have h2 := congrArg List.length hmap
          simp only [List.length_map, List.length_nil, Nat.zero_add] at h1 h2
          omega
        have hok : ∀ x ∈ L', x.v.ok = true := fun x hx => all_ok heq _ (mem_map_v hmap hx)
        have hri' : Rise (L'.map Mv.v) := by rw [hmap]; exact hri
        have hmem : ∀ x ∈ L, x.v ∈ L'.map Mv.v := fun x hx => by
          rw [hmap]
          exact (ofM_mem heq x.v).2 (.inr (List.mem_map_of_mem hx))
        have HMEM := Lib.hid hmem
        have HOK := Lib.hid (fun x (hx : x ∈ L) => ofM_ok heq x.v (List.mem_map_of_mem hx))
        have hbv : ∀ x ∈ L', x.v.val.length ≤ 100000 := fun x hx => by have := ok_bd (hok x hx); omega
        have HAL := Lib.hid (ch_all _ b v L' w1 hch (by omega) hbv)
        have HALL := Lib.hid (fun W (hc : Ch (fun i => w0.heap.size ≤ i) W b v L') => ch_all _ b v L' W hc (by omega) hbv)
        have HPUT := Lib.hid (fun W (m : Mv) (hc : Ch (fun i => w0.heap.size ≤ i) W b v L') (ha : m.At (fun _ => True) W) => ch_put _ b v L' m W hc hri' (by omega) ha)
        have HBYL := Lib.hid (fun x (hx : x ∈ L') => (hch.ats x hx).y)
        have HC1 := Lib.hid hch
        have HB1 := Lib.hid hb1
        have HRI := Lib.hid hri'
        have HLEN : Hid (L'.length = L.length) := hlen
        clear hch hb1 hmap heq hri hri' hok hmem hbv HO hlen
        go_wp2_with fail
        refine HAL.out.mono ?_
        rintro e w2 ⟨v6, L6, rfl, hcp, hm6, hb2⟩
        have HC2 := Lib.hid (HC1.out.below hb2)
        have HB2 := Lib.hid (HB1.out.trans (hb2.mono HB1.out.size))
        obtain ⟨A6, c6, rfl⟩ := row_shapeV hcp.row
        have HCP := Lib.hid hcp
        have HM6 := Lib.hid hm6
        have bb : 0 ≤ bits .and .i64 at_ ((65535 : Nat) : Int) ∧ bits .and .i64 at_ ((65535 : Nat) : Int) ≤ ((65535 : Nat) : Int) := bits_and_le at_ 65535 (by omega)
        have bb' : 0 ≤ bits .and .i64 at_ 65535 ∧ bits .and .i64 at_ 65535 ≤ 65535 := bb
        obtain ⟨kk, hkk, hkl⟩ : ∃ kk : Nat, bits .and .i64 at_ 65535 % (L.length : Int) = (kk : Int) ∧ kk < L.length := by
          have h1 := Int.emod_nonneg (bits .and .i64 at_ 65535) (show (L.length : Int) ≠ 0 from by omega)
          have h2 := Int.emod_lt_of_pos (bits .and .i64 at_ 65535) (show (0 : Int) < (L.length : Int) from by have := HPOS.out; omega)
          exact ⟨(bits .and .i64 at_ 65535 % (L.length : Int)).toNat, by omega, by omega⟩
        have hyt : (bits .and .i64 at_ 65535).tmod (L.length : Int) = (kk : Int) := (Int.tmod_eq_emod_of_nonneg bb'.1).trans hkk
        have hkl2 : (kk : Int) < (L.length : Int) := by omega
        have HKK := Lib.hid hkk
        clear hkk
        obtain ⟨x, hx⟩ : ∃ x, L[kk]? = some x := ⟨L[kk]'hkl, List.getElem?_eq_getElem _⟩
        have hxm := List.mem_of_getElem? hx
        obtain ⟨B, O, rfl, hBl, hcell⟩ := HA.out HPOS.out
        obtain ⟨a0, a1, a2, a3, a4, a5⟩ := RowA.ver hcell hx
        have ga : ∀ o, w2.cell? ⟨B, o, none⟩ = w0.cell? ⟨B, o, none⟩ := fun o => HB2.out.cell (p := ⟨B, o, none⟩) hBl
        rw [← ga] at a0 a1 a2 a3 a4 a5
        have HMX := Lib.hid (HMEM.out x hxm)
        have hok := ok_bd (HOK.out x hxm)
        obtain ⟨⟨ml, ct, vo, vx, gx, tt⟩, Ax, cx⟩ := x
        have HE : Hid (putE (L'.map Mv.v) ⟨ml, ct, vo, val, false, tt⟩ = 8) := Lib.hid (by
          have h1 : (⟨ml, ct, vo, val, false, tt⟩ : Vs).ok = true := by
            show okV ml ct vo val.length false tt = true
            have := HV1000.out
            simp [okV, isStB]
            simp only at hok
            omega
          have h2 : hasAt (L'.map Mv.v) ⟨ml, ct, vo, val, false, tt⟩ = true := has_of_mem HRI.out HMX.out (cmpV_eq.2 ⟨rfl, rfl, rfl⟩)
          unfold putE
          simp [h1, h2])
        have hal : Below w2.heap.size w2 (w2.alloc (verO ml ct vo Av val.length cv false tt)) := (Below.refl _ _).alloc (Nat.le_refl _) _
        have HP := Lib.hid (HPUT.out (w2.alloc (verO ml ct vo Av val.length cv false tt)) ⟨⟨ml, ct, vo, val, false, tt⟩, Av, cv⟩ (HC2.out.below hal) ⟨HBY.out.below (HB2.out.trans (hal.mono HB2.out.size)), HNN.out, fun _ _ _ => trivial, HBB.out⟩)
        have HB3 := Lib.hid (HB2.out.trans (hal.mono HB2.out.size))
        have HC3 := Lib.hid (HC2.out.below hal)
        have HCP3 := Lib.hid (HCP.out.below hal)
        clear hb2 hcp hm6 HAL ga hcell hx hxm hal hok HPUT HMEM HOK HMX HA bb
        go_wp2_with fail
        refine HP.out.mono ?_
        rintro e w4 (⟨_, rfl, hb4⟩ | ⟨h8, _⟩)
        · rw [HE.out]
          have HB4 := Lib.hid (HB3.out.trans (hb4.mono HB3.out.size))
          have HA4 := Lib.hid (HALL.out w4 (HC3.out.below hb4))
          have HCP4 := Lib.hid (HCP3.out.below hb4)
          clear hb4 HP a0 a1 a2 a3 a4 a5
          go_wp2_with fail
          refine HA4.out.mono ?_
          rintro e w5 ⟨v7, L7, rfl, hcp7, hm7, hb5⟩
          have HB5 := Lib.hid (HB4.out.trans (hb5.mono HB4.out.size))
          have HCP5 := Lib.hid (HCP4.out.below hb5)
          obtain ⟨A7, c7, rfl⟩ := row_shapeV hcp7.row
          have cps_row : ∀ {B : Nat} {W : World} {A : Option Addr} {n c : Nat} {M : List Mv}, Cps B W (.slice A M.length c) M → RowA W A M := fun h h0 => by
            obtain ⟨g, cap, e, _, _, hg⟩ := row_shape h.row h0
            injection e with e1 e2 e3
            subst e1
            exact ⟨g, 0, rfl, hg, fun j u hu => by rw [Nat.zero_add]; exact row_cell (e3 ▸ h.row) hu⟩
          have cps_at : ∀ {B : Nat} {W : World} {v : Value} {M : List Mv}, Cps B W v M → (M.map Mv.v = L'.map Mv.v) → ∀ m ∈ M, m.At (fun _ => True) W := fun h hmm m hmem => by
            obtain ⟨A9, c9, e9, _, hby9, hn9, _⟩ := own8_shape (h.own m hmem)
            injection e9 with e1 _ _
            have hv : m.v ∈ L'.map Mv.v := by rw [← hmm]; exact List.mem_map_of_mem hmem
            obtain ⟨y, hy, hyv⟩ := List.mem_map.1 hv
            refine ⟨by rw [e1]; exact hby9, fun e => hn9 (e1 ▸ e), fun _ _ _ => trivial, ?_⟩
            rw [← hyv]
            exact HBYL.out y hy
          have hl7 : L7.length = L'.length := by have := congrArg List.length hm7; simpa using this
          have hl6 : L6.length = L'.length := by have := congrArg List.length HM6.out; simpa using this
          have HVS := Lib.hid (lversions A7 A6 L7 L6 c7 c6 w5 (cps_row (n := 0) hcp7) (cps_row (n := 0) HCP5.out) (cps_at hcp7 hm7) (cps_at HCP5.out HM6.out) (by have := HLEN.out; omega) (by have := HLEN.out; omega))
          have HEQ := Lib.hid (hm7.trans HM6.out.symm)
          clear hcp7 hm7 hb5 cps_row cps_at hl7 hl6 HA4
          go_wp2_with fail
          refine HVS.out.mono ?_
          rintro e w6 ⟨⟨sb, rfl, hsb⟩, hb6⟩
          obtain rfl : sb = true := hsb.2 HEQ.out
          have HB6 := Lib.hid (HB5.out.trans (hb6.mono HB5.out.size))
          clear hb6 hsb HVS
          go_wp2_with fail
          refine (known15 _).mono ?_
          rintro e w7 ⟨rfl, hb7⟩
          have HB7 := Lib.hid (HB6.out.trans (hb7.mono HB6.out.size))
          clear hb7
          go_wp2
          go_ret
          exact ⟨rfl, HB7.out⟩
        · have h9 : putE (L'.map Mv.v) ⟨ml, ct, vo, val, false, tt⟩ = 0 := h8
          rw [HE.out] at h9
          exact absurd h9 (by omega)
set_option maxRecDepth 100000 in
theorem chainTwice_lifted (os : Os) (started : os.Started) (H : Type) (enc : TypeId × Value → H) :
    ReturnsInHanded {} Try.checked os 8 .any (Rows.chainTwiceSpec.pre6 enc Try.prog Try.f8 Rows.chainTwiceRow.domain false) (Rows.chainTwiceSpec.post enc Try.prog Try.f8 false true false false) := by
  refine returnsInHanded_of_change_sized (C := Try.checked) law_own started (by kernel_rfl) Try.func8
    (ChangeSpec.witness6 (enc := enc) (C := Try.checked) false ⟨#[], #[.slice none 0 0, .int .i64 0, .slice none 0 0], []⟩ 8 (by kernel_rfl) (by kernel_rfl) (by kernel_rfl) (by kernel_rfl)) ?_
  intro W base args ds gs before hval0 hW hcnd hsz0 _
  have hval : ∀ (j : Nat) t v, Try.f8.params[j]? = some t → args[j]? = some v → Value.okWide Try.prog W .any base t v := hval0
  have hsz : (DataW.weightsEach Try.prog (Try.f8.params.toList ++ Rows.chainTwiceSpec.plain.varTypes Try.prog) (ds ++ gs)).all (· ≤ reachBytes) = true := hsz0
  have hW' := hW
  obtain ⟨p, q, hA0, hV, rfl, hfz, hnd⟩ := hW
  have hA : DataW.TrodAll enc Try.prog W 0 (fun _ => true) true Try.f8.params.toList args.toList ds p := hA0
  rw [Try.params8] at hA hval hsz
  have hsame : (Rows.chainTwiceSpec.fn H (ds ++ gs)).results = [.lit (.bool true)] ∧ (Rows.chainTwiceSpec.fn H (ds ++ gs)).args = ds ∧ (Rows.chainTwiceSpec.fn H (ds ++ gs)).vars = [] → ∀ W', Below W.heap.size W W' → Rows.chainTwiceSpec.post enc Try.prog Try.f8 false true false false W args (.bool true) W' :=
    fun h W' hb => law_post (tb := 4) hW' law_laid (by kernel_rfl) rfl Try.underlying4 h.1 h.2.1 rfl h.2.2 hb
  obtain ⟨v0, vs0, d0, ds0, p0, q0, hargs, rfl, rfl, h0, r0⟩ := trodAll_cons hA
  obtain ⟨v1, vs1, d1, ds1, p1, q1, rfl, rfl, rfl, h1, r1⟩ := trodAll_cons r0
  obtain ⟨v2, vs2, d2, ds2, p2, q2, rfl, rfl, rfl, h2, r2⟩ := trodAll_cons r1
  obtain ⟨rfl, rfl, rfl⟩ := trodAll_nil r2
  obtain rfl : args = #[v0, v1, v2] := by cases args; simp_all
  obtain ⟨rfl, rfl⟩ := trodVars_none hV
  have hpost := hsame ⟨rfl, rfl, rfl⟩
  clear hsame hA0 hval0 hsz0
  obtain ⟨L, A, c, rfl, _, _, hrow, hin, _, hz⟩ := open_versions (hval 0 22 v0 rfl rfl) h0
  obtain ⟨a1, rfl, rfl, rfl, wf1⟩ := open_int Try.underlying3 (hval 1 3 v1 rfl rfl) h1
  obtain ⟨Av, val, cv, rfl, _, _, hby, hb, hn⟩ := open_bytes_arg (hval 2 26 v2 rfl rfl) h2
  have hk := hz reachBytes (sized_each (j := 0) hsz rfl rfl)
  unfold reachBytes at hk
  exact (chainTwice_any A L c a1 Av val cv W hrow hin (fun m hm => by have := hk m hm; omega) (by omega) hby hb hn).mono fun e W' ⟨he, hb⟩ => ⟨_, he, hpost W' hb⟩
theorem chainTwice_holds : Rows.ChainTwiceSaid :=
  OpenClaim.holds_of_wide 8 Try.f8 rfl rfl rfl rfl rfl rfl rfl ⟨rfl, rfl, rfl, rfl, rfl⟩ rfl rfl rfl rfl rfl (by kernel_rfl) Try.func8 (by kernel_rfl)
    (of_decide_eq_true (by kernel_rfl)) (by unfold Func.isWrapper; first | (rw [if_pos (by decide +kernel)]; kernel_rfl) | (rw [if_neg (by decide +kernel)]; exact ⟨rfl, rfl⟩))
    (fun os started H enc _ => chainTwice_lifted os started H enc)
end Go.Proofs.Ytfjnjababehmmaa
