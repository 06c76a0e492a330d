/- Stage 25: CausalWrites: the law's walk and the claim (written by gen/s25w.py). -/
import Derived.Test.YtdjhpajmbddffaaKn25
import Derived.Test.YtdjhpajmbddffaaRw25
import Derived.Test.YtdjhpajmbddffaaWa25
import Derived.Test.YtdjhpajmbddffaaWn25
import Derived.Test.YtdjhpajmbddffaaHv25
set_option linter.unusedSimpArgs false
set_option linter.unusedVariables false
namespace Go.Proofs.Ytdjhpajmbddffaa
open Go.RowKit Go.ChangeShapes Go.WideShapes Go.ChangeAt Go.Joins

theorem rowE_of {w : World} {A : Option Addr} {L : List EvA} (h : RowG (fun a : EvA => a.e.cs) w A L) (h0 : 0 < L.length) : ∃ B O, A = some ⟨B, O, none⟩ ∧ RowE w B O (L.map EvA.e) := by
  obtain ⟨B, O, rfl, hB, hc⟩ := h h0
  refine ⟨B, O, rfl, hB, fun k e hk j u hu => ?_⟩
  rw [List.getElem?_map] at hk
  obtain ⟨a, ha, rfl⟩ := Option.map_eq_some_iff.1 hk
  have hj : j < 18 := by
    have := (List.getElem?_eq_some_iff.1 hu).1
    rwa [Ev.len] at this
  have := hc (k * 18 + j) u (by rw [fm_at (fun a : EvA => a.e.cs) 18 (fun _ => rfl) ha j hj]; exact hu)
  rwa [← Nat.add_assoc] at this
theorem Ws.range {B : Nat} {w : World} {A : Option Addr} {c : Nat} {L : List Wq} (h : Ws B w (.slice A L.length c) L) {k : Nat} {x : Wq} (hk : L[k]? = some x) : ∃ g, A = some ⟨g, 0, none⟩ ∧ g < w.heap.size ∧ w.rangeAt g (k * 9) x.cs := by
  have hkl := (List.getElem?_eq_some_iff.1 hk).1
  have hr := h.row
  obtain ⟨g, cap, he, _, _, hg⟩ := row_shape hr (by omega)
  injection he with e1 _ _
  subst e1
  refine ⟨g, rfl, hg, fun j u hu => ?_⟩
  have hj : j < 9 := by
    have := (List.getElem?_eq_some_iff.1 hu).1
    rwa [Wq.len] at this
  exact row_cell hr (by rw [rowQ, fm_at Wq.cs 9 Wq.len hk j hj]; exact hu)
theorem Wr5.range {B : Nat} {w : World} {A : Option Addr} {c : Nat} {L : List Wq} (h : Wr5 B w (.slice A L.length c) L) {k : Nat} {x : Wq} (hk : L[k]? = some x) : ∃ g, A = some ⟨g, 0, none⟩ ∧ g < w.heap.size ∧ w.rangeAt g (k * 9) x.cs := by
  have hkl := (List.getElem?_eq_some_iff.1 hk).1
  have hr := h.row
  obtain ⟨g, cap, he, _, _, hg⟩ := row_shape hr (by omega)
  injection he with e1 _ _
  subst e1
  refine ⟨g, rfl, hg, fun j u hu => ?_⟩
  have hj : j < 9 := by
    have := (List.getElem?_eq_some_iff.1 hu).1
    rwa [Wq.len] at this
  exact row_cell hr (by rw [rowQ, fm_at Wq.cs 9 Wq.len hk j hj]; exact hu)
theorem written_same (m : Wm) (A A' : Option Addr) (c c' : Nat) (w : World) (hp : m.p.length ≤ 1000000) (h : ByL w A m.p) (h' : ByL w A' m.p) :
    Calls Try.prog 10 #[.agg (Wq.mk m A c).cs.toArray, .agg (Wq.mk m A' c').cs.toArray] w fun e w' => e = .returned (.bool true) ∧ Below w.heap.size w w' :=
  written_yes m.who m.tm m.tc m.nd m.tt m.key m.p m.gn m.un A A' c c' w hp h h'
/-- The bytes of the k-th event's value. -/
def pvA (L : List EvA) (k : Nat) : List Int := ((L[k]?).map EvA.p).getD []
theorem pvA_at {L : List EvA} {k : Nat} {a : EvA} (h : L[k]? = some a) : pvA L k = a.p := by simp [pvA, h]
theorem wsN_len (L : List Ev) (pv : Nat → List Int) (k : Nat) : (wsN L pv k).length ≤ k := by
  unfold wsN
  refine Nat.le_trans (List.length_filterMap_le _ _) ?_
  simp
theorem wsN_p {L : List Ev} {pv : Nat → List Int} {n N : Nat} (h : ∀ k e, L[k]? = some e → (pv k).length ≤ N) {m : Wm} (hm : m ∈ wsN L pv n) : m.p.length ≤ N := by
  unfold wsN at hm
  obtain ⟨i, _, hi⟩ := List.mem_filterMap.1 hm
  cases hL : L[i]? with
  | none => rw [hL] at hi; cases hi
  | some e =>
    rw [hL] at hi
    have hw : wOf e (pv i) = some m := hi
    unfold wOf at hw
    split at hw
    · injection hw with hw
      subst hw
      show (if e.kd = 1 then pv i else []).length ≤ N
      split
      · exact h i e hL
      · exact Nat.zero_le _
    · cases hw
theorem map_at {α β : Type} {f : α → β} {L N : List α} (h : L.map f = N.map f) {k : Nat} {x : α} (hx : L[k]? = some x) : ∃ y, N[k]? = some y ∧ f x = f y := by
  have h1 : (L.map f)[k]? = some (f x) := by rw [List.getElem?_map, hx]; rfl
  rw [h, List.getElem?_map] at h1
  obtain ⟨y, hy, he⟩ := Option.map_eq_some_iff.1 h1
  exact ⟨y, hy, he.symm⟩
theorem e_heavy (A : Option Addr) (c : Nat) (w : World) : Calls Try.prog 6 #[.slice A 0 c] w fun e w' => e = .returned (.bool false) ∧ Below w.heap.size w w' := by
  go_enter Try.func6, Try.ntmps6
  go_wp2_with fail
  refine wp_loop_rounds 1 ?_
  rw [rounds_succ]
  go_wp2_with fail
  go_ret
  exact ⟨by first | rfl | simp, Below.refl _ _⟩
theorem e_cw (A : Option Addr) (c : Nat) (w : World) : Calls Try.prog 7 #[.slice A 0 c] w fun e w' => e = .returned (.slice none 0 0) ∧ Below w.heap.size w w' := by
  go_enter Try.func7, Try.ntmps7
  go_wp2_with fail
  refine wp_loop_rounds 1 ?_
  rw [rounds_succ]
  go_wp2_with fail
  go_ret
  exact ⟨by first | rfl | simp, Below.refl _ _⟩
theorem e_plain (A : Option Addr) (c : Nat) (w : World) : Calls Try.prog 9 #[.slice A 0 c] w fun e w' => e = .returned (.slice none 0 0) ∧ Below w.heap.size w w' := by
  go_enter Try.func9, Try.ntmps9
  go_wp2_with fail
  refine wp_loop_rounds 1 ?_
  rw [rounds_succ]
  go_wp2_with fail
  go_ret
  exact ⟨by first | rfl | simp, Below.refl _ _⟩
theorem e_rw (A : Option Addr) (c : Nat) (w : World) : Calls Try.prog 8 #[.slice A 0 c] w fun e w' => e = .returned (.slice none 0 0) ∧ Below w.heap.size w w' := by
  go_enter Try.func8, Try.ntmps8
  go_wp2_with fail
  refine wp_loop_rounds 1 ?_
  rw [rounds_succ]
  go_wp2_with fail
  go_ret
  exact ⟨by first | rfl | simp, Below.refl _ _⟩
theorem cw_size : (Try.prog.info? 37).map (·.size) = some 9 := by kernel_rfl
theorem law_empty (A : Option Addr) (c : Nat) (w : World) : Calls Try.prog 3 #[.slice A 0 c] w fun e w' => e = .returned (.bool true) ∧ Below w.heap.size w w' := by
  have HK := Lib.hid (fun W : World => known25 W)
  go_enter Try.func3, Try.ntmps3
  go_wp2_with fail
  refine (e_heavy A c w).mono ?_; rintro e1 w1 ⟨rfl, k1⟩
  go_wp2_with fail
  refine (e_cw A c w1).mono ?_; rintro e2 w2 ⟨rfl, k2⟩
  go_wp2_with fail
  refine (e_plain A c w2).mono ?_; rintro e3 w3 ⟨rfl, k3⟩
  go_wp2_with fail
  refine (e_rw none 0 w3).mono ?_; rintro e4 w4 ⟨rfl, k4⟩
  have HB := Lib.hid (((k1.trans (k2.mono k1.size)).trans (k3.mono (Nat.le_trans k1.size k2.size))).trans (k4.mono (Nat.le_trans k1.size (Nat.le_trans k2.size k3.size))))
  clear k1 k2 k3 k4
  go_wp2_with fail
  refine wp_loop_rounds 1 ?_
  rw [rounds_succ]
  go_wp2_with fail
  refine (HK.out _).mono ?_; rintro e5 w5 ⟨rfl, k5⟩
  go_wp2_with fail
  go_ret
  exact ⟨rfl, HB.out.trans (k5.mono HB.out.size)⟩
set_option maxRecDepth 100000 in
set_option maxHeartbeats 8000000 in
theorem law_writes (B O c : Nat) (L : List EvA) (w : World) (h : RowE w B O (L.map EvA.e)) (hl : L.length ≤ 9223372036854775807) (hE : ∀ a ∈ L, EvIn w a) (h0 : 0 < L.length) :
    Calls Try.prog 3 #[.slice (some ⟨B, O, none⟩) L.length c] w fun e w' => e = .returned (.bool true) ∧ Below w.heap.size w w' := by
  have HH := Lib.hid (heavy25 B O c L w h hl hE)
  have HK := Lib.hid (fun W : World => known25 W)
  have HR := Lib.hid h
  have HEE := Lib.hid hE
  clear h hE
  go_enter Try.func3, Try.ntmps3
  go_wp2_with fail
  refine HH.out.mono ?_; rintro e1 w1 ⟨⟨b, rfl, hb⟩, k1⟩
  cases b
  · obtain ⟨h150, hvl⟩ := hb rfl
    have hEp : ∀ (W : World), Below w.heap.size w W → ∀ k e, (L.map EvA.e)[k]? = some e → e.vl = (pvA L k).length ∧ ByL W e.A (pvA L k) ∧ (e.A = none → (pvA L k).length = 0) ∧ (pvA L k).length ≤ 100000 := by
      intro W kW k e hk
      rw [List.getElem?_map] at hk
      obtain ⟨a, ha, rfl⟩ := Option.map_eq_some_iff.1 hk
      have hm := List.mem_of_getElem? ha
      have hi := HEE.out a hm
      rw [pvA_at ha]
      refine ⟨hi.vl, hi.vby.below kW, hi.vn, ?_⟩
      have := hvl a hm
      rw [hi.vl] at this
      omega
    have HP := Lib.hid (fun m (hm : m ∈ wsN (L.map EvA.e) (pvA L) L.length) => wsN_p (N := 100000) (fun k e hk => (hEp w (Below.refl _ _) k e hk).2.2.2) hm)
    have HEP := Lib.hid hEp
    have HB1 := Lib.hid k1
    clear hb hvl hEp HH k1
    have hln : (L.map EvA.e).length = L.length := List.length_map ..
    have C2 := writes_any B O c (L.map EvA.e) (pvA L) w1 (HR.out.below HB1.out) (by omega) (HEP.out w1 HB1.out)
    rw [hln] at C2
    have HC2 := Lib.hid C2
    clear C2
    go_wp2_with fail
    refine HC2.out.mono ?_; rintro e2 w2 ⟨⟨v1, L1, rfl, hs1, hm1⟩, k2⟩
    have HB2 := Lib.hid (HB1.out.trans (k2.mono HB1.out.size))
    have HS1 := Lib.hid hs1
    clear HC2 k2 hs1
    have C3 := law_plain25 B O c (L.map EvA.e) w2 (HR.out.below HB2.out) (by omega)
    rw [hln] at C3
    have HC3 := Lib.hid C3
    clear C3
    go_wp2_with fail
    refine HC3.out.mono ?_; rintro e3 w3 ⟨⟨v2, rfl, ho⟩, k3⟩
    have HB3 := Lib.hid (HB2.out.trans (k3.mono HB2.out.size))
    have HS13 := Lib.hid (HS1.out.below k3)
    obtain ⟨g2, cap2, rfl, _, _, hg2⟩ := row_shape ho h0
    rw [← hln] at ho
    have HRE := Lib.hid (row_ev ho hg2)
    clear HC3 k3 HS1 ho hg2
    have C4 := ref_writes25 g2 0 cap2 (L.map EvA.e) (pvA L) w3 HRE.out (by omega) (HEP.out w3 HB3.out)
    rw [hln] at C4
    have HC4 := Lib.hid C4
    clear C4
    go_wp2_with fail
    refine HC4.out.mono ?_; rintro e4 w4 ⟨⟨v3, L3, rfl, hs3, hm3⟩, k4⟩
    have HB4 := Lib.hid (HB3.out.trans (k4.mono HB3.out.size))
    have hs1 := HS13.out.below k4
    clear HC4 k4 HS13 HRE
    obtain ⟨A1, c1, rfl⟩ := row_shapeQ hs1.row
    obtain ⟨A3, c3, rfl⟩ := row_shapeR5 hs3.row
    have hmm : L1.map Wq.m = L3.map Wq.m := hm1.trans hm3.symm
    have hl3 : L3.length = L1.length := by
      have := congrArg List.length hmm
      simpa using this.symm
    have hl1 : L1.length ≤ 150 := by
      have h1 := congrArg List.length hm1
      rw [List.length_map] at h1
      have := wsN_len (L.map EvA.e) (pvA L) L.length
      omega
    have HM := Lib.hid (And.intro hmm hm1)
    have HL3 := Lib.hid hl3
    have HS1 := Lib.hid hs1
    have HS3 := Lib.hid hs3
    rw [hl3]
    clear hs1 hs3 hmm hm1 hm3 hln hl3
    go_wp2_with fail
    go_loopw [5] (fun i wr => ∃ k : Nat, k ≤ L1.length ∧ i = .int .i64 (k : Int) ∧ Below w4.heap.size w4 wr) (fun i _ => L1.length - (intOf i).toNat)
    case atStart => exact ⟨0, by omega, by simp, Below.refl _ _⟩
    case round =>
      obtain ⟨k, hk, rfl, hbr⟩ := hrel
      have HBR := Lib.hid hbr
      clear hbr
      have wk : IntKind.i64.wrap ((k : Int) + 1) = (k : Int) + 1 := IntWalk.i64_in _ (by omega)
      by_cases h1 : k < L1.length
      · as_aux_lemma =>
        have t1 : decide ((k : Int) < (L1.length : Int)) = true := by simpa using h1
        have hki : (k : Int) < (L1.length : Int) := by omega
        obtain ⟨x, hx⟩ : ∃ x, L1[k]? = some x := ⟨_, List.getElem?_eq_getElem h1⟩
        obtain ⟨y, hy, hxy⟩ := map_at HM.out.1 hx
        have hmem : x.m ∈ wsN (L.map EvA.e) (pvA L) L.length := by rw [← HM.out.2]; exact List.mem_map.2 ⟨x, List.mem_of_getElem? hx, rfl⟩
        have hp := HP.out x.m hmem
        obtain ⟨m, X1, d1⟩ := x
        obtain ⟨m', X3, d3⟩ := y
        have hmm : m = m' := hxy
        subst hmm
        replace hp : m.p.length ≤ 100000 := hp
        obtain ⟨g1, hA1, hg1, r1⟩ := (HS1.out.below HBR.out).range hx
        have hs3 := HS3.out.below HBR.out
        obtain ⟨g3, hA3, hg3, r3⟩ := hs3.range hy
        have HY := Lib.hid (And.intro ((HS1.out.below HBR.out).at_ _ (List.mem_of_getElem? hx)).1 (hs3.at_ _ (List.mem_of_getElem? hy)).1)
        have H1 := Lib.hid h1
        have HPP := Lib.hid hp
        clear hx hy hmem h1 hk hs3 hxy hp
        subst hA1 hA3
        go_upto_region 9 with fail
        refine wp_region_held_drew (S := fun w' => w'.rangeAt g1 (k * 9) (Wq.mk m X1 d1).cs ∧ w'.rangeAt g3 (k * 9) (Wq.mk m X3 d3).cs) (by kernel_rfl) ?_ (fun hHeld => ?_)
        · exact ⟨r1, r3⟩
        have kd : Below wr.heap.size wr wr.drew := (Below.refl _ _).drew
        obtain ⟨V1, hV1⟩ : ∃ V1, wr.drew = V1 := ⟨_, rfl⟩
        rw [hV1] at kd hHeld ⊢
        clear hV1
        replace r1 := range_below r1 kd hg1
        replace r3 := range_below r3 kd hg3
        have HY1 := Lib.hid (And.intro (HY.out.1.below kd) (HY.out.2.below kd))
        have HBV := Lib.hid (HBR.out.trans (kd.mono HBR.out.size))
        replace hg1 := Nat.lt_of_lt_of_le hg1 kd.size
        replace hg3 := Nat.lt_of_lt_of_le hg3 kd.size
        clear kd
        refine tk9 0 ?_
        refine tk9 1 ?_
        refine tk9 2 ?_
        refine tk9 3 (hy := yieldsIf_load_mid (by rfl) 37 (.tmp 26) rfl g1 (k * 9) rfl (Wq.mk m X1 d1).cs _ (fun w' hw => hw.1) Try.underlying37 rfl cw_size) ?_
        refine tk9 4 ?_
        refine tk9 5 ?_
        refine tk9 6 ?_
        refine tk9 7 (hy := yieldsIf_load_mid (by rfl) 38 (.tmp 30) rfl g3 (k * 9) rfl (Wq.mk m X3 d3).cs _ (fun w' hw => hw.2) Try.underlying38 rfl rw_size) ?_
        refine wpAnyH_ready (rs := [8]) (by kernel_rfl) (by simp) ?_
        refine AllReadyH.cons rfl (fun K hK => ?_) (AllReadyH.nil)
        go_simp
        (go_at_call 10; refine (written_same m X1 X3 d1 d3 V1 (Nat.le_trans HPP.out (by omega)) HY1.out.1 HY1.out.2).mono ?_; rintro e5 V2 ⟨rfl, k5⟩)
        have HB5 := Lib.hid (HBV.out.trans (k5.mono HBV.out.size))
        replace r1 := range_below r1 k5 hg1
        replace r3 := range_below r3 k5 hg3
        clear k5
        (try dsimp only)
        refine hK.out _ _ ?_ (fun hHeld => ?_)
        · exact ⟨r1, r3⟩
        clear hK K
        (try simp only [Act.put, List.setIfInBounds_toArray, List.set_cons_zero, List.set_cons_succ, List.getElem_toArray, List.getElem_cons_succ, List.getElem_cons_zero])
        refine tk9 9 ?_
        refine wpAnyH_done (by kernel_rfl) ?_ _
        clear hHeld r1 r3 hg1 hg3
        go_wp2_with fail
        go_roundw
        case rel => exact ⟨k + 1, by have := H1.out; omega, by simp, HB5.out⟩
        all_goals ((try simp only [intOf]); have := H1.out; omega)
      · as_aux_lemma =>
        have t1 : decide ((k : Int) < (L1.length : Int)) = false := by simp; omega
        obtain rfl : k = L1.length := by omega
        clear hk h1
        go_wp2_with fail
        refine (HK.out _).mono ?_; rintro e9 w9 ⟨rfl, k9⟩
        have HB9 := Lib.hid ((HB4.out.trans (HBR.out.mono HB4.out.size)).trans (k9.mono (Nat.le_trans HB4.out.size HBR.out.size)))
        clear k9
        go_wp2_with fail
        go_ret
        exact ⟨rfl, HB9.out⟩
  · as_aux_lemma =>
    clear hb
    go_wp2_with fail
    go_ret
    exact ⟨rfl, k1⟩
set_option maxRecDepth 100000 in
theorem causalWrites_lifted (os : Os) (started : os.Started) (H : Type) (enc : TypeId × Value → H) :
    ReturnsInHanded {} Try.checked os 3 .any (Rows.causalWritesSpec.pre6 enc Try.prog Try.f3 Rows.causalWritesRow.domain false) (Rows.causalWritesSpec.post enc Try.prog Try.f3 false true false false) := by
  refine returnsInHanded_of_change_sized (C := Try.checked) law_own started (by kernel_rfl) Try.func3
    (ChangeSpec.witness6 (enc := enc) (C := Try.checked) false ⟨#[], #[.slice none 0 0], []⟩ 8 (by kernel_rfl) (by kernel_rfl) (by kernel_rfl) (by kernel_rfl)) ?_
  intro W base args ds gs before hval0 hW hcnd hsz0 _
  have hval : ∀ (j : Nat) t v, Try.f3.params[j]? = some t → args[j]? = some v → Value.okWide Try.prog W .any base t v := hval0
  have hsz : (DataW.weightsEach Try.prog (Try.f3.params.toList ++ Rows.causalWritesSpec.plain.varTypes Try.prog) (ds ++ gs)).all (· ≤ reachBytes) = true := hsz0
  have hW' := hW
  obtain ⟨p, q, hA0, hV, rfl, hfz, hnd⟩ := hW
  have hA : DataW.TrodAll enc Try.prog W 0 (fun _ => true) true Try.f3.params.toList args.toList ds p := hA0
  rw [Try.params3] at hA hval hsz
  have hsame : (Rows.causalWritesSpec.fn H (ds ++ gs)).results = [.lit (.bool true)] ∧ (Rows.causalWritesSpec.fn H (ds ++ gs)).args = ds ∧ (Rows.causalWritesSpec.fn H (ds ++ gs)).vars = [] → ∀ W', Below W.heap.size W W' → Rows.causalWritesSpec.post enc Try.prog Try.f3 false true false false W args (.bool true) W' :=
    fun h W' hb => law_post (tb := 4) hW' law_laid (by kernel_rfl) rfl Try.underlying4 h.1 h.2.1 rfl h.2.2 hb
  obtain ⟨v0, vs0, d0, ds0, p0, q0, hargs, rfl, rfl, h0, r0⟩ := trodAll_cons hA
  obtain ⟨rfl, rfl, rfl⟩ := trodAll_nil r0
  obtain rfl : args = #[v0] := by cases args; simp_all
  obtain ⟨rfl, rfl⟩ := trodVars_none hV
  have hpost := hsame ⟨rfl, rfl, rfl⟩
  clear hsame hA0 hval0 hsz0
  obtain ⟨L, LA, lc, rfl, s1, s2, s3, s4, s5, s6⟩ := open_rows (fun a : EvA => a.e.cs) 18 (by omega) (fun _ => rfl) Try.underlying22 event_cells25 (fun a => EvIn W a) (fun _ _ => True) ⟨⟨0, 0, 0, 0, 0, 0, 0, 0, ⟨#[]⟩, ⟨#[]⟩, none, 0, 0, 0, 0, 0, 0, false, none, 0, 0, none, 0, 0⟩, [], [], []⟩ (fun fuel cs x h1 h2 => event_trod fuel cs x h1 h2) (hval 0 22 v0 rfl rfl) h0
  have hw : Calls Try.prog 3 #[.slice LA L.length lc] W fun e w' => e = .returned (.bool true) ∧ Below W.heap.size W w' := by
    rcases Nat.eq_zero_or_pos L.length with h | h
    · rw [h]
      exact law_empty LA lc W
    · obtain ⟨B, O, rfl, hr⟩ := rowE_of s3 h
      exact law_writes B O lc L W hr (by unfold maxLen at s2; omega) s4 h
  exact (hw).mono fun e W' ⟨he, hb⟩ => ⟨_, he, hpost W' hb⟩
theorem causalWrites_holds : Rows.CausalWritesSaid :=
  OpenClaim.holds_of_wide 3 Try.f3 rfl rfl rfl rfl rfl rfl rfl ⟨rfl, rfl, rfl, rfl, rfl⟩ rfl rfl rfl rfl rfl (by kernel_rfl) Try.func3 (by kernel_rfl)
    (of_decide_eq_true (by kernel_rfl)) (by unfold Func.isWrapper; first | (rw [if_pos (by decide +kernel)]; kernel_rfl) | (rw [if_neg (by decide +kernel)]; exact ⟨rfl, rfl⟩))
    (fun os started H enc _ => causalWrites_lifted os started H enc)
end Go.Proofs.Ytdjhpajmbddffaa
